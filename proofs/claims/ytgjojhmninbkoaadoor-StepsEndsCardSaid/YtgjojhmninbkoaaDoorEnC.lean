import Derived.Orders
import Derived.Below
import Derived.Deep.RegionHeld
import Derived.WalkKit
import Derived.KernelRfl
import Derived.Laws.Rows
import Derived.Laws.AppendOwn
import Derived.Laws.Strings
import Derived.Laws.Small
import Derived.Lib.Hide
import Derived.IntWalk
import Derived.Laws.Tables
import Derived.Laws.Concat
import Derived.Laws.MakeOwn
import Derived.Test.YtgjojhmninbkoaaDoorProg
import Derived.Test.YtgjojhmninbkoaaDoorRows
import Derived.Lib.LaidTab
import Derived.Lib.ItoaNum
import Derived.Lib.TrailingZeros
import Derived.Stop.LaidErr
import Derived.WalkSmall
import Derived.LaidMore
import Derived.Shelf.Spec.TrailingZeros
import Derived.Laws.BitsAllLaws
import Derived.Laws.Bits64
import Derived.Deep.QuietTactic
import Derived.BigQuiet
import Derived.RegionTactic
import Derived.BigRegion
import Derived.Deep.RegionHeld3
import Derived.ChangeAlike
import Derived.RangeFuncNested
import Derived.RangeFuncBound
import Derived.RangeFuncCalls
import Derived.RangeFuncLeaves
import Derived.Shelf.Abstract
import Derived.Shelf.RegionOpen
import Derived.OwnWalkIn
import Derived.TacticsInMore
import Derived.LoopNIn
import Derived.LoopIn
import Derived.Laws.Bits128
import Derived.Deep.AppendLies
import Derived.Shelf.Strconv.Itoa0
import Derived.Shelf.Strconv.Itoa1
import Derived.Shelf.LaysM
import Derived.Shelf.Strconv.Itoa2
import Derived.Shelf.Strconv.AppendUint10
import Derived.Shelf.Strconv.AppendInt10
import Derived.Shelf.Strconv.AppendIntPublic10
import Derived.Shelf.Slices.Reverse
import Derived.Ground.Names2Prog
import Derived.Shelf.Slices.Clone
import Derived.Shelf.Slices.Cells
import Derived.Sort.Grow
import Derived.Maps.AppendAt
import Derived.Lib.OthersKept
import Derived.Laws.IdiomStrings
import Derived.StillTailTactics
import Derived.Deep.RegionLaw
import Derived.Deep.DeepCutAuto
import Derived.Deep.CutRange
import Derived.Deep.RegionWith
import Derived.Laws.Bits64b
import Derived.Deep.DrawnRows
import Derived.Lib.SliceRun
import Derived.Laws.OwnMore
import Derived.OwnWalk
import Derived.WalkSpells
import Derived.Lib.Join
import Derived.Lib.OwnBridge
import Derived.Test.YtgjojhmninbkoaaDoorEnA
import Derived.Test.YtgjojhmninbkoaaDoorEnB
set_option maxRecDepth 100000
set_option maxHeartbeats 4000000
set_option linter.unusedVariables false
set_option linter.unusedVariables false
set_option linter.unusedSimpArgs false
set_option linter.unusedSectionVars false
set_option linter.unnecessarySimpa false
namespace Go.Proofs.YtgjojhmninbkoaaDoor
open Go.RowKit
attribute [local go_sem ↓] Go.wp_at_zero Go.wp_at_succ
theorem urow_of_own {w : World} {base : Nat} {v : Value} {n : Nat} {rows : List Nat} (h : w.ownsRow base 33 1 v n (u64s rows)) :
  n = rows.length ∧ ∃ a cap, v = .slice a n cap ∧ VRow w a (u64s rows) ∧ ∀ ad, a = some ad → base ≤ ad.block := by
 have hl := h.1
 rw [u64s_length] at hl
 refine ⟨by omega, ?_⟩
 rcases h.2 with ⟨rfl, hn⟩ | ⟨g, cap, cur, rfl, hg, hh, h1, h2, h3, h4⟩
 ·have : rows = [] := List.length_eq_zero_iff.1 (by omega)
  subst this
  exact ⟨none, 0, by rw [hn], .inl rfl, fun ad e => by cases e⟩
 ·refine ⟨some ⟨g, 0, none⟩, cap, rfl, .inr ⟨g, 0, rfl, fun i u hi => ?_⟩, fun ad e => by cases e; exact hg⟩
  rw [← h4] at hi
  rw [List.getElem?_take] at hi
  split at hi
  ·unfold World.cell?
   simp only [hh, Nat.zero_add]
   simpa using hi
  ·cases hi
theorem PIs.rows64 {w : World} {t n : Int} {l : Nat} {f : WF} {a : PF} (h : PIs w t n f a) : f.rl ≤ 64 ∧ f.cl ≤ 64 := by
 have h1 := h.at_.rl; have h2 := h.at_.cl; have h3 := h.pf; have h4 := h.ok
 subst h3
 unfold WF.pf at h4
 generalize hr : f.rows = rows at *
 generalize hc : f.cells = cells at *
 generalize f.g = g at *
 generalize f.z = z at *
 generalize f.c = c at *
 have key : rows.length ≤ 64 ∧ cells.length ≤ 64 := by
  generalize hp : (⟨z, c, g, rows, cells⟩ : PF) = p at h4
  cases h4 with
  | zero => cases hp; exact ⟨by decide, by decide⟩
  | bool h => cases hp; exact ⟨by decide, by decide⟩
  | cost c h h0 h1 => cases hp; exact ⟨by decide, by decide⟩
  | facts m g rows h hn hg => cases hp; exact ⟨by rw [hg.hl]; exact hg.hm, by decide⟩
  | cells m cs h hn hv => cases hp; exact ⟨by decide, by rw [hv.len]; exact hv.le⟩
 omega
theorem cclone_is (a : Option Addr) (cap : Nat) (cs : List Cl) (w : World) (hm : cs.length ≤ 64) (hrow : CRow w a cs) (n : Nat) (hn : cs.length = n) :
  Calls Tryd.prog 46 #[.slice a n cap] w fun e w' => ∃ a2 c2, e = .returned (.slice a2 n c2) ∧ CRow w' a2 cs ∧ (∀ ad, a2 = some ad → w.heap.size ≤ ad.block) ∧ Below w.heap.size w w' := by
 subst hn
 refine (clone_any a cap cs w hm hrow).mono ?_
 rintro e w' ⟨v, rfl, hown, hb⟩
 obtain ⟨_, a2, c2, rfl, hr, hl⟩ := crow_of_own hown
 exact ⟨a2, c2, rfl, hr, fun ad e => (hl ad e).1, hb⟩
theorem copied_plain (t n : Int) (f : WF) (x : PF) (w : World) (h : PIs w t n f x) :
  Calls Tryd.prog 34 #[f.val] w fun e w' => ∃ g : WF, e = .returned g.val ∧ PNew w.heap.size w' t n g x ∧ Below w.heap.size w w' := by
 obtain ⟨r64, c64⟩ := h.rows64 (l := 0)
 have HI := Lib.hid h
 have hrl := h.at_.rl; have hcl := h.at_.cl; have hpl := h.pl
 obtain ⟨z, c, g, ra, rl, rc, rows, ca, cl, cc, cells, pa, pl, pc⟩ := f
 dsimp only at hrl hcl hpl r64 c64
 subst hpl
 show Calls Tryd.prog 34 #[.agg #[.bool z, .int .i64 c, .int .u64 (g : Int), .slice ra rl rc, .slice ca cl cc, .slice pa 0 pc]] w _
 have HRL := Lib.hid hrl; have HCL := Lib.hid hcl
 obtain ⟨t0, t1⟩ := two_boxes2 w #[.bool z, .int .i64 c, .int .u64 (g : Int), .slice ra rl rc, .slice ca cl cc, .slice pa 0 pc] #[.bool false, .int .i64 0, .int .u64 0, .slice none 0 0, .slice none 0 0, .slice none 0 0] 40 40
 have T0 := Lib.hid t0; have T1 := Lib.hid t1
 have hB := Lib.hid (wbox w #[.bool z, .int .i64 c, .int .u64 (g : Int), .slice ra rl rc, .slice ca cl cc, .slice pa 0 pc] #[.bool false, .int .i64 0, .int .u64 0, .slice none 0 0, .slice none 0 0, .slice none 0 0] 40 40)
 have hsz : ((w.alloc (.cells #[.bool z, .int .i64 c, .int .u64 (g : Int), .slice ra rl rc, .slice ca cl cc, .slice pa 0 pc] 40)).alloc (.cells #[.bool false, .int .i64 0, .int .u64 0, .slice none 0 0, .slice none 0 0, .slice none 0 0] 40)).heap.size = w.heap.size + 1 + 1 := by simp
 obtain ⟨W0, hW0⟩ : ∃ W, (w.alloc (.cells #[.bool z, .int .i64 c, .int .u64 (g : Int), .slice ra rl rc, .slice ca cl cc, .slice pa 0 pc] 40)).alloc (.cells #[.bool false, .int .i64 0, .int .u64 0, .slice none 0 0, .slice none 0 0, .slice none 0 0] 40) = W := ⟨_, rfl⟩
 rw [hW0] at hB T0 T1 hsz
 have HSZ := Lib.hid hsz
 obtain ⟨x0, x1, x2, x3, x4, x5⟩ := six_cells T0.out
 have HAT : Hid (WF.At w ⟨z, c, g, ra, rl, rc, rows, ca, cl, cc, cells, pa, 0, pc⟩) := h.at_
 have R64 := Lib.hid r64; have C64 := Lib.hid c64
 clear t0 t1 hsz h hrl hcl r64 c64
 go_enter Tryd.func34, Tryd.ntmps34
 go_wp2_with fail
 refine (clone_is ra rc rows _ (by rw [HRL.out]; exact Nat.le_trans R64.out (by decide)) (HAT.out.rows.below hB.out) rl HRL.out).mono ?_
 rintro e w1 ⟨v, rfl, hown, hb1⟩
 obtain ⟨a1, c1, rfl, hv1, hl1⟩ := (urow_of_own hown).2
 have HV1 := Lib.hid hv1; have HL1 := Lib.hid hl1
 clear hown hv1 hl1 x0 x1 x2 x3 x4 x5
 have U0 := Lib.hid (heap_old T0.out hb1); have U1 := Lib.hid (heap_old T1.out hb1)
 have hB1 := Lib.hid (hB.out.trans (hb1.mono hB.out.size))
 obtain ⟨x0, x1, x2, x3, x4, x5⟩ := six_cells U0.out
 have f3 := six_frozen U0.out 3
 have V0 := Lib.hid (heap_setCell_same w1 w.heap.size 3 _ _ (.slice a1 rl c1) U0.out)
 have hne : w.heap.size + 1 ≠ w.heap.size := by omega
 have V1 := Lib.hid (heap_other (B := w.heap.size) (j := 3) (c := .slice a1 rl c1) U1.out hne)
 have hB2 := Lib.hid (hB1.out.setCell (p := ⟨w.heap.size, 3, none⟩) (Nat.le_refl _) (.slice a1 rl c1))
 have hs1 : W0.heap.size ≤ (w1.setCell ⟨w.heap.size, 3, none⟩ (.slice a1 rl c1)).heap.size := by simpa [World.setCell] using hb1.size
 have HS1 := Lib.hid hs1
 obtain ⟨W1, hW1⟩ : ∃ W, w1.setCell ⟨w.heap.size, 3, none⟩ (.slice a1 rl c1) = W := ⟨_, rfl⟩
 have HA1 := Lib.hid (HV1.out.above HL1.out ((Above.refl W0.heap.size w1).setCell (p := ⟨w.heap.size, 3, none⟩) (by have := HSZ.out; show w.heap.size < _; omega) (.slice a1 rl c1)))
 rw [hW1] at V0 V1 hB2 HS1 HA1
 clear hs1 hne x0 x1 x2 x4 x5
 obtain ⟨y0, y1, y2, y3, y4, y5⟩ := six_cells V0.out
 go_wp2_with fail
 refine (cclone_is ca cc cells _ (by rw [HCL.out]; exact C64.out) (HAT.out.cells.below hB2.out) cl HCL.out).mono ?_
 rintro e w2 ⟨a2, c2, rfl, hv2, hl2, hb2⟩
 have HV2 := Lib.hid hv2; have HL2 := Lib.hid hl2
 clear hv2 hl2 x3 y0 y1 y2 y3 y4 y5 f3
 have Y0 := Lib.hid (heap_old V0.out hb2); have Y1 := Lib.hid (heap_old V1.out hb2)
 obtain ⟨x0, x1, x2, x3, x4, x5⟩ := six_cells Y0.out
 have f4 := six_frozen Y0.out 4
 have hB3 := Lib.hid (hB2.out.trans (hb2.mono hB2.out.size))
 have Z0 := Lib.hid (heap_setCell_same w2 w.heap.size 4 _ _ (.slice a2 cl c2) Y0.out)
 have hne : w.heap.size + 1 ≠ w.heap.size := by omega
 have Z1 := Lib.hid (heap_other (B := w.heap.size) (j := 4) (c := .slice a2 cl c2) Y1.out hne)
 have hB4 := Lib.hid (hB3.out.setCell (p := ⟨w.heap.size, 4, none⟩) (Nat.le_refl _) (.slice a2 cl c2))
 have HR1 := Lib.hid ((HA1.out.below hb2).above HL1.out ((Above.refl W0.heap.size w2).setCell (p := ⟨w.heap.size, 4, none⟩) (by have := HSZ.out; show w.heap.size < _; omega) (.slice a2 cl c2)))
 have HL3 : Hid (∀ ad, a2 = some ad → W0.heap.size ≤ ad.block) := fun ad e => Nat.le_trans HS1.out (HL2.out ad e)
 have HR2 := Lib.hid (HV2.out.above HL3.out ((Above.refl W0.heap.size w2).setCell (p := ⟨w.heap.size, 4, none⟩) (by have := HSZ.out; show w.heap.size < _; omega) (.slice a2 cl c2)))
 obtain ⟨W2, hW2⟩ : ∃ W, w2.setCell ⟨w.heap.size, 4, none⟩ (.slice a2 cl c2) = W := ⟨_, rfl⟩
 rw [hW2] at Z0 Z1 hB4 HR1 HR2
 clear hne
 obtain ⟨p0, p1, p2, p3, p4, p5⟩ := six_cells Z0.out
 have f5 := six_frozen Z0.out 5
 go_wp2_with fail
 go_loopw [3, 19] (fun p i wr => p = .slice none 0 0 ∧ i = .int .i64 0 ∧ W2 = wr) (fun _ _ _ => 0)
 case atStart => exact ⟨rfl, rfl, rfl⟩
 case round =>
  obtain ⟨rfl, rfl, rfl⟩ := hrel
  have N0 := Lib.hid (heap_setCell_same W2 w.heap.size 5 _ _ (.slice none 0 0) Z0.out)
  have hne : w.heap.size + 1 ≠ w.heap.size := by omega
  have N1 := Lib.hid (heap_other (B := w.heap.size) (j := 5) (c := .slice none 0 0) Z1.out hne)
  obtain ⟨W3, hW3⟩ : ∃ W, W2.setCell ⟨w.heap.size, 5, none⟩ (.slice none 0 0) = W := ⟨_, rfl⟩
  rw [hW3] at N0 N1
  have K0 := N0.out
  obtain ⟨q0, q1, q2, q3, q4, q5⟩ := six_cells N0.out
  obtain ⟨r0, r1, r2, r3, r4, r5⟩ := six_cells N1.out
  have g0 := six_frozen N1.out 0; have g1 := six_frozen N1.out 1; have g2 := six_frozen N1.out 2; have g3 := six_frozen N1.out 3; have g4 := six_frozen N1.out 4; have g5 := six_frozen N1.out 5
  have hA3 : Above W0.heap.size W2 W3 := by rw [← hW3]; exact (Above.refl W0.heap.size W2).setCell (p := ⟨w.heap.size, 5, none⟩) (by have := HSZ.out; show w.heap.size < _; omega) _
  have HA3 := Lib.hid hA3
  have hB5 : Hid (Below w.heap.size w W3) := by show Below _ _ _; rw [← hW3]; exact hB4.out.setCell (p := ⟨w.heap.size, 5, none⟩) (Nat.le_refl _) _
  clear K0 hne hA3
  go_wp2_with fail
  have NS := Lib.hid (six_set (v0 := .bool z) (v1 := .int .i64 c) (v2 := .int .u64 (g : Int)) (v3 := .slice a1 rl c1) (v4 := .slice a2 cl c2) (v5 := .slice none 0 0) N1.out)
  obtain ⟨s0, s1, s2, s3, s4, s5⟩ := six_cells NS.out
  have hlt := HSZ.out
  refine bodyPost_ret (v := .agg #[.bool z, .int .i64 c, .int .u64 (g : Int), .slice a1 rl c1, .slice a2 cl c2, .slice none 0 0]) ?_ rfl ⟨⟨z, c, g, a1, rl, c1, rows, a2, cl, c2, cells, none, 0, 0⟩, rfl, ?_, put6_below _ _ _ _ _ _ hB5.out (Nat.le_succ _)⟩
  rotate_left
  ·have hA6 := put6_above (.bool z) (.int .i64 c) (.int .u64 (g : Int)) (.slice a1 rl c1) (.slice a2 cl c2) (.slice none 0 0) HA3.out (B := w.heap.size + 1) (by omega)
   have hAt := WF.At.mk (f := ⟨z, c, g, a1, rl, c1, rows, a2, cl, c2, cells, none, 0, 0⟩) (HR1.out.above HL1.out hA6) HRL.out HAT.out.g64 HAT.out.r64 (HR2.out.above HL3.out hA6) HCL.out HAT.out.bits HAT.out.cmax
   have hPf : WF.pf ⟨z, c, g, a1, rl, c1, rows, a2, cl, c2, cells, none, 0, 0⟩ = x := HI.out.pf
   exact (PNew.mk (n := W0.heap.size) ⟨hAt, hPf, HI.out.ok, rfl⟩ HL1.out HL3.out).mono (by omega)
  ·simp [results, Tryd.results34, go_sem, s0, s1, s2, s3, s4, s5]
end Go.Proofs.YtgjojhmninbkoaaDoor
namespace Go.Proofs.YtgjojhmninbkoaaDoor
open Go Go.RowKit
theorem one4_is (m : Nat) (hm : m ≤ 64) (w : World) : Calls Tryd.prog 43 #[.int .i64 (m : Int)] w (CellsRet (unitC m) 0 w) := by
 have h0 : dimC (m : Int) = 0 := by unfold dimC; rw [if_neg (by omega)]
 have := one_any (m : Int) w 0 h0
 rwa [show unitR (m : Int) = unitC m by unfold unitR; rw [if_pos h0, Int.toNat_natCast]] at this
theorem extA_plain (t n : Int) (sa : Option Addr) (sc : Nat) (f g : WF) (x y : PF) (w : World) (hp : plainB t n 0 = true) (hx : PIs w t n f x) (hy : PIs w t n g y) (ht : Tabs w) :
  Calls Tryd.prog 35 #[.agg #[.int .i64 t, .int .i64 n, .slice sa 0 sc], f.val, g.val] w (WRet (.one t n) (.one (extP t n x y)) w) := by
 refine enterF (args := [.agg #[.int .i64 t, .int .i64 n, .slice sa 0 sc], f.val, g.val]) Tryd.func35 rfl Tryd.ntmps35 rfl ?_
 have hS := St.start w
 refine seqF (regF ?_)
 refine op_box (cs := [_, _, _]) hS rfl rfl rfl ?_
 clear hS; intro B1 W1 hS
 refine op_box (cs := [_, _, _, _, _, _]) hS rfl rfl rfl ?_
 clear hS; intro B2 W2 hS
 refine op_box (cs := [_, _, _, _, _, _]) hS rfl rfl rfl ?_
 clear hS; intro B3 W3 hS
 refine op_alloc (cs := [_, _, _, _, _, _]) hS Tryd.zeroValue40 rfl rfl ?_
 clear hS; intro B4 W4 hS
 refine endF (XF.thenN ?_)
 refine seqF ?_
 refine seqF (regF ?_)
 refine op_field (o' := 0) fa_40_0 rfl rfl rfl ?_
 refine op_load Tryd.isAgg4 rfl (cell_own (hS.at_ 2 rfl) rfl) rfl ?_
 refine op_move rfl rfl ?_
 refine op_cases (d := 10) rfl (fun hc => ?_) (fun hc => ?_)
 ·have hg10 := hc; clear hc
  have hz := hg10
  refine op_notF (d := 10) rfl rfl rfl rfl ?_
  refine op_notF (d := 10) rfl rfl rfl rfl ?_
  refine op_pickT rfl rfl rfl ?_
  refine endF (XF.thenN ?_)
  refine condT rfl ?_
  refine seqF (regF ?_)
  refine op_build (us := [(0, .bool _)]) rfl (bld_40_0 _) rfl ?_
  refine op_storeA (i := 0) (vs := [_, _, _, _, _, _]) (cs' := [_, _, _, _, _, _]) (O' := [_, _, _, _]) hS Tryd.sizeOf40 rfl rfl rfl rfl rfl rfl rfl ?_
  clear hS; intro W5 hS
  refine endF (XF.thenN ?_)
  refine retF ?_
  refine XF.thenR ?_
  refine XF.res (resC1 (vs := [_, _, _, _, _, _]) Tryd.results35 Tryd.isAgg40 Tryd.sizeOf40 rfl (CellsAt.own (j := 0) (m := 6) (hS.at_ 0 rfl) rfl)) ?_
  exact ext_zL hx hz hS.below
 ·have hg10 := hc; clear hc
  have hf := hg10
  refine op_wantedF (d := 10) rfl rfl ?_
  refine op_field (o' := 0) fa_40_0 rfl rfl rfl ?_
  refine op_wantedF (d := 10) rfl rfl ?_
  refine op_load Tryd.isAgg4 rfl (cell_own (hS.at_ 1 rfl) rfl) rfl ?_
  refine op_pickF rfl rfl rfl ?_
  refine endF (XF.thenN ?_)
  refine condF rfl (fun hc => ?_) (fun hc => ?_)
  ·have hc13 := hc; clear hc
   refine seqF (regF ?_)
   refine op_build (us := [(0, .bool _)]) rfl (bld_40_0 _) rfl ?_
   refine op_storeA (i := 0) (vs := [_, _, _, _, _, _]) (cs' := [_, _, _, _, _, _]) (O' := [_, _, _, _]) hS Tryd.sizeOf40 rfl rfl rfl rfl rfl rfl rfl ?_
   clear hS; intro W6 hS
   refine endF (XF.thenN ?_)
   refine retF ?_
   refine XF.thenR ?_
   refine XF.res (resC1 (vs := [_, _, _, _, _, _]) Tryd.results35 Tryd.isAgg40 Tryd.sizeOf40 rfl (CellsAt.own (j := 0) (m := 6) (hS.at_ 0 rfl) rfl)) ?_
   exact ext_zR hy hc13 hS.below
  ·have hc13 := hc; clear hc
   have hg := hc13
   refine skipF ?_
   refine XF.thenN ?_
   refine seqF (regF ?_)
   refine op_alloc (cs := [_, _, _, _, _, _]) hS Tryd.zeroValue40 rfl rfl ?_
   clear hS; intro B7 W7 hS
   refine endF (XF.thenN ?_)
   refine seqF ?_
   refine seqF (regF ?_)
   refine op_field (o' := 0) fa_25_0 rfl rfl rfl ?_
   refine op_load Tryd.isAgg22 rfl (cell_own (hS.at_ 4 rfl) rfl) rfl ?_
   refine endF (XF.thenN ?_)
   refine blockF ?_
   refine seqF (regF ?_)
   refine op_eql rfl rfl rfl ?_
   refine op_assign rfl rfl ?_
   refine endF (XF.thenN ?_)
   refine condF rfl (fun hc => ?_) (fun hc => ?_)
   ·have hc17 := of_decide_eq_true hc; clear hc
    have e2 : t = 2 := hc17
    subst e2
    refine regF ?_
    refine op_field (o' := 1) fa_25_1 rfl rfl rfl ?_
    refine op_load Tryd.isAgg3 rfl (cell_own (hS.at_ 4 rfl) rfl) rfl ?_
    refine op_field (o' := 1) fa_40_1 rfl rfl rfl ?_
    refine op_load Tryd.isAgg3 rfl (cell_own (hS.at_ 3 rfl) rfl) rfl ?_
    refine op_field (o' := 1) fa_40_1 rfl rfl rfl ?_
    refine op_load Tryd.isAgg3 rfl (cell_own (hS.at_ 2 rfl) rfl) rfl ?_
    refine op_buildSlice (us := [(0, .int .i64 _), (1, .int .i64 _)]) hS Tryd.underlying29 Tryd.sizeOf3 Tryd.zeroValue3 rfl rfl rfl (bs_29_2 _ _) rfl ?_
    clear hS; intro B8 W8 hS
    refine op_call (vs := [_, _]) hS goes_47 rfl (sum_any n (some ⟨_, 0, none⟩) 2 [f.c, g.c] _ (by simp [maxLen]) (row_own (hS.at_ 0 rfl))) rfl ?_
    rintro e W9 ⟨rfl, rfl⟩
    refine ⟨_, rfl, Below.refl _ _, fun hS' => ?_⟩
    clear hS; have hS := hS'; clear hS'
    refine op_move rfl rfl ?_
    refine op_extract rfl rfl rfl ?_
    refine op_extract rfl rfl rfl ?_
    refine op_field (o' := 1) fa_40_1 rfl rfl rfl ?_
    refine op_store (i := 1) (cs' := [_, _, _, _, _, _]) (O' := [_, _, _, _, _, _]) hS Tryd.sizeOf3 rfl rfl rfl rfl rfl rfl rfl ?_
    clear hS; intro W10 hS
    refine endF ?_
    refine XF.blkN ?_
    refine XF.thenN ?_
    refine seqF (regF ?_)
    refine op_loadA (vs := [_, _, _, _, _, _]) Tryd.isAgg40 Tryd.sizeOf40 rfl (CellsAt.own (j := 0) (m := 6) (hS.at_ 1 rfl) rfl) rfl ?_
    refine op_storeA (i := 2) (vs := [_, _, _, _, _, _]) (cs' := [_, _, _, _, _, _]) (O' := [_, _, _, _, _, _]) hS Tryd.sizeOf40 rfl rfl rfl rfl rfl rfl rfl ?_
    clear hS; intro W11 hS
    refine endF (XF.thenN ?_)
    refine retF ?_
    refine XF.res (resC1 (vs := [_, _, _, _, _, _]) Tryd.results35 Tryd.isAgg40 Tryd.sizeOf40 rfl (CellsAt.own (j := 0) (m := 6) (hS.at_ 2 rfl) rfl)) ?_
    exact wret_one (ext_f2 hp hx hy hf hg) hS.below
   ·have hc17 := of_decide_eq_false hc; clear hc
    refine seqF (regF ?_)
    refine op_eql rfl rfl rfl ?_
    refine op_assign rfl rfl ?_
    refine endF (XF.thenN ?_)
    refine condF rfl (fun hc => ?_) (fun hc => ?_)
    ·have hc31 := of_decide_eq_true hc; clear hc
     have e3 : t = 3 := hc31
     subst e3
     obtain ⟨m, rfl, hm⟩ := dim3 hp (.inl rfl)
     refine regF ?_
     refine op_field (o' := 1) fa_25_1 rfl rfl rfl ?_
     refine op_load Tryd.isAgg3 rfl (cell_own (hS.at_ 4 rfl) rfl) rfl ?_
     refine op_field (o' := 2) fa_40_2 rfl rfl rfl ?_
     refine op_loadA (vs := [_, _]) Tryd.isAgg36 Tryd.sizeOf36 rfl (CellsAt.own (j := 2) (m := 2) (hS.at_ 3 rfl) rfl) rfl ?_
     refine op_field (o' := 2) fa_40_2 rfl rfl rfl ?_
     refine op_loadA (vs := [_, _]) Tryd.isAgg36 Tryd.sizeOf36 rfl (CellsAt.own (j := 2) (m := 2) (hS.at_ 2 rfl) rfl) rfl ?_
     have hsz := hS.below.size
     refine op_call (vs := [_, _, _]) hS goes_48 rfl (extA_is _ _ _ _ _ _ _ _ _ _ (hx.at_.fat (by have := hx.rows64 (l := 0); omega) |>.below hS.below) (hy.at_.fat (by have := hy.rows64 (l := 0); omega) |>.below hS.below) (ht.below hS.below).c _ rfl _ rfl _ rfl _ _ hx.at_.rl hy.at_.rl) rfl ?_
     rintro e W12 ⟨a1, c1, rfl, hv, hl, hb⟩
     refine ⟨_, rfl, hb, fun hS' => ?_⟩
     clear hS; have hS := hS'; clear hS'
     refine op_move rfl rfl ?_
     refine op_extract rfl rfl rfl ?_
     refine op_extract rfl rfl rfl ?_
     refine op_field (o' := 2) fa_40_2 rfl rfl rfl ?_
     refine op_storeA (i := 0) (vs := [_, _]) (cs' := [_, _, _, _, _, _]) (O' := [_, _, _, _, _]) hS Tryd.sizeOf36 rfl rfl rfl rfl rfl rfl rfl ?_
     clear hS; intro W13 hS
     refine endF ?_
     refine XF.blkN ?_
     refine XF.thenN ?_
     refine seqF (regF ?_)
     refine op_loadA (vs := [_, _, _, _, _, _]) Tryd.isAgg40 Tryd.sizeOf40 rfl (CellsAt.own (j := 0) (m := 6) (hS.at_ 0 rfl) rfl) rfl ?_
     refine op_storeA (i := 1) (vs := [_, _, _, _, _, _]) (cs' := [_, _, _, _, _, _]) (O' := [_, _, _, _, _]) hS Tryd.sizeOf40 rfl rfl rfl rfl rfl rfl rfl ?_
     clear hS; intro W14 hS
     refine endF (XF.thenN ?_)
     refine retF ?_
     refine XF.res (resC1 (vs := [_, _, _, _, _, _]) Tryd.results35 Tryd.isAgg40 Tryd.sizeOf40 rfl (CellsAt.own (j := 0) (m := 6) (hS.at_ 1 rfl) rfl)) ?_
     exact wret_one (ext_f3 hx hy hf hg (hv.agree (fun ad e => (hl ad e).1) (hS.since 0 rfl)) (fun ad e => Nat.le_trans hsz (hl ad e).1)) hS.below
    ·have hc31 := of_decide_eq_false hc; clear hc
     refine seqF (regF ?_)
     refine op_eql rfl rfl rfl ?_
     refine op_assign rfl rfl ?_
     refine endF (XF.thenN ?_)
     refine condF rfl (fun hc => ?_) (fun hc => ?_)
     ·have hc44 := of_decide_eq_true hc; clear hc
      have e4 : t = 4 := hc44
      subst e4
      obtain ⟨m, rfl, hm⟩ := dim3 hp (.inr rfl)
      refine regF ?_
      refine op_field (o' := 1) fa_25_1 rfl rfl rfl ?_
      refine op_load Tryd.isAgg3 rfl (cell_own (hS.at_ 4 rfl) rfl) rfl ?_
      refine op_field (o' := 4) fa_40_3 rfl rfl rfl ?_
      refine op_load Tryd.isAgg37 rfl (cell_own (hS.at_ 3 rfl) rfl) rfl ?_
      refine op_field (o' := 4) fa_40_3 rfl rfl rfl ?_
      refine op_load Tryd.isAgg37 rfl (cell_own (hS.at_ 2 rfl) rfl) rfl ?_
      have hsz := hS.below.size
      refine op_call (vs := [_, _, _]) hS goes_49 rfl (then_is _ _ _ _ _ _ _ _ (ht.below hS.below) (by rw [hx.at_.cl]; exact hx.at_.cmax) (by rw [hy.at_.cl]; exact hy.at_.cmax) (hx.at_.cells.below hS.below) (hy.at_.cells.below hS.below) hx.at_.bits hy.at_.bits _ rfl _ _ hx.at_.cl hy.at_.cl) rfl ?_
      rintro e W15 ⟨a1, c1, rfl, hv, hl, hb⟩
      refine ⟨_, rfl, hb, fun hS' => ?_⟩
      clear hS; have hS := hS'; clear hS'
      refine op_move rfl rfl ?_
      refine op_extract rfl rfl rfl ?_
      refine op_extract rfl rfl rfl ?_
      refine op_field (o' := 4) fa_40_3 rfl rfl rfl ?_
      refine op_store (i := 0) (cs' := [_, _, _, _, _, _]) (O' := [_, _, _, _, _]) hS Tryd.sizeOf37 rfl rfl rfl rfl rfl rfl rfl ?_
      clear hS; intro W16 hS
      refine endF ?_
      refine XF.blkN ?_
      refine XF.thenN ?_
      refine seqF (regF ?_)
      refine op_loadA (vs := [_, _, _, _, _, _]) Tryd.isAgg40 Tryd.sizeOf40 rfl (CellsAt.own (j := 0) (m := 6) (hS.at_ 0 rfl) rfl) rfl ?_
      refine op_storeA (i := 1) (vs := [_, _, _, _, _, _]) (cs' := [_, _, _, _, _, _]) (O' := [_, _, _, _, _]) hS Tryd.sizeOf40 rfl rfl rfl rfl rfl rfl rfl ?_
      clear hS; intro W17 hS
      refine endF (XF.thenN ?_)
      refine retF ?_
      refine XF.res (resC1 (vs := [_, _, _, _, _, _]) Tryd.results35 Tryd.isAgg40 Tryd.sizeOf40 rfl (CellsAt.own (j := 0) (m := 6) (hS.at_ 1 rfl) rfl)) ?_
      exact wret_one (ext_f4 hx hy hf hg (hv.agree (fun ad e => (hl ad e).1) (hS.since 0 rfl)) (fun ad e => Nat.le_trans hsz (hl ad e).1)) hS.below
     ·have hc44 := of_decide_eq_false hc; clear hc
      refine seqF (regF ?_)
      refine op_eql rfl rfl rfl ?_
      refine op_assign rfl rfl ?_
      refine endF (XF.thenN ?_)
      refine condF rfl (fun hc => absurd (of_decide_eq_true hc) (by exact plain_ne5 hp)) (fun hc => ?_)
      have hc := of_decide_eq_false hc
      have e1 : t = 1 := by
       have := (plainB_tag hp).2
       omega
      subst e1
      refine skipF ?_
      refine XF.blkN ?_
      refine XF.thenN ?_
      refine seqF (regF ?_)
      refine op_loadA (vs := [_, _, _, _, _, _]) Tryd.isAgg40 Tryd.sizeOf40 rfl (CellsAt.own (j := 0) (m := 6) (hS.at_ 0 rfl) rfl) rfl ?_
      refine op_storeA (i := 1) (vs := [_, _, _, _, _, _]) (cs' := [_, _, _, _, _, _]) (O' := [_, _, _, _, _]) hS Tryd.sizeOf40 rfl rfl rfl rfl rfl rfl rfl ?_
      clear hS; intro W18 hS
      refine endF (XF.thenN ?_)
      refine retF ?_
      refine XF.res (resC1 (vs := [_, _, _, _, _, _]) Tryd.results35 Tryd.isAgg40 Tryd.sizeOf40 rfl (CellsAt.own (j := 0) (m := 6) (hS.at_ 1 rfl) rfl)) ?_
      exact wret_one (ext_f1 hx hy hf hg) hS.below
theorem oneA_plain (t n : Int) (sa : Option Addr) (sc : Nat) (w : World) (hp : plainB t n 0 = true) :
  Calls Tryd.prog 32 #[.agg #[.int .i64 t, .int .i64 n, .slice sa 0 sc]] w (WRet (.one t n) (.one (oneP t n)) w) := by
 refine enterF (args := [.agg #[.int .i64 t, .int .i64 n, .slice sa 0 sc]]) Tryd.func32 rfl Tryd.ntmps32 rfl ?_
 have hS := St.start w
 refine seqF (regF ?_)
 refine op_box (cs := [_, _, _]) hS rfl rfl rfl ?_
 clear hS; intro B1 W1 hS
 refine op_alloc (cs := [_, _, _, _, _, _]) hS Tryd.zeroValue40 rfl rfl ?_
 clear hS; intro B2 W2 hS
 refine endF (XF.thenN ?_)
 refine seqF (regF ?_)
 refine op_alloc (cs := [_, _, _, _, _, _]) hS Tryd.zeroValue40 rfl rfl ?_
 clear hS; intro B3 W3 hS
 refine endF (XF.thenN ?_)
 refine seqF ?_
 refine seqF (regF ?_)
 refine op_field (o' := 0) fa_25_0 rfl rfl rfl ?_
 refine op_load Tryd.isAgg22 rfl (cell_own (hS.at_ 2 rfl) rfl) rfl ?_
 refine endF (XF.thenN ?_)
 refine blockF ?_
 refine seqF (regF ?_)
 refine op_eql rfl rfl rfl ?_
 refine op_assign rfl rfl ?_
 refine endF (XF.thenN ?_)
 refine condF rfl (fun hc => ?_) (fun hc => ?_)
 ·have hc6 := of_decide_eq_true hc; clear hc
  have e3 : t = 3 := hc6
  subst e3
  obtain ⟨m, rfl, hm⟩ := dim3 hp (.inl rfl)
  refine regF ?_
  refine op_field (o' := 1) fa_25_1 rfl rfl rfl ?_
  refine op_load Tryd.isAgg3 rfl (cell_own (hS.at_ 2 rfl) rfl) rfl ?_
  have hsz := hS.below.size
  refine op_call (vs := [_]) hS goes_42 rfl ((oneA_is m _ _ (one_good hm).1 _ (one_good hm).2).mono fun _ _ h => FOwn.ret h) rfl ?_
  rintro e W4 ⟨a1, c1, rfl, hv, hl, hb⟩
  refine ⟨_, rfl, hb, fun hS' => ?_⟩
  clear hS; have hS := hS'; clear hS'
  refine op_move rfl rfl ?_
  refine op_extract rfl rfl rfl ?_
  refine op_extract rfl rfl rfl ?_
  refine op_field (o' := 2) fa_40_2 rfl rfl rfl ?_
  refine op_storeA (i := 0) (vs := [_, _]) (cs' := [_, _, _, _, _, _]) (O' := [_, _, _]) hS Tryd.sizeOf36 rfl rfl rfl rfl rfl rfl rfl ?_
  clear hS; intro W5 hS
  refine endF ?_
  refine XF.blkN ?_
  refine XF.thenN ?_
  refine seqF (regF ?_)
  refine op_loadA (vs := [_, _, _, _, _, _]) Tryd.isAgg40 Tryd.sizeOf40 rfl (CellsAt.own (j := 0) (m := 6) (hS.at_ 0 rfl) rfl) rfl ?_
  refine op_storeA (i := 1) (vs := [_, _, _, _, _, _]) (cs' := [_, _, _, _, _, _]) (O' := [_, _, _]) hS Tryd.sizeOf40 rfl rfl rfl rfl rfl rfl rfl ?_
  clear hS; intro W6 hS
  refine endF (XF.thenN ?_)
  refine retF ?_
  refine XF.res (resC1 (vs := [_, _, _, _, _, _]) Tryd.results32 Tryd.isAgg40 Tryd.sizeOf40 rfl (CellsAt.own (j := 0) (m := 6) (hS.at_ 1 rfl) rfl)) ?_
  exact wret_one (one_f3 hm (hv.agree (fun ad e => (hl ad e).1) (hS.since 0 rfl)) (fun ad e => Nat.le_trans hsz (hl ad e).1)) hS.below
 ·have hc6 := of_decide_eq_false hc; clear hc
  refine seqF (regF ?_)
  refine op_eql rfl rfl rfl ?_
  refine op_assign rfl rfl ?_
  refine endF (XF.thenN ?_)
  refine condF rfl (fun hc => ?_) (fun hc => ?_)
  ·have hc15 := of_decide_eq_true hc; clear hc
   have e4 : t = 4 := hc15
   subst e4
   obtain ⟨m, rfl, hm⟩ := dim3 hp (.inr rfl)
   refine regF ?_
   refine op_field (o' := 1) fa_25_1 rfl rfl rfl ?_
   refine op_load Tryd.isAgg3 rfl (cell_own (hS.at_ 2 rfl) rfl) rfl ?_
   have hsz := hS.below.size
   refine op_call (vs := [_]) hS goes_43 rfl (one4_is m hm _) rfl ?_
   rintro e W7 ⟨a1, c1, rfl, hv, hl, hb⟩
   refine ⟨_, rfl, hb, fun hS' => ?_⟩
   clear hS; have hS := hS'; clear hS'
   refine op_move rfl rfl ?_
   refine op_extract rfl rfl rfl ?_
   refine op_extract rfl rfl rfl ?_
   refine op_field (o' := 4) fa_40_3 rfl rfl rfl ?_
   refine op_store (i := 0) (cs' := [_, _, _, _, _, _]) (O' := [_, _, _]) hS Tryd.sizeOf37 rfl rfl rfl rfl rfl rfl rfl ?_
   clear hS; intro W8 hS
   refine endF ?_
   refine XF.blkN ?_
   refine XF.thenN ?_
   refine seqF (regF ?_)
   refine op_loadA (vs := [_, _, _, _, _, _]) Tryd.isAgg40 Tryd.sizeOf40 rfl (CellsAt.own (j := 0) (m := 6) (hS.at_ 0 rfl) rfl) rfl ?_
   refine op_storeA (i := 1) (vs := [_, _, _, _, _, _]) (cs' := [_, _, _, _, _, _]) (O' := [_, _, _]) hS Tryd.sizeOf40 rfl rfl rfl rfl rfl rfl rfl ?_
   clear hS; intro W9 hS
   refine endF (XF.thenN ?_)
   refine retF ?_
   refine XF.res (resC1 (vs := [_, _, _, _, _, _]) Tryd.results32 Tryd.isAgg40 Tryd.sizeOf40 rfl (CellsAt.own (j := 0) (m := 6) (hS.at_ 1 rfl) rfl)) ?_
   exact wret_one (one_f4 hm (hv.agree (fun ad e => (hl ad e).1) (hS.since 0 rfl)) (fun ad e => Nat.le_trans hsz (hl ad e).1)) hS.below
  ·have hc15 := of_decide_eq_false hc; clear hc
   refine seqF (regF ?_)
   refine op_eql rfl rfl rfl ?_
   refine op_assign rfl rfl ?_
   refine endF (XF.thenN ?_)
   refine condF rfl (fun hc => absurd (of_decide_eq_true hc) (by exact plain_ne5 hp)) (fun hc => ?_)
   have hc := of_decide_eq_false hc
   refine skipF ?_
   refine XF.blkN ?_
   refine XF.thenN ?_
   refine seqF (regF ?_)
   refine op_loadA (vs := [_, _, _, _, _, _]) Tryd.isAgg40 Tryd.sizeOf40 rfl (CellsAt.own (j := 0) (m := 6) (hS.at_ 0 rfl) rfl) rfl ?_
   refine op_storeA (i := 1) (vs := [_, _, _, _, _, _]) (cs' := [_, _, _, _, _, _]) (O' := [_, _, _]) hS Tryd.sizeOf40 rfl rfl rfl rfl rfl rfl rfl ?_
   clear hS; intro W10 hS
   refine endF (XF.thenN ?_)
   refine retF ?_
   refine XF.res (resC1 (vs := [_, _, _, _, _, _]) Tryd.results32 Tryd.isAgg40 Tryd.sizeOf40 rfl (CellsAt.own (j := 0) (m := 6) (hS.at_ 1 rfl) rfl)) ?_
   exact wret_one (one_f1 hp hc6 hc15) hS.below
end Go.Proofs.YtgjojhmninbkoaaDoor
namespace Go.Proofs.YtgjojhmninbkoaaDoor
open Go Go.RowKit
theorem extA_pair (t n u m : Int) (a1 a2 : Option Addr) (c1 c2 b off sc : Nat) (w : World) (hs1 : S3 w b off ⟨t, n, a1, 0, c1⟩) (hs2 : S3 w b (off + 3) ⟨u, m, a2, 0, c2⟩) (hp1 : plainB t n 0 = true) (hp2 : plainB u m 0 = true)(fra fca : Option Addr) (frc fcc fpc fb fo : Nat) (f1 f2 : WF) (x1 x2 : PF) (hf6 : W6 w fb fo f1) (hf7 : W6 w fb (fo + 6) f2) (hx1 : PIs w t n f1 x1) (hx2 : PIs w u m f2 x2)(gra gca : Option Addr) (grc gcc gpc gb go : Nat) (g1 g2 : WF) (y1 y2 : PF) (hg6 : W6 w gb go g1) (hg7 : W6 w gb (go + 6) g2) (hy1 : PIs w t n g1 y1) (hy2 : PIs w u m g2 y2)(ht : Tabs w) :
  Calls Tryd.prog 35 #[.agg #[.int .i64 5, .int .i64 0, .slice (some ⟨b, off, none⟩) 2 sc], .agg #[.bool false, .int .i64 0, .int .u64 0, .slice fra 0 frc, .slice fca 0 fcc, .slice (some ⟨fb, fo, none⟩) 2 fpc], .agg #[.bool false, .int .i64 0, .int .u64 0, .slice gra 0 grc, .slice gca 0 gcc, .slice (some ⟨gb, go, none⟩) 2 gpc]] w (WRet (.two t n u m) (.two (extP t n x1 y1) (extP u m x2 y2)) w) := by
 refine enterF (args := [.agg #[.int .i64 5, .int .i64 0, .slice (some ⟨b, off, none⟩) 2 sc], .agg #[.bool false, .int .i64 0, .int .u64 0, .slice fra 0 frc, .slice fca 0 fcc, .slice (some ⟨fb, fo, none⟩) 2 fpc], .agg #[.bool false, .int .i64 0, .int .u64 0, .slice gra 0 grc, .slice gca 0 gcc, .slice (some ⟨gb, go, none⟩) 2 gpc]]) Tryd.func35 rfl Tryd.ntmps35 rfl ?_
 have hS := St.start w
 refine seqF (regF ?_)
 refine op_box (cs := [_, _, _]) hS rfl rfl rfl ?_
 clear hS; intro B1 W1 hS
 refine op_box (cs := [_, _, _, _, _, _]) hS rfl rfl rfl ?_
 clear hS; intro B2 W2 hS
 refine op_box (cs := [_, _, _, _, _, _]) hS rfl rfl rfl ?_
 clear hS; intro B3 W3 hS
 refine op_alloc (cs := [_, _, _, _, _, _]) hS Tryd.zeroValue40 rfl rfl ?_
 clear hS; intro B4 W4 hS
 refine endF (XF.thenN ?_)
 refine seqF ?_
 refine seqF (regF ?_)
 refine op_field (o' := 0) fa_40_0 rfl rfl rfl ?_
 refine op_load Tryd.isAgg4 rfl (cell_own (hS.at_ 2 rfl) rfl) rfl ?_
 refine op_move rfl rfl ?_
 refine op_cases (d := 10) rfl (fun hc => absurd hc (by decide)) (fun hc => ?_)
 skip
 refine op_wantedF (d := 10) rfl rfl ?_
 refine op_field (o' := 0) fa_40_0 rfl rfl rfl ?_
 refine op_wantedF (d := 10) rfl rfl ?_
 refine op_load Tryd.isAgg4 rfl (cell_own (hS.at_ 1 rfl) rfl) rfl ?_
 refine op_pickF rfl rfl rfl ?_
 refine endF (XF.thenN ?_)
 refine condF rfl (fun hc => absurd hc (by decide)) (fun hc => ?_)
 skip
 refine skipF ?_
 refine XF.thenN ?_
 refine seqF (regF ?_)
 refine op_alloc (cs := [_, _, _, _, _, _]) hS Tryd.zeroValue40 rfl rfl ?_
 clear hS; intro B5 W5 hS
 refine endF (XF.thenN ?_)
 refine seqF ?_
 refine seqF (regF ?_)
 refine op_field (o' := 0) fa_25_0 rfl rfl rfl ?_
 refine op_load Tryd.isAgg22 rfl (cell_own (hS.at_ 4 rfl) rfl) rfl ?_
 refine endF (XF.thenN ?_)
 refine blockF ?_
 refine seqF (regF ?_)
 refine op_eql rfl rfl rfl ?_
 refine op_assign rfl rfl ?_
 refine endF (XF.thenN ?_)
 refine condF rfl (fun hc => absurd (of_decide_eq_true hc) (by omega)) (fun hc => ?_)
 have hc := of_decide_eq_false hc
 refine seqF (regF ?_)
 refine op_eql rfl rfl rfl ?_
 refine op_assign rfl rfl ?_
 refine endF (XF.thenN ?_)
 refine condF rfl (fun hc => absurd (of_decide_eq_true hc) (by omega)) (fun hc => ?_)
 have hc := of_decide_eq_false hc
 refine seqF (regF ?_)
 refine op_eql rfl rfl rfl ?_
 refine op_assign rfl rfl ?_
 refine endF (XF.thenN ?_)
 refine condF rfl (fun hc => absurd (of_decide_eq_true hc) (by omega)) (fun hc => ?_)
 have hc := of_decide_eq_false hc
 refine seqF (regF ?_)
 refine op_eql rfl rfl rfl ?_
 refine op_assign rfl rfl ?_
 refine endF (XF.thenN ?_)
 refine condF rfl (fun hc => ?_) (fun hc => absurd (of_decide_eq_false hc) (by omega))
 have hc := of_decide_eq_true hc
 have hsz := hS.below.size
 have k1 := CellsAt.agree hS.agree (Nat.zero_le _) hs1.cells
 have k2 := CellsAt.agree hS.agree (Nat.zero_le _) hs2.cells
 have kf1 := CellsAt.agree hS.agree (Nat.zero_le _) hf6.cells
 have kf2 := CellsAt.agree hS.agree (Nat.zero_le _) hf7.cells
 have kg1 := CellsAt.agree hS.agree (Nat.zero_le _) hg6.cells
 have kg2 := CellsAt.agree hS.agree (Nat.zero_le _) hg7.cells
 refine regBK followsM 27 hS rfl rfl (by kernel_rfl) (by kernel_rfl) (by kernel_rfl) (fun d hd => by cases hd) ?_
 refine bl_cons 1 rfl (isV _) (stab_isV _) (rgV (li := [(3, _)]) rfl (w_free rfl) ⟨g_fr (by kernel_rfl) rfl, trivial⟩ (fun w hw => rn_field (o' := 2) fa_25_2 rfl rfl) (at_top rfl)) ?_
 refine bl_cons 2 rfl (isV _) (stab_isV _) (rgV (li := [(59, _)]) rfl (w_free rfl) ⟨g_dep 0 (by kernel_rfl) (at_dep rfl rfl rfl), trivial⟩ (fun w hw => rn_load Tryd.isAgg23 rfl ((below_agree hw 0).cell (Nat.zero_le _) (cell_own (hS.at_ 4 rfl) rfl))) (at_top rfl)) ?_
 refine bl_cons 3 rfl (isV _) (stab_isV _) (rgV (li := [(60, _)]) rfl (w_free rfl) ⟨g_dep 1 (by kernel_rfl) (at_dep rfl rfl rfl), trivial⟩ (fun w hw => rn_indexA (j := 0) Tryd.underlying23 Tryd.sizeOf25 rfl rfl rfl (by omega) (Nat.add_zero _)) (at_top rfl)) ?_
 refine bl_cons 4 rfl (isV _) (stab_isV _) (rgV (li := [(61, _)]) rfl (w_free rfl) ⟨g_dep 2 (by kernel_rfl) (at_dep rfl rfl rfl), trivial⟩ (fun w hw => rn_loadA (vs := [_, _, _]) Tryd.isAgg25 Tryd.sizeOf25 rfl (CellsAt.agree (below_agree hw 0) (Nat.zero_le _) (by assumption))) (at_top rfl)) ?_
 refine bl_cons 5 rfl (isV _) (stab_isV _) (rgV (li := [(4, _)]) rfl (w_free rfl) ⟨g_fr (by kernel_rfl) rfl, trivial⟩ (fun w hw => rn_field (o' := 5) fa_40_4 rfl rfl) (at_top rfl)) ?_
 refine bl_cons 6 rfl (isV _) (stab_isV _) (rgV (li := [(63, _)]) rfl (w_free rfl) ⟨g_dep 4 (by kernel_rfl) (at_dep rfl rfl rfl), trivial⟩ (fun w hw => rn_load Tryd.isAgg38 rfl ((below_agree hw 0).cell (Nat.zero_le _) (cell_own (hS.at_ 3 rfl) rfl))) (at_top rfl)) ?_
 refine bl_cons 7 rfl (isV _) (stab_isV _) (rgV (li := [(64, _)]) rfl (w_free rfl) ⟨g_dep 5 (by kernel_rfl) (at_dep rfl rfl rfl), trivial⟩ (fun w hw => rn_indexA (j := 0) Tryd.underlying38 Tryd.sizeOf40 rfl rfl rfl (by omega) (Nat.add_zero _)) (at_top rfl)) ?_
 refine bl_cons 8 rfl (isV _) (stab_isV _) (rgV (li := [(65, _)]) rfl (w_free rfl) ⟨g_dep 6 (by kernel_rfl) (at_dep rfl rfl rfl), trivial⟩ (fun w hw => rn_loadA (vs := [_, _, _, _, _, _]) Tryd.isAgg40 Tryd.sizeOf40 rfl (CellsAt.agree (below_agree hw 0) (Nat.zero_le _) (by assumption))) (at_top rfl)) ?_
 refine bl_cons 9 rfl (isV _) (stab_isV _) (rgV (li := [(5, _)]) rfl (w_free rfl) ⟨g_fr (by kernel_rfl) rfl, trivial⟩ (fun w hw => rn_field (o' := 5) fa_40_4 rfl rfl) (at_top rfl)) ?_
 refine bl_cons 10 rfl (isV _) (stab_isV _) (rgV (li := [(67, _)]) rfl (w_free rfl) ⟨g_dep 8 (by kernel_rfl) (at_dep rfl rfl rfl), trivial⟩ (fun w hw => rn_load Tryd.isAgg38 rfl ((below_agree hw 0).cell (Nat.zero_le _) (cell_own (hS.at_ 2 rfl) rfl))) (at_top rfl)) ?_
 refine bl_cons 11 rfl (isV _) (stab_isV _) (rgV (li := [(68, _)]) rfl (w_free rfl) ⟨g_dep 9 (by kernel_rfl) (at_dep rfl rfl rfl), trivial⟩ (fun w hw => rn_indexA (j := 0) Tryd.underlying38 Tryd.sizeOf40 rfl rfl rfl (by omega) (Nat.add_zero _)) (at_top rfl)) ?_
 refine bl_cons 12 rfl (isV _) (stab_isV _) (rgV (li := [(69, _)]) rfl (w_free rfl) ⟨g_dep 10 (by kernel_rfl) (at_dep rfl rfl rfl), trivial⟩ (fun w hw => rn_loadA (vs := [_, _, _, _, _, _]) Tryd.isAgg40 Tryd.sizeOf40 rfl (CellsAt.agree (below_agree hw 0) (Nat.zero_le _) (by assumption))) (at_top rfl)) ?_
 refine bl_cons 13 rfl (isNew W5.heap.size (.one t n) (.one (extP t n x1 y1))) (stab_isNew) (rg_call [isV _, isV _, isV _] rfl goes_35 (w_free rfl) ⟨p_tmp (g_dep 3 (by kernel_rfl) (at_dep rfl rfl rfl)), p_tmp (g_dep 7 (by kernel_rfl) (at_dep rfl rfl rfl)), p_tmp (g_dep 11 (by kernel_rfl) (at_dep rfl rfl rfl)), trivial⟩ (fun vs w' hb hh => by have e := holds_isV (us := [_, _, _]) hh; subst e; exact wret_gives hb.size (extA_plain _ _ _ _ _ _ _ _ _ hp1 (hx1.below (hS.below.trans (hb.mono hS.below.size))) (hy1.below (hS.below.trans (hb.mono hS.below.size))) (ht.below (hS.below.trans (hb.mono hS.below.size))))) (at_top rfl)) ?_
 refine bl_cons 14 rfl (isV _) (stab_isV _) (rgV (li := [(3, _)]) rfl (w_free rfl) ⟨g_fr (by kernel_rfl) rfl, trivial⟩ (fun w hw => rn_field (o' := 2) fa_25_2 rfl rfl) (at_top rfl)) ?_
 refine bl_cons 15 rfl (isV _) (stab_isV _) (rgV (li := [(72, _)]) rfl (w_free rfl) ⟨g_dep 13 (by kernel_rfl) (at_dep rfl rfl rfl), trivial⟩ (fun w hw => rn_load Tryd.isAgg23 rfl ((below_agree hw 0).cell (Nat.zero_le _) (cell_own (hS.at_ 4 rfl) rfl))) (at_top rfl)) ?_
 refine bl_cons 16 rfl (isV _) (stab_isV _) (rgV (li := [(73, _)]) rfl (w_free rfl) ⟨g_dep 14 (by kernel_rfl) (at_dep rfl rfl rfl), trivial⟩ (fun w hw => rn_indexA (j := 1) Tryd.underlying23 Tryd.sizeOf25 rfl rfl rfl (by omega) rfl) (at_top rfl)) ?_
 refine bl_cons 17 rfl (isV _) (stab_isV _) (rgV (li := [(74, _)]) rfl (w_free rfl) ⟨g_dep 15 (by kernel_rfl) (at_dep rfl rfl rfl), trivial⟩ (fun w hw => rn_loadA (vs := [_, _, _]) Tryd.isAgg25 Tryd.sizeOf25 rfl (CellsAt.agree (below_agree hw 0) (Nat.zero_le _) (by assumption))) (at_top rfl)) ?_
 refine bl_cons 18 rfl (isV _) (stab_isV _) (rgV (li := [(4, _)]) rfl (w_free rfl) ⟨g_fr (by kernel_rfl) rfl, trivial⟩ (fun w hw => rn_field (o' := 5) fa_40_4 rfl rfl) (at_top rfl)) ?_
 refine bl_cons 19 rfl (isV _) (stab_isV _) (rgV (li := [(76, _)]) rfl (w_free rfl) ⟨g_dep 17 (by kernel_rfl) (at_dep rfl rfl rfl), trivial⟩ (fun w hw => rn_load Tryd.isAgg38 rfl ((below_agree hw 0).cell (Nat.zero_le _) (cell_own (hS.at_ 3 rfl) rfl))) (at_top rfl)) ?_
 refine bl_cons 20 rfl (isV _) (stab_isV _) (rgV (li := [(77, _)]) rfl (w_free rfl) ⟨g_dep 18 (by kernel_rfl) (at_dep rfl rfl rfl), trivial⟩ (fun w hw => rn_indexA (j := 1) Tryd.underlying38 Tryd.sizeOf40 rfl rfl rfl (by omega) rfl) (at_top rfl)) ?_
 refine bl_cons 21 rfl (isV _) (stab_isV _) (rgV (li := [(78, _)]) rfl (w_free rfl) ⟨g_dep 19 (by kernel_rfl) (at_dep rfl rfl rfl), trivial⟩ (fun w hw => rn_loadA (vs := [_, _, _, _, _, _]) Tryd.isAgg40 Tryd.sizeOf40 rfl (CellsAt.agree (below_agree hw 0) (Nat.zero_le _) (by assumption))) (at_top rfl)) ?_
 refine bl_cons 22 rfl (isV _) (stab_isV _) (rgV (li := [(5, _)]) rfl (w_free rfl) ⟨g_fr (by kernel_rfl) rfl, trivial⟩ (fun w hw => rn_field (o' := 5) fa_40_4 rfl rfl) (at_top rfl)) ?_
 refine bl_cons 23 rfl (isV _) (stab_isV _) (rgV (li := [(80, _)]) rfl (w_free rfl) ⟨g_dep 21 (by kernel_rfl) (at_dep rfl rfl rfl), trivial⟩ (fun w hw => rn_load Tryd.isAgg38 rfl ((below_agree hw 0).cell (Nat.zero_le _) (cell_own (hS.at_ 2 rfl) rfl))) (at_top rfl)) ?_
 refine bl_cons 24 rfl (isV _) (stab_isV _) (rgV (li := [(81, _)]) rfl (w_free rfl) ⟨g_dep 22 (by kernel_rfl) (at_dep rfl rfl rfl), trivial⟩ (fun w hw => rn_indexA (j := 1) Tryd.underlying38 Tryd.sizeOf40 rfl rfl rfl (by omega) rfl) (at_top rfl)) ?_
 refine bl_cons 25 rfl (isV _) (stab_isV _) (rgV (li := [(82, _)]) rfl (w_free rfl) ⟨g_dep 23 (by kernel_rfl) (at_dep rfl rfl rfl), trivial⟩ (fun w hw => rn_loadA (vs := [_, _, _, _, _, _]) Tryd.isAgg40 Tryd.sizeOf40 rfl (CellsAt.agree (below_agree hw 0) (Nat.zero_le _) (by assumption))) (at_top rfl)) ?_
 refine bl_cons 26 rfl (isNew W5.heap.size (.one u m) (.one (extP u m x2 y2))) (stab_isNew) (rg_call [isV _, isV _, isV _] rfl goes_35 (w_free rfl) ⟨p_tmp (g_dep 16 (by kernel_rfl) (at_dep rfl rfl rfl)), p_tmp (g_dep 20 (by kernel_rfl) (at_dep rfl rfl rfl)), p_tmp (g_dep 24 (by kernel_rfl) (at_dep rfl rfl rfl)), trivial⟩ (fun vs w' hb hh => by have e := holds_isV (us := [_, _, _]) hh; subst e; exact wret_gives hb.size (extA_plain _ _ _ _ _ _ _ _ _ hp2 (hx2.below (hS.below.trans (hb.mono hS.below.size))) (hy2.below (hS.below.trans (hb.mono hS.below.size))) (ht.below (hS.below.trans (hb.mono hS.below.size))))) (at_top rfl)) ?_
 refine bl_cons 27 rfl (isNew W5.heap.size (.two t n u m) (.two (extP t n x1 y1) (extP u m x2 y2))) (stab_isNew) (rg_call [isNew _ (.one t n) (.one (extP t n x1 y1)), isNew _ (.one u m) (.one (extP u m x2 y2))] rfl goes_41 (w_free rfl) ⟨p_tmp (g_dep 12 (by kernel_rfl) (at_dep rfl rfl rfl)), p_tmp (g_dep 25 (by kernel_rfl) (at_dep rfl rfl rfl)), trivial⟩ (fun vs w' hb hh => pair_gives hb.size hh) (at_top rfl)) ?_
 refine bl_nil ?_
 intro W6 hbR hS'
 clear hS; have hS := hS'; clear hS'
 refine fin_v ?_
 refine fin_v ?_
 refine fin_v ?_
 refine fin_v ?_
 refine fin_v ?_
 refine fin_v ?_
 refine fin_v ?_
 refine fin_v ?_
 refine fin_v ?_
 refine fin_v ?_
 refine fin_v ?_
 refine fin_v ?_
 refine fin_p ?_; rintro _ ⟨v1, rfl, hn1⟩
 refine fin_v ?_
 refine fin_v ?_
 refine fin_v ?_
 refine fin_v ?_
 refine fin_v ?_
 refine fin_v ?_
 refine fin_v ?_
 refine fin_v ?_
 refine fin_v ?_
 refine fin_v ?_
 refine fin_v ?_
 refine fin_v ?_
 refine fin_p ?_; rintro _ ⟨v2, rfl, hn2⟩
 refine fin_p ?_; rintro _ ⟨v3, rfl, hn3⟩
 refine fin_nil ?_
 refine op_storeA (i := 0) (vs := [_, _, _, _, _, _]) (cs' := [_, _, _, _, _, _]) (O' := [_, _, _, _, _]) hS Tryd.sizeOf40 rfl rfl rfl rfl rfl rfl rfl ?_
 clear hS; intro W7 hS
 refine endF ?_
 refine XF.blkN ?_
 refine XF.thenN ?_
 refine seqF (regF ?_)
 refine op_loadA (vs := [_, _, _, _, _, _]) Tryd.isAgg40 Tryd.sizeOf40 rfl (CellsAt.own (j := 0) (m := 6) (hS.at_ 0 rfl) rfl) rfl ?_
 refine op_storeA (i := 1) (vs := [_, _, _, _, _, _]) (cs' := [_, _, _, _, _, _]) (O' := [_, _, _, _, _]) hS Tryd.sizeOf40 rfl rfl rfl rfl rfl rfl rfl ?_
 clear hS; intro W8 hS
 refine endF (XF.thenN ?_)
 refine retF ?_
 refine XF.res (resC1 (vs := [_, _, _, _, _, _]) Tryd.results35 Tryd.isAgg40 Tryd.sizeOf40 rfl (CellsAt.own (j := 0) (m := 6) (hS.at_ 1 rfl) rfl)) ?_
 exact ⟨v3, rfl, (hn3.agree (hS.since 0 rfl)).mono hsz, hS.below⟩
theorem oneA_pair (t n u m : Int) (a1 a2 : Option Addr) (c1 c2 b off sc : Nat) (w : World) (hs1 : S3 w b off ⟨t, n, a1, 0, c1⟩) (hs2 : S3 w b (off + 3) ⟨u, m, a2, 0, c2⟩) (hp1 : plainB t n 0 = true) (hp2 : plainB u m 0 = true) :
  Calls Tryd.prog 32 #[.agg #[.int .i64 5, .int .i64 0, .slice (some ⟨b, off, none⟩) 2 sc]] w (WRet (.two t n u m) (.two (oneP t n) (oneP u m)) w) := by
 refine enterF (args := [.agg #[.int .i64 5, .int .i64 0, .slice (some ⟨b, off, none⟩) 2 sc]]) Tryd.func32 rfl Tryd.ntmps32 rfl ?_
 have hS := St.start w
 refine seqF (regF ?_)
 refine op_box (cs := [_, _, _]) hS rfl rfl rfl ?_
 clear hS; intro B1 W1 hS
 refine op_alloc (cs := [_, _, _, _, _, _]) hS Tryd.zeroValue40 rfl rfl ?_
 clear hS; intro B2 W2 hS
 refine endF (XF.thenN ?_)
 refine seqF (regF ?_)
 refine op_alloc (cs := [_, _, _, _, _, _]) hS Tryd.zeroValue40 rfl rfl ?_
 clear hS; intro B3 W3 hS
 refine endF (XF.thenN ?_)
 refine seqF ?_
 refine seqF (regF ?_)
 refine op_field (o' := 0) fa_25_0 rfl rfl rfl ?_
 refine op_load Tryd.isAgg22 rfl (cell_own (hS.at_ 2 rfl) rfl) rfl ?_
 refine endF (XF.thenN ?_)
 refine blockF ?_
 refine seqF (regF ?_)
 refine op_eql rfl rfl rfl ?_
 refine op_assign rfl rfl ?_
 refine endF (XF.thenN ?_)
 refine condF rfl (fun hc => absurd (of_decide_eq_true hc) (by omega)) (fun hc => ?_)
 have hc := of_decide_eq_false hc
 refine seqF (regF ?_)
 refine op_eql rfl rfl rfl ?_
 refine op_assign rfl rfl ?_
 refine endF (XF.thenN ?_)
 refine condF rfl (fun hc => absurd (of_decide_eq_true hc) (by omega)) (fun hc => ?_)
 have hc := of_decide_eq_false hc
 refine seqF (regF ?_)
 refine op_eql rfl rfl rfl ?_
 refine op_assign rfl rfl ?_
 refine endF (XF.thenN ?_)
 refine condF rfl (fun hc => ?_) (fun hc => absurd (of_decide_eq_false hc) (by omega))
 have hc := of_decide_eq_true hc
 have hsz := hS.below.size
 have k1 := CellsAt.agree hS.agree (Nat.zero_le _) hs1.cells
 have k2 := CellsAt.agree hS.agree (Nat.zero_le _) hs2.cells
 refine regBK followsM 11 hS rfl rfl (by kernel_rfl) (by kernel_rfl) (by kernel_rfl) (fun d hd => by cases hd) ?_
 refine bl_cons 1 rfl (isV _) (stab_isV _) (rgV (li := [(1, _)]) rfl (w_free rfl) ⟨g_fr (by kernel_rfl) rfl, trivial⟩ (fun w hw => rn_field (o' := 2) fa_25_2 rfl rfl) (at_top rfl)) ?_
 refine bl_cons 2 rfl (isV _) (stab_isV _) (rgV (li := [(26, _)]) rfl (w_free rfl) ⟨g_dep 0 (by kernel_rfl) (at_dep rfl rfl rfl), trivial⟩ (fun w hw => rn_load Tryd.isAgg23 rfl ((below_agree hw 0).cell (Nat.zero_le _) (cell_own (hS.at_ 2 rfl) rfl))) (at_top rfl)) ?_
 refine bl_cons 3 rfl (isV _) (stab_isV _) (rgV (li := [(27, _)]) rfl (w_free rfl) ⟨g_dep 1 (by kernel_rfl) (at_dep rfl rfl rfl), trivial⟩ (fun w hw => rn_indexA (j := 0) Tryd.underlying23 Tryd.sizeOf25 rfl rfl rfl (by omega) (Nat.add_zero _)) (at_top rfl)) ?_
 refine bl_cons 4 rfl (isV _) (stab_isV _) (rgV (li := [(28, _)]) rfl (w_free rfl) ⟨g_dep 2 (by kernel_rfl) (at_dep rfl rfl rfl), trivial⟩ (fun w hw => rn_loadA (vs := [_, _, _]) Tryd.isAgg25 Tryd.sizeOf25 rfl (CellsAt.agree (below_agree hw 0) (Nat.zero_le _) (by assumption))) (at_top rfl)) ?_
 refine bl_cons 5 rfl (isNew W3.heap.size (.one t n) (.one (oneP t n))) (stab_isNew) (rg_call [isV _] rfl goes_32 (w_free rfl) ⟨p_tmp (g_dep 3 (by kernel_rfl) (at_dep rfl rfl rfl)), trivial⟩ (fun vs w' hb hh => by have e := holds_isV (us := [_]) hh; subst e; exact wret_gives hb.size (oneA_plain _ _ _ _ _ hp1)) (at_top rfl)) ?_
 refine bl_cons 6 rfl (isV _) (stab_isV _) (rgV (li := [(1, _)]) rfl (w_free rfl) ⟨g_fr (by kernel_rfl) rfl, trivial⟩ (fun w hw => rn_field (o' := 2) fa_25_2 rfl rfl) (at_top rfl)) ?_
 refine bl_cons 7 rfl (isV _) (stab_isV _) (rgV (li := [(31, _)]) rfl (w_free rfl) ⟨g_dep 5 (by kernel_rfl) (at_dep rfl rfl rfl), trivial⟩ (fun w hw => rn_load Tryd.isAgg23 rfl ((below_agree hw 0).cell (Nat.zero_le _) (cell_own (hS.at_ 2 rfl) rfl))) (at_top rfl)) ?_
 refine bl_cons 8 rfl (isV _) (stab_isV _) (rgV (li := [(32, _)]) rfl (w_free rfl) ⟨g_dep 6 (by kernel_rfl) (at_dep rfl rfl rfl), trivial⟩ (fun w hw => rn_indexA (j := 1) Tryd.underlying23 Tryd.sizeOf25 rfl rfl rfl (by omega) rfl) (at_top rfl)) ?_
 refine bl_cons 9 rfl (isV _) (stab_isV _) (rgV (li := [(33, _)]) rfl (w_free rfl) ⟨g_dep 7 (by kernel_rfl) (at_dep rfl rfl rfl), trivial⟩ (fun w hw => rn_loadA (vs := [_, _, _]) Tryd.isAgg25 Tryd.sizeOf25 rfl (CellsAt.agree (below_agree hw 0) (Nat.zero_le _) (by assumption))) (at_top rfl)) ?_
 refine bl_cons 10 rfl (isNew W3.heap.size (.one u m) (.one (oneP u m))) (stab_isNew) (rg_call [isV _] rfl goes_32 (w_free rfl) ⟨p_tmp (g_dep 8 (by kernel_rfl) (at_dep rfl rfl rfl)), trivial⟩ (fun vs w' hb hh => by have e := holds_isV (us := [_]) hh; subst e; exact wret_gives hb.size (oneA_plain _ _ _ _ _ hp2)) (at_top rfl)) ?_
 refine bl_cons 11 rfl (isNew W3.heap.size (.two t n u m) (.two (oneP t n) (oneP u m))) (stab_isNew) (rg_call [isNew _ (.one t n) (.one (oneP t n)), isNew _ (.one u m) (.one (oneP u m))] rfl goes_41 (w_free rfl) ⟨p_tmp (g_dep 4 (by kernel_rfl) (at_dep rfl rfl rfl)), p_tmp (g_dep 9 (by kernel_rfl) (at_dep rfl rfl rfl)), trivial⟩ (fun vs w' hb hh => pair_gives hb.size hh) (at_top rfl)) ?_
 refine bl_nil ?_
 intro W4 hbR hS'
 clear hS; have hS := hS'; clear hS'
 refine fin_v ?_
 refine fin_v ?_
 refine fin_v ?_
 refine fin_v ?_
 refine fin_p ?_; rintro _ ⟨v1, rfl, hn1⟩
 refine fin_v ?_
 refine fin_v ?_
 refine fin_v ?_
 refine fin_v ?_
 refine fin_p ?_; rintro _ ⟨v2, rfl, hn2⟩
 refine fin_p ?_; rintro _ ⟨v3, rfl, hn3⟩
 refine fin_nil ?_
 refine op_storeA (i := 0) (vs := [_, _, _, _, _, _]) (cs' := [_, _, _, _, _, _]) (O' := [_, _, _]) hS Tryd.sizeOf40 rfl rfl rfl rfl rfl rfl rfl ?_
 clear hS; intro W5 hS
 refine endF ?_
 refine XF.blkN ?_
 refine XF.thenN ?_
 refine seqF (regF ?_)
 refine op_loadA (vs := [_, _, _, _, _, _]) Tryd.isAgg40 Tryd.sizeOf40 rfl (CellsAt.own (j := 0) (m := 6) (hS.at_ 0 rfl) rfl) rfl ?_
 refine op_storeA (i := 1) (vs := [_, _, _, _, _, _]) (cs' := [_, _, _, _, _, _]) (O' := [_, _, _]) hS Tryd.sizeOf40 rfl rfl rfl rfl rfl rfl rfl ?_
 clear hS; intro W6 hS
 refine endF (XF.thenN ?_)
 refine retF ?_
 refine XF.res (resC1 (vs := [_, _, _, _, _, _]) Tryd.results32 Tryd.isAgg40 Tryd.sizeOf40 rfl (CellsAt.own (j := 0) (m := 6) (hS.at_ 1 rfl) rfl)) ?_
 exact ⟨v3, rfl, (hn3.agree (hS.since 0 rfl)).mono hsz, hS.below⟩
end Go.Proofs.YtgjojhmninbkoaaDoor
namespace Go.Proofs.YtgjojhmninbkoaaDoor
open Go.RowKit
attribute [local go_sem ↓] Go.wp_at_zero Go.wp_at_succ
theorem zeroA_lit (t n : Int) (a : Option Addr) (l c0 : Nat) (ht : t ≠ 5) (w : World) :
  Calls Tryd.prog 31 #[.agg #[.int .i64 t, .int .i64 n, .slice a l c0]] w fun e w' => e = .returned (.agg #[.bool true, .int .i64 0, .int .u64 0, .slice none 0 0, .slice none 0 0, .slice none 0 0]) ∧ Below w.heap.size w w' := zeroA_plain t n a l c0 ht w
theorem pair_zero (w : World) :
  Calls Tryd.prog 41 #[.agg #[.bool true, .int .i64 0, .int .u64 0, .slice none 0 0, .slice none 0 0, .slice none 0 0], .agg #[.bool true, .int .i64 0, .int .u64 0, .slice none 0 0, .slice none 0 0, .slice none 0 0]] w fun e w' => ∃ blk, e = .returned (.agg #[.bool false, .int .i64 0, .int .u64 0, .slice none 0 0, .slice none 0 0, .slice (some ⟨blk, 0, none⟩) 2 2]) ∧ W6 w' blk 0 zeroF ∧ W6 w' blk 6 zeroF ∧ w.heap.size ≤ blk ∧ Below w.heap.size w w' := pair_is zeroF zeroF w
set_option maxHeartbeats 8000000 in
theorem zeroA_pair (d : Nat) (sa : Option Addr) (sc : Nat) (p q : SV) (w : World) (hsp : SIn w (d + 1) (.mk ⟨5, 0, sa, 2, sc⟩ [p, q])) (hp : p.pl = true) (hq : q.pl = true) :
  Calls Tryd.prog 31 #[.agg #[.int .i64 5, .int .i64 0, .slice sa 2 sc]] w (WRet (.two p.f.tag p.f.dim q.f.tag q.f.dim) (.two zeroP zeroP) w) := by
 obtain ⟨_, b, off, ha, hb, hp3, hq3, _, _⟩ := hsp.two
 obtain rfl : sa = some ⟨b, off, none⟩ := ha
 obtain ⟨⟨pt, pn, pa, pl, pc⟩, pps⟩ := p
 obtain ⟨⟨qt, qn, qa, ql, qc⟩, qps⟩ := q
 have hp5 := Lib.hid (pl_pair (show plainB pt pn pl = true from hp)); have hq5 := Lib.hid (pl_pair (show plainB qt qn ql = true from hq))
 obtain ⟨t0, t1⟩ := two_boxes2 w #[.int .i64 5, .int .i64 0, .slice (some ⟨b, off, none⟩) 2 sc] #[.bool false, .int .i64 0, .int .u64 0, .slice none 0 0, .slice none 0 0, .slice none 0 0] 25 40
 have T0 := Lib.hid t0; have T1 := Lib.hid t1
 have hB := Lib.hid (wbox w #[.int .i64 5, .int .i64 0, .slice (some ⟨b, off, none⟩) 2 sc] #[.bool false, .int .i64 0, .int .u64 0, .slice none 0 0, .slice none 0 0, .slice none 0 0] 25 40)
 have hsz : ((w.alloc (.cells #[.int .i64 5, .int .i64 0, .slice (some ⟨b, off, none⟩) 2 sc] 25)).alloc (.cells #[.bool false, .int .i64 0, .int .u64 0, .slice none 0 0, .slice none 0 0, .slice none 0 0] 40)).heap.size = w.heap.size + 1 + 1 := by simp
 have n1 : ¬ (w.heap.size + 1 = w.heap.size) := by omega
 have n2 : ¬ (w.heap.size + 1 = b) := by omega
 obtain ⟨W0, hW0⟩ : ∃ W, (w.alloc (.cells #[.int .i64 5, .int .i64 0, .slice (some ⟨b, off, none⟩) 2 sc] 25)).alloc (.cells #[.bool false, .int .i64 0, .int .u64 0, .slice none 0 0, .slice none 0 0, .slice none 0 0] 40) = W := ⟨_, rfl⟩
 rw [hW0] at hB T0 T1 hsz
 have HSZ := Lib.hid hsz
 have HP3 := Lib.hid (S3.below hp3 hB.out); have HQ3 := Lib.hid (S3.below hq3 hB.out)
 obtain ⟨x0, x1, x2⟩ := tri_cells T0.out
 obtain ⟨y0, y1, y2, y3, y4, y5⟩ := six_cells T1.out
 have EN : Hid (∀ W : World, Below W0.heap.size W0 W → W.cell? ⟨w.heap.size, 2, none⟩ = some (.slice (some ⟨b, off, none⟩) 2 sc) ∧ W.cell? ⟨b, off, none⟩ = some (.int .i64 pt) ∧ W.cell? ⟨b, off + 1, none⟩ = some (.int .i64 pn) ∧ W.cell? ⟨b, off + 2, none⟩ = some (.slice pa pl pc) ∧ W.cell? ⟨b, off + 3, none⟩ = some (.int .i64 qt) ∧ W.cell? ⟨b, off + 4, none⟩ = some (.int .i64 qn) ∧ W.cell? ⟨b, off + 5, none⟩ = some (.slice qa ql qc)) := fun W h => by
  obtain ⟨a0, a1, a2⟩ := tri_cells (heap_old T0.out h)
  obtain ⟨d0, d1, d2⟩ := HP3.out.below h; obtain ⟨e0, e1, e2⟩ := HQ3.out.below h
  exact ⟨a2, d0, d1, d2, e0, e1, e2⟩
 obtain ⟨m0, m1, m2, m3, m4, m5, m6⟩ := EN.out _ (Below.refl _ _)
 clear hsp hp hq hp3 hq3 t0 t1 hsz hb
 have D0 : Hid (Below W0.heap.size W0 W0.drew) := (Below.refl _ _).drew
 go_enter Tryd.func31, Tryd.ntmps31
 go_wp2_with fail
 go_region_held3 (fun w' => w'.cell? ⟨w.heap.size, 2, none⟩ = some (.slice (some ⟨b, off, none⟩) 2 sc) ∧ w'.cell? ⟨b, off, none⟩ = some (.int .i64 pt) ∧ w'.cell? ⟨b, off + 1, none⟩ = some (.int .i64 pn) ∧ w'.cell? ⟨b, off + 2, none⟩ = some (.slice pa pl pc) ∧ w'.cell? ⟨b, off + 3, none⟩ = some (.int .i64 qt) ∧ w'.cell? ⟨b, off + 4, none⟩ = some (.int .i64 qn) ∧ w'.cell? ⟨b, off + 5, none⟩ = some (.slice qa ql qc))
  (first | (simp only [World.cell?_setCell_far, ne_eq, n1, n2, not_false_eq_true]; with_reducible exact EN.out _ D3.out) | with_reducible exact EN.out _ D0.out | with_reducible exact EN.out _ D1.out | with_reducible exact EN.out _ D2.out | with_reducible exact EN.out _ D3.out | with_reducible exact EN.out _ (Below.refl _ _) | fail)
  (first | (go_at_call 31; with_reducible refine (zeroA_lit pt pn pa pl pc hp5.out W0.drew).mono ?_; rintro e z1 ⟨rfl, hz1⟩; have D1 := Lib.hid (D0.out.trans (hz1.mono D0.out.size))) | (go_at_call 31; with_reducible refine (zeroA_lit qt qn qa ql qc hq5.out z1).mono ?_; rintro e z2 ⟨rfl, hz2⟩; have D2 := Lib.hid (D1.out.trans (hz2.mono D1.out.size))) | (go_at_call 41; with_reducible refine (pair_zero z2).mono ?_; rintro e z3 ⟨blk, rfl, hx6, hy6, hge, hz3⟩; have D3 := Lib.hid (D2.out.trans (hz3.mono D2.out.size)); have XO := Lib.hid (heap_old T1.out D3.out); obtain ⟨o0, o1, o2, o3, o4, o5⟩ := six_cells XO.out; have f0 := six_frozen XO.out 0; have f1 := six_frozen XO.out 1; have f2 := six_frozen XO.out 2; have f3 := six_frozen XO.out 3; have f4 := six_frozen XO.out 4; have f5 := six_frozen XO.out 5) | fail)
 all_goals
  have NS := Lib.hid (six_set (v0 := .bool false) (v1 := .int .i64 0) (v2 := .int .u64 0) (v3 := .slice none 0 0) (v4 := .slice none 0 0) (v5 := .slice (some ⟨blk, 0, none⟩) 2 2) XO.out)
  obtain ⟨s0, s1, s2, s3, s4, s5⟩ := six_cells NS.out
  have hle := D2.out.size
  have hge2 : w.heap.size + 1 + 1 ≤ blk := by have := HSZ.out; omega
  have HX6 := Lib.hid hx6; have HY6 := Lib.hid hy6
  have HB3 := Lib.hid (hB.out.trans (D3.out.mono hB.out.size))
  clear hx6 hy6 f0 f1 f2 f3 f4 f5 o0 o1 o2 o3 o4 o5
  go_wp2_with fail
  refine bodyPost_ret (v := .agg #[.bool false, .int .i64 0, .int .u64 0, .slice none 0 0, .slice none 0 0, .slice (some ⟨blk, 0, none⟩) 2 2]) ?_ rfl ⟨pairF blk, rfl, ?_, ?_⟩
  rotate_left
  ·exact (pair_new (HX6.out.above (n := w.heap.size + 1 + 1) hge2 (put6_above _ _ _ _ _ _ (Above.refl _ _) (by omega))) (HY6.out.above (n := w.heap.size + 1 + 1) hge2 (put6_above _ _ _ _ _ _ (Above.refl _ _) (by omega))) hge2 (zero_new _ _ _ _) (zero_new _ _ _ _)).mono (by omega)
  ·exact put6_below _ _ _ _ _ _ HB3.out (by omega)
  ·simp [results, Tryd.results31, go_sem, s0, s1, s2, s3, s4, s5]
end Go.Proofs.YtgjojhmninbkoaaDoor
namespace Go.Proofs.YtgjojhmninbkoaaDoor
open Go Go.RowKit
theorem PIs.pw {w : World} {t n : Int} {f : WF} {x : PF} (h : PIs w t n f x) : pwOk t n f = true := by
 obtain ⟨ez, ec, eg, er, ex⟩ := pf_inj h.pf
 have hrl := h.at_.rl; have hcl := h.at_.cl; have hpl := h.pl
 rw [er] at hrl; rw [ex] at hcl
 unfold pwOk bareB onlyB
 rw [ez, ec, eg, er, ex, hpl, ← hrl, ← hcl]
 cases h.ok with
 | zero => simp [zeroP]
 | bool ht => rw [ht]; simp [pC]
 | cost c ht h0 h1 => rw [ht]; simp [pC, h0, h1]
 | facts m g rows ht hn hg => rw [ht, hn]; simp [pF, good_check hg]
 | cells m cs ht hn hv => rw [ht, hn]; simp [pX, hv.chk]
theorem PIs.rl100 {w : World} {t n : Int} {f : WF} {x : PF} (h : PIs w t n f x) : f.rl ≤ 100 := by have := h.rows64 (l := 0); omega
theorem SIs.sin {w : World} {S : PS} {f : SF} (h : SIs w S f) (hok : S.ok) : ∃ s : SV, s.f = f ∧ SIn w 2 s ∧ spaceE s = 0 := by
 cases S with
 | one t n =>
  obtain ⟨a, c, rfl⟩ := h
  exact ⟨.mk ⟨t, n, a, 0, c⟩ [], rfl, ⟨rfl, .inl rfl, by simp⟩, by
   show (if plainB t n 0 = true then (0 : Int) else _) = 0
   rw [if_pos (show plainB t n 0 = true from hok)]⟩
 | two t n u m =>
  obtain ⟨b, off, c, a1, c1, a2, c2, rfl, h1, h2⟩ := h
  refine ⟨.mk ⟨5, 0, some ⟨b, off, none⟩, 2, c⟩ [.mk ⟨t, n, a1, 0, c1⟩ [], .mk ⟨u, m, a2, 0, c2⟩ []], rfl, ⟨rfl, .inr ⟨b, off, rfl, fun i p hi => ?_⟩, ?_⟩, ?_⟩
  ·match i, hi with
   | 0, hi => simp at hi; subst hi; simpa [SV.f] using h1
   | 1, hi => simp at hi; subst hi; simpa [SV.f] using h2
  ·intro p hp
   simp at hp
   rcases hp with rfl | rfl <;> exact ⟨rfl, .inl rfl, by simp⟩
  ·have e1 : SV.pl (.mk ⟨t, n, a1, 0, c1⟩ []) = true := hok.1
   have e2 : SV.pl (.mk ⟨u, m, a2, 0, c2⟩ []) = true := hok.2
   simp only [spaceE]
   rw [if_neg (by simp [plainB]), if_pos ⟨trivial, trivial, rfl, by simp [e1, e2]⟩]
theorem XIs.two {w : World} {t n u m : Int} {f : WF} {a b : PF} (h : XIs w (.two t n u m) f (.two a b)) : ∃ (ra ca : Option Addr) (rc cc pc fb fo : Nat) (f1 f2 : WF), f = ⟨false, 0, 0, ra, 0, rc, [], ca, 0, cc, [], some ⟨fb, fo, none⟩, 2, pc⟩ ∧ W6 w fb fo f1 ∧ W6 w fb (fo + 6) f2 ∧ PIs w t n f1 a ∧ PIs w u m f2 b := by
 obtain ⟨h1, h2, h3, h4, blk, off, g, k, h5, h6, h7, h8, h9⟩ := h
 obtain ⟨z, c, gg, ra, rl, rc, rows, ca, cl, cc, cells, pa, pl, pc⟩ := f
 simp only [WF.pf, pC, PF.mk.injEq] at h1
 obtain ⟨rfl, rfl, rfl, rfl, rfl⟩ := h1
 dsimp only at h2 h3 h4 h5
 subst h2; subst h3; subst h4; subst h5
 exact ⟨ra, ca, rc, cc, pc, blk, off, g, k, rfl, h6, h7, h8, h9⟩
theorem two_win {w : World} {t n u m : Int} {ra ca : Option Addr} {rc cc pc fb fo : Nat} {f1 f2 : WF} {a b : PF} (h6 : W6 w fb fo f1) (h7 : W6 w fb (fo + 6) f2) (h8 : PIs w t n f1 a) (h9 : PIs w u m f2 b) :
  WIn w 2 (.mk ⟨false, 0, 0, ra, 0, rc, [], ca, 0, cc, [], some ⟨fb, fo, none⟩, 2, pc⟩ [.mk f1 [], .mk f2 []]) := by
 refine ⟨⟨.inl rfl, rfl, (by show (0 : Nat) < _; decide), (fun r hr => by cases hr), .inl rfl, rfl, (fun c hc => by cases hc), (by show (0 : Nat) ≤ _; decide)⟩, rfl, .inr ⟨fb, fo, rfl, fun i p hi => ?_⟩, fun p hp => ?_⟩
 ·match i, hi with
  | 0, hi => simp at hi; subst hi; simpa [WV.f] using h6
  | 1, hi => simp at hi; subst hi; simpa [WV.f] using h7
 ·simp at hp
  rcases hp with rfl | rfl
  ·exact ⟨h8.at_, h8.pl.symm, .inl rfl, by simp⟩
  ·exact ⟨h9.at_, h9.pl.symm, .inl rfl, by simp⟩
theorem two_pairOk {w : World} {t n u m : Int} {ra ca : Option Addr} {a1 a2 : Option Addr} {c1 c2 rc cc pc fb fo : Nat} {f1 f2 : WF} {a b : PF} (h8 : PIs w t n f1 a) (h9 : PIs w u m f2 b) :
  pairOk (.mk ⟨t, n, a1, 0, c1⟩ []) (.mk ⟨u, m, a2, 0, c2⟩ []) ⟨false, 0, 0, ra, 0, rc, [], ca, 0, cc, [], some ⟨fb, fo, none⟩, 2, pc⟩ [.mk f1 [], .mk f2 []] = true := by
 have e1 : pwOk t n f1 = true := h8.pw
 have e2 : pwOk u m f2 = true := h9.pw
 simp [pairOk, bareB, onlyB, pwAt, SV.f, WV.f, e1, e2]
section
variable {w : World} {S : PS} {sf : SF} {f g : WF} {x y : PX}
theorem sin_two {t n u m : Int} {b off sc : Nat} {a1 a2 : Option Addr} {c1 c2 : Nat} (h1 : S3 w b off ⟨t, n, a1, 0, c1⟩) (h2 : S3 w b (off + 3) ⟨u, m, a2, 0, c2⟩) : SIn w 2 (.mk ⟨5, 0, some ⟨b, off, none⟩, 2, sc⟩ [.mk ⟨t, n, a1, 0, c1⟩ [], .mk ⟨u, m, a2, 0, c2⟩ []]) := by
 refine ⟨rfl, .inr ⟨b, off, rfl, fun i p hi => ?_⟩, ?_⟩
 ·match i, hi with
  | 0, hi => simp at hi; subst hi; simpa [SV.f] using h1
  | 1, hi => simp at hi; subst hi; simpa [SV.f] using h2
 ·intro p hp
  simp at hp
  rcases hp with rfl | rfl <;> exact ⟨rfl, .inl rfl, by simp⟩
theorem isA_ok (hs : SIs w S sf) (hok : S.ok) (hx : XIs w S f x) : Calls Tryd.prog 44 #[sf.val, f.val] w fun e w' => e = .returned (.bool true) ∧ Below w.heap.size w w' := by
 cases S <;> cases x <;> first | exact hx.elim | skip
 ·obtain ⟨a, c, rfl⟩ := hs
  exact isA_plain _ _ _ _ _ _ hok (PIs.rl100 hx) w (PIs.at_ hx) true (PIs.pw hx)
 ·obtain ⟨b, off, c, a1, c1, a2, c2, rfl, h1, h2⟩ := hs
  obtain ⟨ra, ca, rc, cc, pc, fb, fo, f1, f2, rfl, h6, h7, h8, h9⟩ := hx.two
  exact isA_pair 1 _ _ _ _ _ _ w (sin_two h1 h2) hok.1 hok.2 1 (two_win h6 h7 h8 h9) (by intro p hp; simp at hp; rcases hp with rfl | rfl <;> first | exact h8.rl100 | exact h9.rl100) true (two_pairOk h8 h9)
theorem spaceA_ok (hs : SIs w S sf) (hok : S.ok) : Calls Tryd.prog 28 #[sf.val] w fun e w' => e = .returned (.int .i64 0) ∧ Below w.heap.size w w' := by
 obtain ⟨s, rfl, h1, h2⟩ := hs.sin hok
 exact spaceA_is 2 s 0 w h1 h2
theorem wExt_is (hs : SIs w S sf) (hok : S.ok) (hx : XIs w S f x) (hy : XIs w S g y) (ht : Tabs w) : Calls Tryd.prog 35 #[sf.val, f.val, g.val] w (WRet S (extX S x y) w) := by
 cases S <;> cases x <;> cases y <;> first | exact hx.elim | exact hy.elim | skip
 ·obtain ⟨a, c, rfl⟩ := hs
  exact extA_plain _ _ _ _ _ _ _ _ _ hok hx hy ht
 ·obtain ⟨b, off, c, a1, c1, a2, c2, rfl, h1, h2⟩ := hs
  obtain ⟨ra, ca, rc, cc, pc, fb, fo, f1, f2, rfl, h6, h7, h8, h9⟩ := hx.two
  obtain ⟨ra', ca', rc', cc', pc', gb, go, g1, g2, rfl, h6', h7', h8', h9'⟩ := hy.two
  exact extA_pair _ _ _ _ _ _ _ _ _ _ _ _ h1 h2 hok.1 hok.2 _ _ _ _ _ _ _ _ _ _ _ h6 h7 h8 h9 _ _ _ _ _ _ _ _ _ _ _ h6' h7' h8' h9' ht
theorem oneA_ok (hs : SIs w S sf) (hok : S.ok) : Calls Tryd.prog 32 #[sf.val] w (WRet S (oneX S) w) := by
 cases S with
 | one t n =>
  obtain ⟨a, c, rfl⟩ := hs
  exact oneA_plain _ _ _ _ _ hok
 | two t n u m =>
  obtain ⟨b, off, c, a1, c1, a2, c2, rfl, h1, h2⟩ := hs
  exact oneA_pair _ _ _ _ _ _ _ _ _ _ _ _ h1 h2 hok.1 hok.2
theorem zeroA_ok (hs : SIs w S sf) (hok : S.ok) : Calls Tryd.prog 31 #[sf.val] w (WRet S (zeroX S) w) := by
 cases S with
 | one t n =>
  obtain ⟨a, c, rfl⟩ := hs
  refine (zeroA_plain t n a 0 c (pl_pair hok) w).mono ?_
  rintro e w' ⟨rfl, hb⟩
  exact ⟨zeroF, rfl, zero_new _ _ _ _, hb⟩
 | two t n u m =>
  obtain ⟨b, off, c, a1, c1, a2, c2, rfl, h1, h2⟩ := hs
  exact zeroA_pair 1 _ _ _ _ w (sin_two h1 h2) hok.1 hok.2
end
end Go.Proofs.YtgjojhmninbkoaaDoor
namespace Go.Proofs.YtgjojhmninbkoaaDoor
open Go Go.RowKit
theorem own_two {w : World} {base : Nat} {v : Value} {g h : WF} (hr : w.ownsRow base 40 6 v 2 (g.six ++ h.six)) : ∃ b c, v = .slice (some ⟨b, 0, none⟩) 2 c ∧ base ≤ b ∧ W6 w b 0 g ∧ W6 w b 6 h := by
 rcases hr.2 with ⟨_, h2⟩ | ⟨b, cap, cur, rfl, hb, hh, h1, h2, h3, h4⟩
 ·cases h2
 ·have key : ∀ i v, (g.six ++ h.six)[i]? = some v → w.cell? ⟨b, i, none⟩ = some v := fun i v hi => by
   rw [← h4, List.getElem?_take] at hi
   split at hi
   ·unfold World.cell?; simp only [hh]; simpa using hi
   ·cases hi
  exact ⟨b, cap, rfl, hb, ⟨key 0 _ rfl, key 1 _ rfl, key 2 _ rfl, key 3 _ rfl, key 4 _ rfl, key 5 _ rfl⟩, ⟨key 6 _ rfl, key 7 _ rfl, key 8 _ rfl, key 9 _ rfl, key 10 _ rfl, key 11 _ rfl⟩⟩
theorem copied_fin {w W : World} {t n u m : Int} {ra ca : Option Addr} {rc cc lo1 lo2 : Nat} {v : Value} {g h : WF} {x y : PF} (hb : Below w.heap.size w W) (hr : W.ownsRow w.heap.size 40 6 v 2 (g.six ++ h.six)) (h1 : w.heap.size ≤ lo1) (k1 : PNew lo1 W t n g x) (h2 : w.heap.size ≤ lo2) (k2 : PNew lo2 W u m h y) :
  WRet (.two t n u m) (.two x y) w (.returned (.agg (List.toArray [.bool false, .int .i64 0, .int .u64 0, .slice ra 0 rc, .slice ca 0 cc, v]))) W := by
 obtain ⟨b, c, rfl, hb0, h6, h7⟩ := own_two hr
 exact ⟨⟨false, 0, 0, ra, 0, rc, [], ca, 0, cc, [], some ⟨b, 0, none⟩, 2, c⟩, rfl, ⟨rfl, rfl, rfl, rfl, b, g, h, rfl, hb0, h6, h7, k1.mono h1, k2.mono h2⟩, hb⟩
theorem copied_pair (t n u m0 : Int) (w : World) (fra fca : Option Addr) (frc fcc fpc fb fo : Nat) (f1 f2 : WF) (x1 x2 : PF) (hf6 : W6 w fb fo f1) (hf7 : W6 w fb (fo + 6) f2) (hx1 : PIs w t n f1 x1) (hx2 : PIs w u m0 f2 x2) :
  Calls Tryd.prog 34 #[.agg #[.bool false, .int .i64 0, .int .u64 0, .slice fra 0 frc, .slice fca 0 fcc, .slice (some ⟨fb, fo, none⟩) 2 fpc]] w (WRet (.two t n u m0) (.two x1 x2) w) := by
 refine enterF (args := [.agg #[.bool false, .int .i64 0, .int .u64 0, .slice fra 0 frc, .slice fca 0 fcc, .slice (some ⟨fb, fo, none⟩) 2 fpc]]) Tryd.func34 rfl Tryd.ntmps34 rfl ?_
 have hS := St.start w
 refine seqF (regF ?_)
 refine op_box (cs := [_, _, _, _, _, _]) hS rfl rfl rfl ?_
 clear hS; intro B1 W1 hS
 refine op_alloc (cs := [_, _, _, _, _, _]) hS Tryd.zeroValue40 rfl rfl ?_
 clear hS; intro B2 W2 hS
 refine endF (XF.thenN ?_)
 refine seqF (regF ?_)
 refine op_field (o' := 2) fa_40_2 rfl rfl rfl ?_
 refine op_field (o' := 3) fa_36_1 rfl rfl rfl ?_
 refine op_load Tryd.isAgg34 rfl (cell_own (hS.at_ 1 rfl) rfl) rfl ?_
 refine op_call (vs := [_]) hS goes_45 rfl (clone_is _ _ [] _ (by simp) (.inl rfl) 0 rfl) rfl ?_
 rintro e W3 ⟨v, rfl, hown, hb⟩
 refine ⟨_, rfl, hb, fun hS' => ?_⟩
 clear hS; have hS := hS'; clear hS' hb
 obtain ⟨ra1, rc1, rfl, _, _⟩ := (urow_of_own (rows := []) hown).2
 clear hown
 refine op_field (o' := 2) fa_40_2 rfl rfl rfl ?_
 refine op_field (o' := 3) fa_36_1 rfl rfl rfl ?_
 refine op_store (i := 1) (cs' := [_, _, _, _, _, _]) (O' := [_, _]) hS Tryd.sizeOf34 rfl rfl rfl rfl rfl rfl rfl ?_
 clear hS; intro W4 hS
 refine endF (XF.thenN ?_)
 refine seqF (regF ?_)
 refine op_field (o' := 4) fa_40_3 rfl rfl rfl ?_
 refine op_load Tryd.isAgg37 rfl (cell_own (hS.at_ 1 rfl) rfl) rfl ?_
 refine op_call (vs := [_]) hS goes_46 rfl (cclone_is _ _ [] _ (by simp) (.inl rfl) 0 rfl) rfl ?_
 rintro e W5 ⟨ca1, cc1, rfl, _, _, hb⟩
 refine ⟨_, rfl, hb, fun hS' => ?_⟩
 clear hS; have hS := hS'; clear hS' hb
 refine op_field (o' := 4) fa_40_3 rfl rfl rfl ?_
 refine op_store (i := 1) (cs' := [_, _, _, _, _, _]) (O' := [_, _]) hS Tryd.sizeOf37 rfl rfl rfl rfl rfl rfl rfl ?_
 clear hS; intro W6 hS
 refine endF (XF.thenN ?_)
 refine seqF (regF ?_)
 refine op_assign rfl rfl ?_
 refine endF (XF.thenN ?_)
 refine seqF ?_
 refine seqF ?_
 have hS := (hS.newG 40 6).clear
 refine regF ?_
 refine op_field (o' := 5) fa_40_4 rfl rfl rfl ?_
 refine op_load Tryd.isAgg38 rfl (cell_own (hS.at_ 1 rfl) rfl) rfl ?_
 refine op_len Tryd.underlying38 rfl rfl ?_
 refine op_move rfl rfl ?_
 refine endF (XF.thenN ?_)
 refine blockF ?_
 refine loopF (fun m l W => (m = 2 ∧ l = [(1, .pointer (some ⟨B1, 0, none⟩)), (2, .pointer (some ⟨B2, 0, none⟩)), (3, .slice none 0 0), (17, .slice (some ⟨fb, fo, none⟩) 2 fpc), (18, .int .i64 2), (19, .int .i64 0)] ∧ St w [(B2, [.bool false, .int .i64 0, .int .u64 0, .slice none 0 0, .slice none 0 0, .slice none 0 0], 40), (B1, [.bool false, .int .i64 0, .int .u64 0, .slice ra1 0 rc1, .slice ca1 0 cc1, .slice (some ⟨fb, fo, none⟩) 2 fpc], 40)] [⟨.slice none 0 0, 0, [], 40, 6⟩] [] W) ∨ (∃ v1 lo1 A1 h1, m = 1 ∧ l = [(1, .pointer (some ⟨B1, 0, none⟩)), (2, .pointer (some ⟨B2, 0, none⟩)), (3, v1), (17, .slice (some ⟨fb, fo, none⟩) 2 fpc), (18, .int .i64 2), (19, .int .i64 1)] ∧ w.heap.size ≤ lo1 ∧ PNew lo1 A1 t n h1 x1 ∧ St w [(B2, [.bool false, .int .i64 0, .int .u64 0, .slice none 0 0, .slice none 0 0, .slice none 0 0], 40), (B1, [.bool false, .int .i64 0, .int .u64 0, .slice ra1 0 rc1, .slice ca1 0 cc1, .slice (some ⟨fb, fo, none⟩) 2 fpc], 40)] [⟨v1, 1, h1.six, 40, 6⟩] [(lo1, A1)] W) ∨ (∃ v2 lo1 A1 h1 lo2 A2 h2, m = 0 ∧ l = [(1, .pointer (some ⟨B1, 0, none⟩)), (2, .pointer (some ⟨B2, 0, none⟩)), (3, v2), (17, .slice (some ⟨fb, fo, none⟩) 2 fpc), (18, .int .i64 2), (19, .int .i64 2)] ∧ w.heap.size ≤ lo1 ∧ PNew lo1 A1 t n h1 x1 ∧ w.heap.size ≤ lo2 ∧ PNew lo2 A2 u m0 h2 x2 ∧ St w [(B2, [.bool false, .int .i64 0, .int .u64 0, .slice none 0 0, .slice none 0 0, .slice none 0 0], 40), (B1, [.bool false, .int .i64 0, .int .u64 0, .slice ra1 0 rc1, .slice ca1 0 cc1, .slice (some ⟨fb, fo, none⟩) 2 fpc], 40)] [⟨v2, 2, h1.six ++ h2.six, 40, 6⟩] [(lo2, A2), (lo1, A1)] W)) (2) ([(1, _), (2, _), (3, _), (17, _), (18, _), (19, _)]) ⟨rfl, rfl, rfl, rfl, rfl, rfl, trivial⟩ (.inl ⟨rfl, rfl, hS⟩) ?_
 clear hS
 rintro m l W (⟨rfl, rfl, hS⟩ | ⟨v1, lo1, A1, h1, rfl, rfl, hlo1, hn1, hS⟩ | ⟨v2, lo1, A1, h1, lo2, A2, h2, rfl, rfl, hlo1, hn1, hlo2, hn2, hS⟩)
 ·have k1 := CellsAt.agree hS.agree (Nat.zero_le _) hf6.cells
  refine seqF (regF ?_)
  refine op_lss rfl rfl rfl ?_
  refine endF (XF.thenN ?_)
  refine seqF ?_
  refine condF rfl (fun hc => ?_) (fun hc => absurd (of_decide_eq_false hc) (by omega))
  have hc := of_decide_eq_true hc
  refine skipF ?_
  refine XF.thenN ?_
  refine seqF ?_
  refine blockF ?_
  refine seqF (regF ?_)
  refine op_indexA (j := 0) Tryd.underlying38 Tryd.sizeOf40 rfl rfl rfl (by omega) (Nat.add_zero _) rfl ?_
  refine op_loadA (vs := [_, _, _, _, _, _]) Tryd.isAgg40 Tryd.sizeOf40 rfl (by assumption) rfl ?_
  refine op_alloc (cs := [_, _, _, _, _, _]) hS Tryd.zeroValue40 rfl rfl ?_
  clear hS; intro B7 W7 hS
  refine op_storeA (i := 0) (vs := [_, _, _, _, _, _]) (cs' := [_, _, _, _, _, _]) (O' := [_, _, _]) hS Tryd.sizeOf40 rfl rfl rfl rfl rfl rfl rfl ?_
  clear hS; intro W8 hS
  refine endF (XF.thenN ?_)
  refine regF ?_
  refine op_move rfl rfl ?_
  refine op_loadA (vs := [_, _, _, _, _, _]) Tryd.isAgg40 Tryd.sizeOf40 rfl (CellsAt.own (j := 0) (m := 6) (hS.at_ 0 rfl) rfl) rfl ?_
  have hsz := hS.below.size
  refine op_call (vs := [_]) hS goes_34 rfl (copied_plain t n f1 _ _ (hx1.below hS.below)) rfl ?_
  rintro e W9 ⟨h1, rfl, hn, hb⟩
  refine ⟨_, rfl, hb, fun hS' => ?_⟩
  clear hS; have hS := hS'; clear hS'
  refine op_buildSlice (us := [(0, .agg (List.toArray [_, _, _, _, _, _]))]) hS Tryd.underlying38 Tryd.sizeOf40 Tryd.zeroValue40 rfl rfl rfl (bs_38_1 _ _ _ _ _ _) rfl ?_
  clear hS; intro B10 W10 hS
  refine op_append (i := 0) (news := [_, _, _, _, _, _]) hS Tryd.underlying38 inf_40 rfl rfl (by show 0 < 6; decide) rfl rfl rfl rfl rfl (CellsAt.own (j := 0) (m := 6) (hS.at_ 0 rfl) rfl) rfl rfl (by dsimp only; simp only [maxLen]; omega) (by dsimp only; show _ * 96 ≤ _; omega) rfl ?_
  clear hS; intro v11 W11 hS
  refine op_assign rfl rfl ?_
  refine endF ?_
  refine XF.blkN ?_
  refine XF.thenN ?_
  refine regF ?_
  refine op_add rfl rfl (IntWalk.i64_in _ (by omega)) rfl ?_
  refine op_move rfl rfl ?_
  refine endF ?_
  exact XF.round 1 [(1, _), (2, _), (3, _), (17, _), (18, _), (19, _)] (by omega) ⟨rfl, rfl, rfl, rfl, rfl, rfl, trivial⟩ (.inr (.inl ⟨_, _, _, h1, rfl, rfl, hsz, hn, hS.tail.tail⟩))
 ·have k1 := CellsAt.agree hS.agree (Nat.zero_le _) hf7.cells
  refine seqF (regF ?_)
  refine op_lss rfl rfl rfl ?_
  refine endF (XF.thenN ?_)
  refine seqF ?_
  refine condF rfl (fun hc => ?_) (fun hc => absurd (of_decide_eq_false hc) (by omega))
  have hc := of_decide_eq_true hc
  refine skipF ?_
  refine XF.thenN ?_
  refine seqF ?_
  refine blockF ?_
  refine seqF (regF ?_)
  refine op_indexA (j := 1) Tryd.underlying38 Tryd.sizeOf40 rfl rfl rfl (by omega) rfl rfl ?_
  refine op_loadA (vs := [_, _, _, _, _, _]) Tryd.isAgg40 Tryd.sizeOf40 rfl (by assumption) rfl ?_
  refine op_alloc (cs := [_, _, _, _, _, _]) hS Tryd.zeroValue40 rfl rfl ?_
  clear hS; intro B12 W12 hS
  refine op_storeA (i := 0) (vs := [_, _, _, _, _, _]) (cs' := [_, _, _, _, _, _]) (O' := [_, _, _]) hS Tryd.sizeOf40 rfl rfl rfl rfl rfl rfl rfl ?_
  clear hS; intro W13 hS
  refine endF (XF.thenN ?_)
  refine regF ?_
  refine op_move rfl rfl ?_
  refine op_loadA (vs := [_, _, _, _, _, _]) Tryd.isAgg40 Tryd.sizeOf40 rfl (CellsAt.own (j := 0) (m := 6) (hS.at_ 0 rfl) rfl) rfl ?_
  have hsz := hS.below.size
  refine op_call (vs := [_]) hS goes_34 rfl (copied_plain u m0 f2 _ _ (hx2.below hS.below)) rfl ?_
  rintro e W14 ⟨h2, rfl, hn, hb⟩
  refine ⟨_, rfl, hb, fun hS' => ?_⟩
  clear hS; have hS := hS'; clear hS'
  refine op_buildSlice (us := [(0, .agg (List.toArray [_, _, _, _, _, _]))]) hS Tryd.underlying38 Tryd.sizeOf40 Tryd.zeroValue40 rfl rfl rfl (bs_38_1 _ _ _ _ _ _) rfl ?_
  clear hS; intro B15 W15 hS
  refine op_append (i := 0) (news := [_, _, _, _, _, _]) hS Tryd.underlying38 inf_40 rfl rfl (by show 0 < 6; decide) rfl rfl rfl rfl rfl (CellsAt.own (j := 0) (m := 6) (hS.at_ 0 rfl) rfl) rfl rfl (by dsimp only; simp only [maxLen]; omega) (by dsimp only; show _ * 96 ≤ _; omega) rfl ?_
  clear hS; intro v16 W16 hS
  refine op_assign rfl rfl ?_
  refine endF ?_
  refine XF.blkN ?_
  refine XF.thenN ?_
  refine regF ?_
  refine op_add rfl rfl (IntWalk.i64_in _ (by omega)) rfl ?_
  refine op_move rfl rfl ?_
  refine endF ?_
  exact XF.round 0 [(1, _), (2, _), (3, _), (17, _), (18, _), (19, _)] (by omega) ⟨rfl, rfl, rfl, rfl, rfl, rfl, trivial⟩ (.inr (.inr ⟨_, _, _, h1, _, _, h2, rfl, rfl, hlo1, hn1, hsz, hn, hS.tail.tail⟩))
 ·skip
  refine seqF (regF ?_)
  refine op_lss rfl rfl rfl ?_
  refine endF (XF.thenN ?_)
  refine seqF ?_
  refine condF rfl (fun hc => absurd (of_decide_eq_true hc) (by omega)) (fun hc => ?_)
  have hc := of_decide_eq_false hc
  refine exitF ?_
  refine XF.thenX ?_
  refine XF.thenX ?_
  refine XF.blkX ?_
  refine XF.thenN ?_
  refine seqF ?_
  obtain ⟨gb, gc, rfl, hgb, hg6, hg7⟩ := own_two (hS.row 0 rfl)
  clear hgb hg6 hg7
  refine regF ?_
  refine op_move rfl rfl ?_
  refine op_field (o' := 5) fa_40_4 rfl rfl rfl ?_
  refine op_store (i := 1) (cs' := [_, _, _, _, _, _]) (O' := [_, _]) hS Tryd.sizeOf38 rfl rfl rfl rfl rfl rfl rfl ?_
  clear hS; intro W17 hS
  refine endF (XF.thenN ?_)
  refine seqF (regF ?_)
  refine op_loadA (vs := [_, _, _, _, _, _]) Tryd.isAgg40 Tryd.sizeOf40 rfl (CellsAt.own (j := 0) (m := 6) (hS.at_ 1 rfl) rfl) rfl ?_
  refine op_storeA (i := 0) (vs := [_, _, _, _, _, _]) (cs' := [_, _, _, _, _, _]) (O' := [_, _]) hS Tryd.sizeOf40 rfl rfl rfl rfl rfl rfl rfl ?_
  clear hS; intro W18 hS
  refine endF (XF.thenN ?_)
  refine retF ?_
  refine XF.res (resC1 (vs := [_, _, _, _, _, _]) Tryd.results34 Tryd.isAgg40 Tryd.sizeOf40 rfl (CellsAt.own (j := 0) (m := 6) (hS.at_ 0 rfl) rfl)) ?_
  exact copied_fin hS.below (hS.row 0 rfl) hlo1 (hn1.agree (hS.since 1 rfl)) hlo2 (hn2.agree (hS.since 0 rfl))
end Go.Proofs.YtgjojhmninbkoaaDoor
namespace Go.Proofs.YtgjojhmninbkoaaDoor
open Go Go.RowKit
section
variable {w : World} {S : PS} {sf : SF} {f g : WF} {x y : PX}
theorem copied_ok (hx : XIs w S f x) : Calls Tryd.prog 34 #[f.val] w (WRet S x w) := by
 cases S <;> cases x <;> first | exact hx.elim | skip
 ·exact copied_plain _ _ _ _ _ hx
 ·obtain ⟨ra, ca, rc, cc, pc, fb, fo, f1, f2, rfl, h6, h7, h8, h9⟩ := hx.two
  exact copied_pair _ _ _ _ _ _ _ _ _ _ _ _ _ _ _ _ h6 h7 h8 h9
end
def FRow (w : World) (a : Option Addr) (fs : List WF) : Prop := fs = [] ∨ ∃ b off, a = some ⟨b, off, none⟩ ∧ ∀ (i : Nat) f, fs[i]? = some f → W6 w b (off + i * 6) f
theorem FRow.at_ {w : World} {a : Option Addr} {fs : List WF} (h : FRow w a fs) {i : Nat} {f : WF} (hi : fs[i]? = some f) : ∃ b off, a = some ⟨b, off, none⟩ ∧ W6 w b (off + i * 6) f := by
 rcases h with rfl | ⟨b, off, ha, hc⟩
 ·simp at hi
 ·exact ⟨b, off, ha, hc i f hi⟩
def XL (w : World) (S : PS) (fs : List WF) (xs : List PX) : Prop := fs.length = xs.length ∧ ∀ (i : Nat) f x, fs[i]? = some f → xs[i]? = some x → XIs w S f x
theorem XL.at_ {w : World} {S : PS} {fs : List WF} {xs : List PX} (h : XL w S fs xs) {k : Nat} (hk : k < fs.length) : ∃ f x, fs[k]? = some f ∧ xs[k]? = some x ∧ XIs w S f x :=
 ⟨fs[k], xs[k]'(by have := h.1; omega), by simp [hk], by have := h.1; simp [show k < xs.length by omega], h.2 k _ _ (by simp [hk]) (by have := h.1; simp [show k < xs.length by omega])⟩
def WRet2 (S : PS) (x : PX) (e0 : Int) (w : World) (e : Ending) (w' : World) : Prop := ∃ f : WF, e = .returned (.tuple #[f.val, .int .i64 e0]) ∧ XNew w.heap.size w' S f x ∧ Below w.heap.size w w'
theorem take_fold {α β : Type} {f : β → α → β} {b : β} {xs : List α} {k : Nat} {x : α} (h : xs[k]? = some x) : (xs.take (k + 1)).foldl f b = f ((xs.take k).foldl f b) x := by
 rw [List.take_add_one, h]; simp [List.foldl_append]
theorem FRow.below {w w' : World} {a : Option Addr} {fs : List WF} (h : FRow w a fs) (hb : Below w.heap.size w w') : FRow w' a fs := by
 rcases h with h | ⟨b, off, rfl, hc⟩
 ·exact .inl h
 ·exact .inr ⟨b, off, rfl, fun i f hi => (hc i f hi).below hb⟩
theorem XL.below {w w' : World} {S : PS} {fs : List WF} {xs : List PX} (h : XL w S fs xs) (hb : Below w.heap.size w w') : XL w' S fs xs := ⟨h.1, fun i f x hf hx => (h.2 i f x hf hx).below hb⟩
theorem checkAllW_ok (S : PS) (sf : SF) (w : World) (hs : SIs w S sf) (hok : S.ok) (a : Option Addr) (c m : Nat) (fs : List WF) (xs : List PX) (hr : FRow w a fs) (hx : XL w S fs xs) (hm : fs.length = m) (hmx : m ≤ 9223372036854775807) :
  Calls Tryd.prog 33 #[sf.val, .slice a m c] w (fun e w' => e = .returned (.int .i64 0) ∧ Below w.heap.size w w') := by
 refine enterF (args := [sf.val, .slice a m c]) Tryd.func33 rfl Tryd.ntmps33 rfl ?_
 have hS := St.start w
 refine seqF (regF ?_)
 refine op_box (cs := [_, _, _]) hS rfl rfl rfl ?_
 clear hS; intro B1 W1 hS
 refine op_assign rfl rfl ?_
 refine endF (XF.thenN ?_)
 refine seqF ?_
 refine seqF (regF ?_)
 refine op_loadA (vs := [_, _, _]) Tryd.isAgg25 Tryd.sizeOf25 rfl (CellsAt.own (j := 0) (m := 3) (hS.at_ 0 rfl) rfl) rfl ?_
 refine op_call (vs := [_]) hS goes_28 rfl (spaceA_ok (hs.below hS.below) hok) rfl ?_
 rintro e W2 ⟨rfl, hb⟩
 refine ⟨_, rfl, hb, fun hS' => ?_⟩
 clear hS; have hS := hS'; clear hS' hb
 refine op_assign rfl rfl ?_
 refine endF (XF.thenN ?_)
 refine seqF (regF ?_)
 refine op_move rfl rfl ?_
 refine op_neq rfl rfl rfl ?_
 refine endF (XF.thenN ?_)
 refine condF rfl (fun hc => absurd (of_decide_eq_true hc) (by omega)) (fun hc => ?_)
 have hc := of_decide_eq_false hc
 refine skipF ?_
 refine XF.thenN ?_
 refine seqF ?_
 refine seqF (regF ?_)
 refine op_move rfl rfl ?_
 refine op_len Tryd.underlying38 rfl rfl ?_
 refine op_move rfl rfl ?_
 refine endF (XF.thenN ?_)
 refine blockF ?_
 refine loopF (fun q l W => ∃ k : Nat, k ≤ m ∧ q = m - k ∧ l = [(2, .pointer (some ⟨B1, 0, none⟩)), (13, .slice a m c), (14, .int .i64 (m : Int)), (15, .int .i64 (k : Int))] ∧ St w [(B1, [.int .i64 sf.tag, .int .i64 sf.dim, .slice sf.a sf.len sf.cap], 25)] [] [] W) (m - 0) ([(2, _), (13, _), (14, _), (15, _)]) ⟨rfl, rfl, rfl, rfl, trivial⟩ (⟨0, Nat.zero_le _, rfl, rfl, hS.clear⟩) ?_
 clear hS
 rintro q l W ⟨k, hkm, rfl, rfl, hS⟩
 refine seqF (regF ?_)
 refine op_lss rfl rfl rfl ?_
 refine endF (XF.thenN ?_)
 refine seqF ?_
 refine condF rfl (fun hc => ?_) (fun hc => ?_)
 ·have hc16 := of_decide_eq_true hc; clear hc
  have hk : k < m := by omega
  obtain ⟨f, x, hf, hxk, hxx⟩ := hx.at_ (k := k) (by omega)
  obtain ⟨b, off, rfl, h6⟩ := hr.at_ hf
  have k1 := CellsAt.agree hS.agree (Nat.zero_le _) h6.cells
  refine skipF ?_
  refine XF.thenN ?_
  refine seqF ?_
  refine blockF ?_
  refine seqF (regF ?_)
  refine op_indexA  Tryd.underlying38 Tryd.sizeOf40 rfl rfl rfl (by omega) rfl rfl ?_
  refine op_loadA (vs := [_, _, _, _, _, _]) Tryd.isAgg40 Tryd.sizeOf40 rfl (by assumption) rfl ?_
  refine op_alloc (cs := [_, _, _, _, _, _]) hS Tryd.zeroValue40 rfl rfl ?_
  clear hS; intro B3 W3 hS
  refine op_storeA (i := 0) (vs := [_, _, _, _, _, _]) (cs' := [_, _, _, _, _, _]) (O' := [_, _]) hS Tryd.sizeOf40 rfl rfl rfl rfl rfl rfl rfl ?_
  clear hS; intro W4 hS
  refine endF (XF.thenN ?_)
  refine seqF (regF ?_)
  refine op_loadA (vs := [_, _, _]) Tryd.isAgg25 Tryd.sizeOf25 rfl (CellsAt.own (j := 0) (m := 3) (hS.at_ 1 rfl) rfl) rfl ?_
  refine op_loadA (vs := [_, _, _, _, _, _]) Tryd.isAgg40 Tryd.sizeOf40 rfl (CellsAt.own (j := 0) (m := 6) (hS.at_ 0 rfl) rfl) rfl ?_
  refine op_call (vs := [_, _]) hS goes_44 rfl (isA_ok (hs.below hS.below) hok (hxx.below hS.below)) rfl ?_
  rintro e W5 ⟨rfl, hb⟩
  refine ⟨_, rfl, hb, fun hS' => ?_⟩
  clear hS; have hS := hS'; clear hS' hb
  refine op_not rfl rfl ?_
  refine endF (XF.thenN ?_)
  refine condN rfl ?_
  refine skipF ?_
  refine XF.blkN ?_
  refine XF.thenN ?_
  refine regF ?_
  refine op_add rfl rfl (IntWalk.i64_in _ (by omega)) rfl ?_
  refine op_move rfl rfl ?_
  refine endF ?_
  exact XF.round (m - (k + 1)) [(2, _), (13, _), (14, _), (15, _)] (by omega) ⟨rfl, rfl, rfl, rfl, trivial⟩ ⟨k + 1, by omega, rfl, rfl, hS.tail.clear⟩
 ·have hc16 := of_decide_eq_false hc; clear hc
  refine exitF ?_
  refine XF.thenX ?_
  refine XF.thenX ?_
  refine XF.blkX ?_
  refine XF.thenN ?_
  refine seqF (regF ?_)
  refine op_assign rfl rfl ?_
  refine endF (XF.thenN ?_)
  refine retF ?_
  refine XF.res (res1 Tryd.results33 rfl) ?_
  exact ⟨rfl, hS.below⟩
end Go.Proofs.YtgjojhmninbkoaaDoor
namespace Go.Proofs.YtgjojhmninbkoaaDoor
open Go Go.RowKit
theorem XL.tail {w : World} {S : PS} {f : WF} {fs : List WF} {x : PX} {xs : List PX} (h : XL w S (f :: fs) (x :: xs)) : XL w S fs xs :=
 ⟨by have := h.1; simpa using this, fun i g y hg hy => h.2 (i + 1) g y (by simpa using hg) (by simpa using hy)⟩
theorem FRow.tail {w : World} {a a' : Option Addr} {f : WF} {fs : List WF} {m c : Nat} (h : FRow w a (f :: fs)) (hm : fs.length + 1 = m) (hmc : m ≤ c) (h1 : c = 1 → a' = a) (h2 : c ≠ 1 → a' = a.map (·.add (1 * 6))) : FRow w a' fs := by
 by_cases hc : c = 1
 ·exact .inl (List.eq_nil_of_length_eq_zero (by omega))
 ·rcases h with h | ⟨b, off, rfl, hh⟩
  ·cases h
  ·refine .inr ⟨b, off + 6, by rw [h2 hc, Option.map_some, Addr.add_lit], fun i g hg => ?_⟩
   have := hh (i + 1) g (by simpa using hg)
   rwa [show off + (i + 1) * 6 = off + 6 + i * 6 by omega] at this
theorem ExtendW_ok (S : PS) (sf : SF) (w : World) (hs : SIs w S sf) (hok : S.ok) (a : Option Addr) (c m : Nat) (f0 : WF) (x0 : PX) (ft : List WF) (xt : List PX) (hr : FRow w a (f0 :: ft)) (hx : XL w S (f0 :: ft) (x0 :: xt)) (hm : ft.length + 1 = m) (hmc : m ≤ c) (hmx : m ≤ 9223372036854775807) (ht : Tabs w) :
  Calls Tryd.prog 25 #[sf.val, .slice a m c] w (WRet2 S (xt.foldl (extX S) x0) 0 w) := by
 refine enterF (args := [sf.val, .slice a m c]) Tryd.func25 rfl Tryd.ntmps25 rfl ?_
 have hS := St.start w
 refine seqF (regF ?_)
 refine op_box (cs := [_, _, _]) hS rfl rfl rfl ?_
 clear hS; intro B1 W1 hS
 refine op_alloc (cs := [_, _, _, _, _, _]) hS Tryd.zeroValue40 rfl rfl ?_
 clear hS; intro B2 W2 hS
 refine op_assign rfl rfl ?_
 refine endF (XF.thenN ?_)
 refine seqF ?_
 refine seqF (regF ?_)
 refine op_loadA (vs := [_, _, _]) Tryd.isAgg25 Tryd.sizeOf25 rfl (CellsAt.own (j := 0) (m := 3) (hS.at_ 1 rfl) rfl) rfl ?_
 refine op_move rfl rfl ?_
 refine op_call (vs := [_, _]) hS goes_33 rfl (checkAllW_ok S sf _ (hs.below hS.below) hok a c m _ _ (hr.below hS.below) (hx.below hS.below) (by simpa using hm) hmx) rfl ?_
 rintro e W3 ⟨rfl, hb⟩
 refine ⟨_, rfl, hb, fun hS' => ?_⟩
 clear hS; have hS := hS'; clear hS' hb
 refine op_assign rfl rfl ?_
 refine endF (XF.thenN ?_)
 refine seqF (regF ?_)
 refine op_move rfl rfl ?_
 refine op_neq rfl rfl rfl ?_
 refine endF (XF.thenN ?_)
 refine condF rfl (fun hc => absurd (of_decide_eq_true hc) (by omega)) (fun hc => ?_)
 have hc := of_decide_eq_false hc
 refine skipF ?_
 refine XF.thenN ?_
 refine seqF ?_
 refine seqF (regF ?_)
 refine op_move rfl rfl ?_
 refine op_len Tryd.underlying38 rfl rfl ?_
 refine op_eql rfl rfl rfl ?_
 refine endF (XF.thenN ?_)
 refine condF rfl (fun hc => absurd (of_decide_eq_true hc) (by omega)) (fun hc => ?_)
 have hc := of_decide_eq_false hc
 refine skipF ?_
 refine XF.thenN ?_
 refine seqF ?_
 obtain ⟨b, off, rfl, h6⟩ := hr.at_ (i := 0) rfl
 have k0 : CellsAt W3 b off f0.six := CellsAt.agree hS.agree (Nat.zero_le _) (show W6 w b off f0 by simpa using h6).cells
 have hsz := hS.below.size
 refine regF ?_
 refine op_move rfl rfl ?_
 refine op_indexA (j := 0) Tryd.underlying38 Tryd.sizeOf40 rfl rfl rfl (by omega) (Nat.add_zero _) rfl ?_
 refine op_loadA (vs := [_, _, _, _, _, _]) Tryd.isAgg40 Tryd.sizeOf40 rfl (by assumption) rfl ?_
 refine op_call (vs := [_]) hS goes_34 rfl (copied_ok ((hx.2 0 f0 x0 rfl rfl).below hS.below)) rfl ?_
 rintro e W4 ⟨f1, rfl, hn, hb⟩
 refine ⟨_, rfl, hb, fun hS' => ?_⟩
 clear hS; have hS := hS'; clear hS'
 refine op_alloc (cs := [_, _, _, _, _, _]) hS Tryd.zeroValue40 rfl rfl ?_
 clear hS; intro B5 W5 hS
 refine op_storeA (i := 0) (vs := [_, _, _, _, _, _]) (cs' := [_, _, _, _, _, _]) (O' := [_, _, _]) hS Tryd.sizeOf40 rfl rfl rfl rfl rfl rfl rfl ?_
 clear hS; intro W6 hS
 refine endF (XF.thenN ?_)
 refine seqF ?_
 refine seqF (regF ?_)
 refine op_move rfl rfl ?_
 refine op_sliceFrom (j := 1) Tryd.underlying38 Tryd.sizeOf40 rfl rfl rfl (by omega) rfl ?_
 intro ad7 hadE7 hadN7
 have hrt := FRow.tail hr hm hmc hadE7 hadN7
 have hxt := XL.tail hx
 clear hadE7 hadN7
 refine op_len Tryd.underlying38 rfl rfl ?_
 refine op_move rfl rfl ?_
 refine endF (XF.thenN ?_)
 refine blockF ?_
 refine loopF (fun q l W => ∃ (k : Nat) (g : WF) (lo : Nat) (A : World), k ≤ m - 1 ∧ q = m - 1 - k ∧ l = [(2, .pointer (some ⟨B1, 0, none⟩)), (4, .pointer (some ⟨B2, 0, none⟩)), (7, .pointer (some ⟨B5, 0, none⟩)), (27, .slice ad7 (m - 1) (c - 1)), (28, .int .i64 ((m - 1 : Nat) : Int)), (29, .int .i64 (k : Int))] ∧ w.heap.size ≤ lo ∧ XNew lo A S g ((xt.take k).foldl (extX S) x0) ∧ St w [(B5, g.six, 40), (B2, [.bool false, .int .i64 0, .int .u64 0, .slice none 0 0, .slice none 0 0, .slice none 0 0], 40), (B1, [.int .i64 sf.tag, .int .i64 sf.dim, .slice sf.a sf.len sf.cap], 25)] [] [(lo, A)] W) (m - 1 - 0) ([(2, _), (4, _), (7, _), (27, _), (28, _), (29, _)]) ⟨rfl, rfl, rfl, rfl, rfl, rfl, trivial⟩ (⟨0, f1, _, _, Nat.zero_le _, rfl, rfl, hsz, hn, hS.keep [_] (fun q hq => by simp at hq; subst hq; exact List.mem_cons_self)⟩) ?_
 clear hS
 rintro q l W ⟨k, g, lo, A, hkm, rfl, rfl, hlo, hn0, hS⟩
 refine seqF (regF ?_)
 refine op_lss rfl rfl rfl ?_
 refine endF (XF.thenN ?_)
 refine seqF ?_
 refine condF rfl (fun hc => ?_) (fun hc => ?_)
 ·have hc30 := of_decide_eq_true hc; clear hc
  have hk : k < m - 1 := by omega
  obtain ⟨f, x, hf, hxk, hxx⟩ := hxt.at_ (k := k) (by omega)
  obtain ⟨b2, off2, rfl, h62⟩ := hrt.at_ hf
  have k1 := CellsAt.agree hS.agree (Nat.zero_le _) h62.cells
  refine skipF ?_
  refine XF.thenN ?_
  refine seqF ?_
  refine blockF ?_
  refine seqF (regF ?_)
  refine op_indexA  Tryd.underlying38 Tryd.sizeOf40 rfl rfl rfl (by omega) rfl rfl ?_
  refine op_loadA (vs := [_, _, _, _, _, _]) Tryd.isAgg40 Tryd.sizeOf40 rfl (by assumption) rfl ?_
  refine op_alloc (cs := [_, _, _, _, _, _]) hS Tryd.zeroValue40 rfl rfl ?_
  clear hS; intro B8 W8 hS
  refine op_storeA (i := 0) (vs := [_, _, _, _, _, _]) (cs' := [_, _, _, _, _, _]) (O' := [_, _, _, _]) hS Tryd.sizeOf40 rfl rfl rfl rfl rfl rfl rfl ?_
  clear hS; intro W9 hS
  refine endF (XF.thenN ?_)
  refine regF ?_
  refine op_loadA (vs := [_, _, _]) Tryd.isAgg25 Tryd.sizeOf25 rfl (CellsAt.own (j := 0) (m := 3) (hS.at_ 3 rfl) rfl) rfl ?_
  refine op_loadA (vs := [_, _, _, _, _, _]) Tryd.isAgg40 Tryd.sizeOf40 rfl (CellsAt.own (j := 0) (m := 6) (hS.at_ 1 rfl) rfl) rfl ?_
  refine op_loadA (vs := [_, _, _, _, _, _]) Tryd.isAgg40 Tryd.sizeOf40 rfl (CellsAt.own (j := 0) (m := 6) (hS.at_ 0 rfl) rfl) rfl ?_
  have hsz2 := hS.below.size
  refine op_call (vs := [_, _, _]) hS goes_35 rfl (wExt_is (hs.below hS.below) hok ((hn0.agree (hS.since 0 rfl)).is) (hxx.below hS.below) (ht.below hS.below)) rfl ?_
  rintro e W10 ⟨f2, rfl, hn2, hb⟩
  refine ⟨_, rfl, hb, fun hS' => ?_⟩
  clear hS; have hS := hS'; clear hS'
  refine op_storeA (i := 1) (vs := [_, _, _, _, _, _]) (cs' := [_, _, _, _, _, _]) (O' := [_, _, _, _]) hS Tryd.sizeOf40 rfl rfl rfl rfl rfl rfl rfl ?_
  clear hS; intro W11 hS
  refine endF ?_
  refine XF.blkN ?_
  refine XF.thenN ?_
  refine regF ?_
  refine op_add rfl rfl (IntWalk.i64_in _ (by omega)) rfl ?_
  refine op_move rfl rfl ?_
  refine endF ?_
  exact XF.round (m - 1 - (k + 1)) [(2, _), (4, _), (7, _), (27, _), (28, _), (29, _)] (by omega) ⟨rfl, rfl, rfl, rfl, rfl, rfl, trivial⟩ ⟨k + 1, f2, _, _, by omega, rfl, rfl, hsz2, by rw [take_fold hxk]; exact hn2, hS.tail.keep [_] (fun q hq => by simp at hq; subst hq; exact List.mem_cons_self)⟩
 ·have hc30 := of_decide_eq_false hc; clear hc
  refine exitF ?_
  refine XF.thenX ?_
  refine XF.thenX ?_
  refine XF.blkX ?_
  refine XF.thenN ?_
  refine seqF (regF ?_)
  refine op_loadA (vs := [_, _, _, _, _, _]) Tryd.isAgg40 Tryd.sizeOf40 rfl (CellsAt.own (j := 0) (m := 6) (hS.at_ 0 rfl) rfl) rfl ?_
  refine op_storeA (i := 1) (vs := [_, _, _, _, _, _]) (cs' := [_, _, _, _, _, _]) (O' := [_, _, _]) hS Tryd.sizeOf40 rfl rfl rfl rfl rfl rfl rfl ?_
  clear hS; intro W12 hS
  refine op_assign rfl rfl ?_
  refine endF (XF.thenN ?_)
  refine retF ?_
  refine XF.res (resCT (vs := [_, _, _, _, _, _]) Tryd.results25 Tryd.isAgg40 Tryd.sizeOf40 rfl (CellsAt.own (j := 0) (m := 6) (hS.at_ 1 rfl) rfl) rfl) ?_
  have e1 : xt.take k = xt := List.take_of_length_le (by have := hxt.1; omega)
  rw [e1] at hn0
  exact ⟨g, rfl, (hn0.agree (hS.since 0 rfl)).mono hlo, hS.below⟩
theorem OneW_ok (S : PS) (sf : SF) (w : World) (hs : SIs w S sf) (hok : S.ok) :
  Calls Tryd.prog 24 #[sf.val] w (WRet2 S (oneX S) 0 w) := by
 refine enterF (args := [sf.val]) Tryd.func24 rfl Tryd.ntmps24 rfl ?_
 have hS := St.start w
 refine seqF (regF ?_)
 refine op_box (cs := [_, _, _]) hS rfl rfl rfl ?_
 clear hS; intro B1 W1 hS
 refine op_alloc (cs := [_, _, _, _, _, _]) hS Tryd.zeroValue40 rfl rfl ?_
 clear hS; intro B2 W2 hS
 refine op_assign rfl rfl ?_
 refine endF (XF.thenN ?_)
 refine seqF ?_
 refine seqF (regF ?_)
 refine op_loadA (vs := [_, _, _]) Tryd.isAgg25 Tryd.sizeOf25 rfl (CellsAt.own (j := 0) (m := 3) (hS.at_ 1 rfl) rfl) rfl ?_
 refine op_call (vs := [_]) hS goes_28 rfl (spaceA_ok (hs.below hS.below) hok) rfl ?_
 rintro e W3 ⟨rfl, hb⟩
 refine ⟨_, rfl, hb, fun hS' => ?_⟩
 clear hS; have hS := hS'; clear hS' hb
 refine op_assign rfl rfl ?_
 refine endF (XF.thenN ?_)
 refine seqF (regF ?_)
 refine op_move rfl rfl ?_
 refine op_neq rfl rfl rfl ?_
 refine endF (XF.thenN ?_)
 refine condF rfl (fun hc => absurd (of_decide_eq_true hc) (by omega)) (fun hc => ?_)
 have hc := of_decide_eq_false hc
 refine skipF ?_
 refine XF.thenN ?_
 refine seqF (regF ?_)
 refine op_loadA (vs := [_, _, _]) Tryd.isAgg25 Tryd.sizeOf25 rfl (CellsAt.own (j := 0) (m := 3) (hS.at_ 1 rfl) rfl) rfl ?_
 have hsz := hS.below.size
 refine op_call (vs := [_]) hS goes_32 rfl (oneA_ok (hs.below hS.below) hok) rfl ?_
 rintro e W4 ⟨f, rfl, hn, hb⟩
 refine ⟨_, rfl, hb, fun hS' => ?_⟩
 clear hS; have hS := hS'; clear hS'
 refine op_storeA (i := 0) (vs := [_, _, _, _, _, _]) (cs' := [_, _, _, _, _, _]) (O' := [_, _]) hS Tryd.sizeOf40 rfl rfl rfl rfl rfl rfl rfl ?_
 clear hS; intro W5 hS
 refine op_assign rfl rfl ?_
 refine endF (XF.thenN ?_)
 refine retF ?_
 refine XF.res (resCT (vs := [_, _, _, _, _, _]) Tryd.results24 Tryd.isAgg40 Tryd.sizeOf40 rfl (CellsAt.own (j := 0) (m := 6) (hS.at_ 0 rfl) rfl) rfl) ?_
 exact ⟨f, rfl, (hn.agree (hS.since 0 rfl)).mono hsz, hS.below⟩
theorem ZeroW_ok (S : PS) (sf : SF) (w : World) (hs : SIs w S sf) (hok : S.ok) :
  Calls Tryd.prog 23 #[sf.val] w (WRet2 S (zeroX S) 0 w) := by
 refine enterF (args := [sf.val]) Tryd.func23 rfl Tryd.ntmps23 rfl ?_
 have hS := St.start w
 refine seqF (regF ?_)
 refine op_box (cs := [_, _, _]) hS rfl rfl rfl ?_
 clear hS; intro B1 W1 hS
 refine op_alloc (cs := [_, _, _, _, _, _]) hS Tryd.zeroValue40 rfl rfl ?_
 clear hS; intro B2 W2 hS
 refine op_assign rfl rfl ?_
 refine endF (XF.thenN ?_)
 refine seqF ?_
 refine seqF (regF ?_)
 refine op_loadA (vs := [_, _, _]) Tryd.isAgg25 Tryd.sizeOf25 rfl (CellsAt.own (j := 0) (m := 3) (hS.at_ 1 rfl) rfl) rfl ?_
 refine op_call (vs := [_]) hS goes_28 rfl (spaceA_ok (hs.below hS.below) hok) rfl ?_
 rintro e W3 ⟨rfl, hb⟩
 refine ⟨_, rfl, hb, fun hS' => ?_⟩
 clear hS; have hS := hS'; clear hS' hb
 refine op_assign rfl rfl ?_
 refine endF (XF.thenN ?_)
 refine seqF (regF ?_)
 refine op_move rfl rfl ?_
 refine op_neq rfl rfl rfl ?_
 refine endF (XF.thenN ?_)
 refine condF rfl (fun hc => absurd (of_decide_eq_true hc) (by omega)) (fun hc => ?_)
 have hc := of_decide_eq_false hc
 refine skipF ?_
 refine XF.thenN ?_
 refine seqF (regF ?_)
 refine op_loadA (vs := [_, _, _]) Tryd.isAgg25 Tryd.sizeOf25 rfl (CellsAt.own (j := 0) (m := 3) (hS.at_ 1 rfl) rfl) rfl ?_
 have hsz := hS.below.size
 refine op_call (vs := [_]) hS goes_31 rfl (zeroA_ok (hs.below hS.below) hok) rfl ?_
 rintro e W4 ⟨f, rfl, hn, hb⟩
 refine ⟨_, rfl, hb, fun hS' => ?_⟩
 clear hS; have hS := hS'; clear hS'
 refine op_storeA (i := 0) (vs := [_, _, _, _, _, _]) (cs' := [_, _, _, _, _, _]) (O' := [_, _]) hS Tryd.sizeOf40 rfl rfl rfl rfl rfl rfl rfl ?_
 clear hS; intro W5 hS
 refine op_assign rfl rfl ?_
 refine endF (XF.thenN ?_)
 refine retF ?_
 refine XF.res (resCT (vs := [_, _, _, _, _, _]) Tryd.results23 Tryd.isAgg40 Tryd.sizeOf40 rfl (CellsAt.own (j := 0) (m := 6) (hS.at_ 0 rfl) rfl) rfl) ?_
 exact ⟨f, rfl, (hn.agree (hS.since 0 rfl)).mono hsz, hS.below⟩
end Go.Proofs.YtgjojhmninbkoaaDoor
namespace Go.Proofs.YtgjojhmninbkoaaDoor
open Go Go.RowKit
theorem all_false_at {α : Type} {l : List α} {q : α → Bool} {i : Nat} {x : α} (h : l[i]? = some x) (hq : q x = false) : l.all q = false := by
 rw [List.all_eq_false]; exact ⟨x, List.mem_of_getElem? h, by rw [hq]; decide⟩
theorem all_take_at {α : Type} {l : List α} {q : α → Bool} {i : Nat} {x : α} (h : l[i]? = some x) (ha : (l.take i).all q = true) (hq : q x = true) : (l.take (i + 1)).all q = true := by
 rw [List.take_add_one, h]; simp [ha, hq]
def okW (s : SV) (x : WV) : Bool := if plainB s.f.tag s.f.dim s.f.len = true then pwOk s.f.tag s.f.dim x.f else match s.ps with | [p, q] => pairOk p q x.f x.ps | _ => false
def chkW (s : SV) (x : WV) : Int := if spaceE s = 0 then (if okW s x = true then 0 else 51) else spaceE s
end Go.Proofs.YtgjojhmninbkoaaDoor
namespace Go.Proofs.YtgjojhmninbkoaaDoor
open Go Go.RowKit
theorem frow2 {W : World} {B : Nat} {T : TypeId} {f g : WF} (h : W.heap[B]? = some (.cells (List.toArray (f.six ++ g.six)) T (0, 0))) : FRow W (some ⟨B, 0, none⟩) [f, g] :=
 .inr ⟨B, 0, rfl, fun i k hi => by
  match i, hi with
  | 0, hi => simp at hi; subst hi; exact W6.of_cells (CellsAt.own (j := 0) (m := 6) h rfl)
  | 1, hi => simp at hi; subst hi; exact W6.of_cells (CellsAt.own (j := 6) (m := 6) h rfl)⟩
theorem xl_cons {w : World} {S : PS} {f : WF} {x : PX} {fs : List WF} {xs : List PX} (h : XIs w S f x) (hx : XL w S fs xs) : XL w S (f :: fs) (x :: xs) :=
 ⟨by simp [hx.1], fun i g y hg hy => by
  match i, hg, hy with
  | 0, hg, hy => simp at hg hy; subst hg; subst hy; exact h
  | i + 1, hg, hy => exact hx.2 i g y (by simpa using hg) (by simpa using hy)⟩
theorem xl_nil {w : World} {S : PS} : XL w S [] [] := ⟨rfl, fun i g y hg => by simp at hg⟩
end Go.Proofs.YtgjojhmninbkoaaDoor
namespace Go.Proofs.YtgjojhmninbkoaaDoor
open Go.RowKit
set_option linter.unusedSimpArgs false
def pc : Nat → Nat → Nat
 | 0, _ => 0
 | n + 1, f => pc n f + (if f.testBit n then 1 else 0)
end Go.Proofs.YtgjojhmninbkoaaDoor
namespace Go.Proofs.YtgjojhmninbkoaaDoor
open Go.RowKit
attribute [local go_sem ↓] Go.wp_at_zero Go.wp_at_succ
theorem isA_genY {w : World} {ds da : Nat} {s : SV} {x : WV} (hs : SIn w ds s) (hse : spaceE s = 0) (hx : WIn w da x) :
  Calls Tryd.prog 44 #[s.f.val, x.f.val] w fun e w' => e = .returned (.bool (okW s x)) ∧ Below w.heap.size w w' := by
 match ds, da, s, x, hs, hx with
 | ds + 1, da + 1, .mk f ps, .mk g qs, hs, hx =>
  by_cases hp : plainB f.tag f.dim f.len = true
  ·refine isA_plainY f.tag f.dim f.a f.len f.cap g hp (Nat.zero_le _) w hx.1 _ ?_
   unfold okW; exact (if_pos hp).symm
  ·have hse' : (if plainB f.tag f.dim f.len = true then (0 : Int) else if f.tag = 5 ∧ f.dim = 0 ∧ ps.length = 2 ∧ ps.all SV.pl = true then 0 else 50) = 0 := hse
   rw [if_neg hp] at hse'
   split at hse'
   ·rename_i hq
    obtain ⟨h5, h0, h2, hall⟩ := hq
    obtain ⟨t, n, a, l, c⟩ := f
    dsimp only at h5 h0 hp
    subst h5; subst h0
    obtain ⟨p, q, rfl⟩ := two_of h2
    have hl : 2 = l := hs.1
    subst hl
    simp only [List.all_cons, List.all_nil, Bool.and_true, Bool.and_eq_true] at hall
    refine isA_pairY ds a c p q g qs w hs hall.1 hall.2 da hx (fun _ _ => Nat.zero_le _) _ ?_
    unfold okW; exact (if_neg hp).symm
   ·cases hse'
end Go.Proofs.YtgjojhmninbkoaaDoor
namespace Go.Proofs.YtgjojhmninbkoaaDoor
open Go Go.RowKit
structure RV where
 p : Int
 g : Int
 q : Int
 wa : Option Addr
 wl : Nat
 wc : Nat
 ws : List Int
 x : WV
abbrev RV.val (r : RV) : Value := .agg #[.int .i64 r.p, .int .i64 r.g, .int .i64 r.q, .slice r.wa r.wl r.wc, .bool r.x.f.z, .int .i64 r.x.f.c, .int .u64 (r.x.f.g : Int), .slice r.x.f.ra r.x.f.rl r.x.f.rc, .slice r.x.f.ca r.x.f.cl r.x.f.cc, .slice r.x.f.pa r.x.f.pl r.x.f.pc]
abbrev RV.ten (r : RV) : List Value := [.int .i64 r.p, .int .i64 r.g, .int .i64 r.q, .slice r.wa r.wl r.wc, .bool r.x.f.z, .int .i64 r.x.f.c, .int .u64 (r.x.f.g : Int), .slice r.x.f.ra r.x.f.rl r.x.f.rc, .slice r.x.f.ca r.x.f.cl r.x.f.cc, .slice r.x.f.pa r.x.f.pl r.x.f.pc]
structure RIn (w : World) (d : Nat) (r : RV) : Prop where
 row : Row w r.wa r.ws
 len : r.ws.length = r.wl
 x : WIn w d r.x
def RRow (w : World) (a : Option Addr) (rs : List RV) : Prop :=
 rs = [] ∨ ∃ b off, a = some ⟨b, off, none⟩ ∧ ∀ (i : Nat) r, rs[i]? = some r → CellsAt w b (off + i * 10) r.ten
structure PV where
 s : SV
 st : Int
 sy : Int
 ra : Option Addr
 rl : Nat
 rc : Nat
 rs : List RV
abbrev PV.val (p : PV) : Value := .agg #[.int .i64 p.s.f.tag, .int .i64 p.s.f.dim, .slice p.s.f.a p.s.f.len p.s.f.cap, .int .i64 p.st, .int .i64 p.sy, .slice p.ra p.rl p.rc]
abbrev PV.six (p : PV) : List Value := [.int .i64 p.s.f.tag, .int .i64 p.s.f.dim, .slice p.s.f.a p.s.f.len p.s.f.cap, .int .i64 p.st, .int .i64 p.sy, .slice p.ra p.rl p.rc]
structure PvIn (w : World) (ds d : Nat) (p : PV) : Prop where
 s : SIn w ds p.s
 row : RRow w p.ra p.rs
 len : p.rs.length = p.rl
 rin : ∀ r ∈ p.rs, RIn w d r
structure CV where
 p : Int
 wa : Option Addr
 wl : Nat
 wc : Nat
 ws : List Int
abbrev CV.val (c : CV) : Value := .agg #[.int .i64 c.p, .slice c.wa c.wl c.wc]
structure CIn (w : World) (c : CV) : Prop where
 row : Row w c.wa c.ws
 len : c.ws.length = c.wl
theorem RIn.below {w w' : World} {d : Nat} {r : RV} (h : RIn w d r) (hb : Below w.heap.size w w') : RIn w' d r := ⟨h.row.below hb, h.len, WIn.below hb h.x⟩
theorem CIn.below {w w' : World} {c : CV} (h : CIn w c) (hb : Below w.heap.size w w') : CIn w' c := ⟨h.row.below hb, h.len⟩
theorem RRow.at_ {w : World} {a : Option Addr} {rs : List RV} (h : RRow w a rs) {i : Nat} {r : RV} (hi : rs[i]? = some r) : ∃ b off, a = some ⟨b, off, none⟩ ∧ CellsAt w b (off + i * 10) r.ten := by
 rcases h with rfl | ⟨b, off, ha, hc⟩
 ·simp at hi
 ·exact ⟨b, off, ha, hc i r hi⟩
theorem RRow.below {w w' : World} {a : Option Addr} {rs : List RV} (h : RRow w a rs) (hb : Below w.heap.size w w') : RRow w' a rs := by
 rcases h with h | ⟨b, off, rfl, hc⟩
 ·exact .inl h
 ·exact .inr ⟨b, off, rfl, fun i r hi => CellsAt.agree (below_agree hb 0) (Nat.zero_le _) (hc i r hi)⟩
theorem PvIn.below {w w' : World} {ds d : Nat} {p : PV} (h : PvIn w ds d p) (hb : Below w.heap.size w w') : PvIn w' ds d p := ⟨SIn.below hb h.s, h.row.below hb, h.len, fun r hr => (h.rin r hr).below hb⟩
theorem Row.at1 {w : World} {a : Option Addr} {zs : List Int} (h : Row w a zs) {i : Nat} (hi : i < zs.length) : ∃ b off y, a = some ⟨b, off, none⟩ ∧ zs[i]? = some y ∧ w.cell? ⟨b, off + i * 1, none⟩ = some (.int .i64 y) := by
 rcases h with rfl | ⟨b, off, ha, hc⟩
 ·simp at hi
 ·refine ⟨b, off, zs[i], ha, by simp [hi], ?_⟩
  rw [Nat.mul_one]
  have := hc i hi
  rw [this]; simp [List.getD, List.getElem?_eq_getElem hi]
def inQ (x n : Int) : Bool := decide (0 ≤ x) && decide (x < n)
def ruleB (st sy : Int) (r : RV) : Bool := inQ r.p st && (inQ r.q st && (inQ r.g sy && (decide (r.wl ≤ 4096) && r.ws.all (fun y => inQ y sy))))
def wtE (s : SV) : List RV → Int
 | [] => 0
 | r :: rs => if chkW s r.x = 0 then wtE s rs else chkW s r.x
theorem wtE_at {s : SV} : ∀ {rs : List RV} {i : Nat} {r : RV}, rs[i]? = some r → (rs.take i).all (fun r => decide (chkW s r.x = 0)) = true → chkW s r.x ≠ 0 → wtE s rs = chkW s r.x
 | [], _, _, h, _, _ => by simp at h
 | a :: rs, 0, r, h, _, hn => by
  simp at h; subst h
  unfold wtE; rw [if_neg hn]
 | a :: rs, i + 1, r, h, ha, hn => by
  simp only [List.take_succ_cons, List.all_cons, Bool.and_eq_true, decide_eq_true_eq] at ha
  unfold wtE; rw [if_pos ha.1]
  exact wtE_at (by simpa using h) ha.2 hn
theorem wtE_all {s : SV} : ∀ {rs : List RV}, rs.all (fun r => decide (chkW s r.x = 0)) = true → wtE s rs = 0
 | [], _ => rfl
 | a :: rs, h => by
  simp only [List.all_cons, Bool.and_eq_true, decide_eq_true_eq] at h
  unfold wtE; rw [if_pos h.1]
  exact wtE_all h.2
def pdsE (p : PV) : Int :=
 if spaceE p.s ≠ 0 then spaceE p.s else if 16384 < p.rl then 3 else if p.st < 0 ∨ 4096 < p.st ∨ p.sy < 0 ∨ 4096 < p.sy then 110 else if p.rs.all (ruleB p.st p.sy) then wtE p.s p.rs else 110
def confB (p : PV) (c : CV) : Bool := inQ c.p p.st && (decide (c.wl ≤ 4096) && c.ws.all (fun y => inQ y p.sy))
def stepE (p : PV) (c : CV) : Int := if pdsE p ≠ 0 then pdsE p else if confB p c then 0 else 120
end Go.Proofs.YtgjojhmninbkoaaDoor
namespace Go.Proofs.YtgjojhmninbkoaaDoor
open Go Go.RowKit
theorem checkAllW_oneY (ds da : Nat) (s : SV) (x : WV) (w : World) (hs : SIn w ds s) (hx : WIn w da x) (b : Nat) (hb0 : CellsAt w b 0 x.f.six) :
  Calls Tryd.prog 33 #[s.f.val, .slice (some ⟨b, 0, none⟩) 1 1] w (fun e w' => e = .returned (.int .i64 (chkW s x)) ∧ Below w.heap.size w w') := by
 refine enterF (args := [s.f.val, .slice (some ⟨b, 0, none⟩) 1 1]) Tryd.func33 rfl Tryd.ntmps33 rfl ?_
 have hS := St.start w
 refine seqF (regF ?_)
 refine op_box (cs := [_, _, _]) hS rfl rfl rfl ?_
 clear hS; intro B1 W1 hS
 refine op_assign rfl rfl ?_
 refine endF (XF.thenN ?_)
 refine seqF ?_
 refine seqF (regF ?_)
 refine op_loadA (vs := [_, _, _]) Tryd.isAgg25 Tryd.sizeOf25 rfl (CellsAt.own (j := 0) (m := 3) (hS.at_ 0 rfl) rfl) rfl ?_
 refine op_call (vs := [_]) hS goes_28 rfl (spaceA_is ds s _ _ (SIn.below hS.below hs) rfl) rfl ?_
 rintro e W2 ⟨rfl, hb⟩
 refine ⟨_, rfl, hb, fun hS' => ?_⟩
 clear hS; have hS := hS'; clear hS' hb
 refine op_assign rfl rfl ?_
 refine endF (XF.thenN ?_)
 refine seqF (regF ?_)
 refine op_move rfl rfl ?_
 refine op_neq rfl rfl rfl ?_
 refine endF (XF.thenN ?_)
 refine condF rfl (fun hc => ?_) (fun hc => ?_)
 ·have hc11 := of_decide_eq_true hc; clear hc
  refine seqF (regF ?_)
  refine op_move rfl rfl ?_
  refine op_assign rfl rfl ?_
  refine endF (XF.thenN ?_)
  refine retF ?_
  refine XF.thenR ?_
  refine XF.res (res1 Tryd.results33 rfl) ?_
  exact ⟨rint (by unfold chkW; rw [if_neg hc11]), hS.below⟩
 ·have hc11 := of_decide_eq_false hc; clear hc
  have hse : spaceE s = 0 := by omega
  refine skipF ?_
  refine XF.thenN ?_
  refine seqF ?_
  refine seqF (regF ?_)
  refine op_move rfl rfl ?_
  refine op_len Tryd.underlying38 rfl rfl ?_
  refine op_move rfl rfl ?_
  refine endF (XF.thenN ?_)
  refine blockF ?_
  refine loopF (fun q l W => ∃ k : Nat, k ≤ 1 ∧ q = 1 - k ∧ l = [(2, .pointer (some ⟨B1, 0, none⟩)), (13, .slice (some ⟨b, 0, none⟩) 1 1), (14, .int .i64 1), (15, .int .i64 (k : Int))] ∧ (1 ≤ k → okW s x = true) ∧ St w [(B1, [.int .i64 s.f.tag, .int .i64 s.f.dim, .slice s.f.a s.f.len s.f.cap], 25)] [] [] W) (1 - 0) ([(2, _), (13, _), (14, _), (15, _)]) ⟨rfl, rfl, rfl, rfl, trivial⟩ (⟨0, Nat.zero_le _, rfl, rfl, fun h => by omega, hS.clear⟩) ?_
  clear hS
  rintro q l W ⟨k, hk1, rfl, rfl, hok, hS⟩
  refine seqF (regF ?_)
  refine op_lss rfl rfl rfl ?_
  refine endF (XF.thenN ?_)
  refine seqF ?_
  refine condF rfl (fun hc => ?_) (fun hc => ?_)
  ·have hc16 := of_decide_eq_true hc; clear hc
   obtain rfl : k = 0 := by omega
   have k1 := CellsAt.agree hS.agree (Nat.zero_le _) hb0
   refine skipF ?_
   refine XF.thenN ?_
   refine seqF ?_
   refine blockF ?_
   refine seqF (regF ?_)
   refine op_indexA  Tryd.underlying38 Tryd.sizeOf40 rfl rfl rfl (by omega) rfl rfl ?_
   refine op_loadA (vs := [_, _, _, _, _, _]) Tryd.isAgg40 Tryd.sizeOf40 rfl (by assumption) rfl ?_
   refine op_alloc (cs := [_, _, _, _, _, _]) hS Tryd.zeroValue40 rfl rfl ?_
   clear hS; intro B3 W3 hS
   refine op_storeA (i := 0) (vs := [_, _, _, _, _, _]) (cs' := [_, _, _, _, _, _]) (O' := [_, _]) hS Tryd.sizeOf40 rfl rfl rfl rfl rfl rfl rfl ?_
   clear hS; intro W4 hS
   refine endF (XF.thenN ?_)
   refine seqF (regF ?_)
   refine op_loadA (vs := [_, _, _]) Tryd.isAgg25 Tryd.sizeOf25 rfl (CellsAt.own (j := 0) (m := 3) (hS.at_ 1 rfl) rfl) rfl ?_
   refine op_loadA (vs := [_, _, _, _, _, _]) Tryd.isAgg40 Tryd.sizeOf40 rfl (CellsAt.own (j := 0) (m := 6) (hS.at_ 0 rfl) rfl) rfl ?_
   refine op_call (vs := [_, _]) hS goes_44 rfl (isA_genY (SIn.below hS.below hs) hse (WIn.below hS.below hx)) rfl ?_
   rintro e W5 ⟨rfl, hb⟩
   refine ⟨_, rfl, hb, fun hS' => ?_⟩
   clear hS; have hS := hS'; clear hS' hb
   refine op_not rfl rfl ?_
   refine endF (XF.thenN ?_)
   refine condF rfl (fun hc => ?_) (fun hc => ?_)
   ·have hc22 := hc; clear hc
    refine seqF (regF ?_)
    refine op_assign rfl rfl ?_
    refine endF (XF.thenN ?_)
    refine retF ?_
    refine XF.blkR ?_
    refine XF.thenR ?_
    refine XF.thenR ?_
    refine XF.blkR ?_
    refine XF.thenR ?_
    refine XF.res (res1 Tryd.results33 rfl) ?_
    exact ⟨rint (by unfold chkW; rw [if_pos hse, if_neg (by simpa using hc22)]), hS.below⟩
   ·have hc22 := hc; clear hc
    refine skipF ?_
    refine XF.blkN ?_
    refine XF.thenN ?_
    refine regF ?_
    refine op_add rfl rfl (IntWalk.i64_in _ (by omega)) rfl ?_
    refine op_move rfl rfl ?_
    refine endF ?_
    exact XF.round (1 - 1) [(2, _), (13, _), (14, _), (15, _)] (by omega) ⟨rfl, rfl, rfl, rfl, trivial⟩ ⟨1, by omega, rfl, rfl, fun _ => by simpa using hc22, hS.tail.clear⟩
  ·have hc16 := of_decide_eq_false hc; clear hc
   refine exitF ?_
   refine XF.thenX ?_
   refine XF.thenX ?_
   refine XF.blkX ?_
   refine XF.thenN ?_
   refine seqF (regF ?_)
   refine op_assign rfl rfl ?_
   refine endF (XF.thenN ?_)
   refine retF ?_
   refine XF.res (res1 Tryd.results33 rfl) ?_
   exact ⟨rint (by unfold chkW; rw [if_pos hse, if_pos (hok (by omega))]), hS.below⟩
theorem checkA_genY (ds da : Nat) (s : SV) (x : WV) (w : World) (hs : SIn w ds s) (hx : WIn w da x) :
  Calls Tryd.prog 30 #[s.f.val, x.f.val] w (fun e w' => e = .returned (.int .i64 (chkW s x)) ∧ Below w.heap.size w w') := by
 refine enterF (args := [s.f.val, x.f.val]) Tryd.func30 rfl Tryd.ntmps30 rfl ?_
 have hS := St.start w
 refine seqF (regF ?_)
 refine op_box (cs := [_, _, _]) hS rfl rfl rfl ?_
 clear hS; intro B1 W1 hS
 refine op_box (cs := [_, _, _, _, _, _]) hS rfl rfl rfl ?_
 clear hS; intro B2 W2 hS
 refine op_assign rfl rfl ?_
 refine endF (XF.thenN ?_)
 refine seqF (regF ?_)
 refine op_loadA (vs := [_, _, _]) Tryd.isAgg25 Tryd.sizeOf25 rfl (CellsAt.own (j := 0) (m := 3) (hS.at_ 1 rfl) rfl) rfl ?_
 refine op_loadA (vs := [_, _, _, _, _, _]) Tryd.isAgg40 Tryd.sizeOf40 rfl (CellsAt.own (j := 0) (m := 6) (hS.at_ 0 rfl) rfl) rfl ?_
 refine op_buildSlice (us := [(0, .agg (List.toArray [_, _, _, _, _, _]))]) hS Tryd.underlying38 Tryd.sizeOf40 Tryd.zeroValue40 rfl rfl rfl (bs_38_1 _ _ _ _ _ _) rfl ?_
 clear hS; intro B3 W3 hS
 refine op_call (vs := [_, _]) hS goes_33 rfl (checkAllW_oneY ds da s x _ (SIn.below hS.below hs) (WIn.below hS.below hx) _ (CellsAt.own (j := 0) (m := 6) (hS.at_ 0 rfl) rfl)) rfl ?_
 rintro e W4 ⟨rfl, hb⟩
 refine ⟨_, rfl, hb, fun hS' => ?_⟩
 clear hS; have hS := hS'; clear hS' hb
 refine op_assign rfl rfl ?_
 refine endF (XF.thenN ?_)
 refine retF ?_
 refine XF.res (res1 Tryd.results30 rfl) ?_
 exact ⟨rfl, hS.below⟩
theorem isState_is (P0 : PV) (n : Int) (w : World) :
  Calls Tryd.prog 39 #[P0.val, .int .i64 n] w (fun e w' => e = .returned (.bool (inQ n P0.st)) ∧ Below w.heap.size w w') := by
 refine enterF (args := [P0.val, .int .i64 n]) Tryd.func39 rfl Tryd.ntmps39 rfl ?_
 have hS := St.start w
 refine seqF (regF ?_)
 refine op_box (cs := [_, _, _, _, _, _]) hS rfl rfl rfl ?_
 clear hS; intro B1 W1 hS
 refine op_assign rfl rfl ?_
 refine endF (XF.thenN ?_)
 refine seqF (regF ?_)
 refine op_move rfl rfl ?_
 refine op_geq rfl rfl rfl ?_
 refine op_move rfl rfl ?_
 refine op_cases (d := 7) rfl (fun hc => ?_) (fun hc => ?_)
 ·have hg7 := of_decide_eq_true hc; clear hc
  refine op_wantedF (d := 7) rfl rfl ?_
  refine op_move rfl rfl ?_
  refine op_wantedF (d := 7) rfl rfl ?_
  refine op_field (o' := 3) fa_28_1 rfl rfl rfl ?_
  refine op_wantedF (d := 7) rfl rfl ?_
  refine op_load Tryd.isAgg3 rfl (cell_own (hS.at_ 0 rfl) rfl) rfl ?_
  refine op_wantedF (d := 7) rfl rfl ?_
  refine op_lss rfl rfl rfl ?_
  refine op_pickT rfl rfl rfl ?_
  refine op_assign rfl rfl ?_
  refine endF (XF.thenN ?_)
  refine retF ?_
  refine XF.res (res1 Tryd.results39 rfl) ?_
  exact ⟨rbool (by simp [inQ, show 0 ≤ n from hg7]), hS.below⟩
 ·have hg7 := of_decide_eq_false hc; clear hc
  refine op_notF (d := 7) rfl rfl rfl rfl ?_
  refine op_notF (d := 7) rfl rfl rfl rfl ?_
  refine op_notF (d := 7) rfl rfl rfl rfl ?_
  refine op_notF (d := 7) rfl rfl rfl rfl ?_
  refine op_pickF rfl rfl rfl ?_
  refine op_assign rfl rfl ?_
  refine endF (XF.thenN ?_)
  refine retF ?_
  refine XF.res (res1 Tryd.results39 rfl) ?_
  exact ⟨rbool (by simp [inQ]; omega), hS.below⟩
theorem isSymbol_is (P0 : PV) (n : Int) (w : World) :
  Calls Tryd.prog 40 #[P0.val, .int .i64 n] w (fun e w' => e = .returned (.bool (inQ n P0.sy)) ∧ Below w.heap.size w w') := by
 refine enterF (args := [P0.val, .int .i64 n]) Tryd.func40 rfl Tryd.ntmps40 rfl ?_
 have hS := St.start w
 refine seqF (regF ?_)
 refine op_box (cs := [_, _, _, _, _, _]) hS rfl rfl rfl ?_
 clear hS; intro B1 W1 hS
 refine op_assign rfl rfl ?_
 refine endF (XF.thenN ?_)
 refine seqF (regF ?_)
 refine op_move rfl rfl ?_
 refine op_geq rfl rfl rfl ?_
 refine op_move rfl rfl ?_
 refine op_cases (d := 7) rfl (fun hc => ?_) (fun hc => ?_)
 ·have hg7 := of_decide_eq_true hc; clear hc
  refine op_wantedF (d := 7) rfl rfl ?_
  refine op_move rfl rfl ?_
  refine op_wantedF (d := 7) rfl rfl ?_
  refine op_field (o' := 4) fa_28_2 rfl rfl rfl ?_
  refine op_wantedF (d := 7) rfl rfl ?_
  refine op_load Tryd.isAgg3 rfl (cell_own (hS.at_ 0 rfl) rfl) rfl ?_
  refine op_wantedF (d := 7) rfl rfl ?_
  refine op_lss rfl rfl rfl ?_
  refine op_pickT rfl rfl rfl ?_
  refine op_assign rfl rfl ?_
  refine endF (XF.thenN ?_)
  refine retF ?_
  refine XF.res (res1 Tryd.results40 rfl) ?_
  exact ⟨rbool (by simp [inQ, show 0 ≤ n from hg7]), hS.below⟩
 ·have hg7 := of_decide_eq_false hc; clear hc
  refine op_notF (d := 7) rfl rfl rfl rfl ?_
  refine op_notF (d := 7) rfl rfl rfl rfl ?_
  refine op_notF (d := 7) rfl rfl rfl rfl ?_
  refine op_notF (d := 7) rfl rfl rfl rfl ?_
  refine op_pickF rfl rfl rfl ?_
  refine op_assign rfl rfl ?_
  refine endF (XF.thenN ?_)
  refine retF ?_
  refine XF.res (res1 Tryd.results40 rfl) ?_
  exact ⟨rbool (by simp [inQ]; omega), hS.below⟩
theorem ruleA_c (P0 : PV) (p g q : Int) (wa : Option Addr) (wl wc : Nat) (ws : List Int) (x : WV) (w : World) (hrow : Row w wa ws) (hlen : ws.length = wl) :
  Calls Tryd.prog 29 #[P0.val, .agg #[.int .i64 p, .int .i64 g, .int .i64 q, .slice wa wl wc, .bool x.f.z, .int .i64 x.f.c, .int .u64 (x.f.g : Int), .slice x.f.ra x.f.rl x.f.rc, .slice x.f.ca x.f.cl x.f.cc, .slice x.f.pa x.f.pl x.f.pc]] w (fun e w' => e = .returned (.bool (ruleB P0.st P0.sy ⟨p, g, q, wa, wl, wc, ws, x⟩)) ∧ Below w.heap.size w w') := by
 refine enterF (args := [P0.val, .agg #[.int .i64 p, .int .i64 g, .int .i64 q, .slice wa wl wc, .bool x.f.z, .int .i64 x.f.c, .int .u64 (x.f.g : Int), .slice x.f.ra x.f.rl x.f.rc, .slice x.f.ca x.f.cl x.f.cc, .slice x.f.pa x.f.pl x.f.pc]]) Tryd.func29 rfl Tryd.ntmps29 rfl ?_
 have hS := St.start w
 refine seqF (regF ?_)
 refine op_box (cs := [_, _, _, _, _, _]) hS rfl rfl rfl ?_
 clear hS; intro B1 W1 hS
 refine op_box (cs := [_, _, _, _, _, _, _, _, _, _]) hS rfl rfl rfl ?_
 clear hS; intro B2 W2 hS
 refine op_assign rfl rfl ?_
 refine endF (XF.thenN ?_)
 refine seqF ?_
 refine seqF (regF ?_)
 refine op_loadA (vs := [_, _, _, _, _, _]) Tryd.isAgg28 Tryd.sizeOf28 rfl (CellsAt.own (j := 0) (m := 6) (hS.at_ 1 rfl) rfl) rfl ?_
 refine op_field (o' := 0) fa_60_0 rfl rfl rfl ?_
 refine op_load Tryd.isAgg3 rfl (cell_own (hS.at_ 0 rfl) rfl) rfl ?_
 refine op_call (vs := [_, _]) hS goes_39 rfl (isState_is P0 p _) rfl ?_
 rintro e W3 ⟨rfl, hb⟩
 refine ⟨_, rfl, hb, fun hS' => ?_⟩
 clear hS; have hS := hS'; clear hS' hb
 refine op_not rfl rfl ?_
 refine op_move rfl rfl ?_
 refine op_cases (d := 12) rfl (fun hc => ?_) (fun hc => ?_)
 ·have hg12 := hc; clear hc
  have e1 : inQ p P0.st = false := by simpa using hg12
  refine op_notF (d := 12) rfl rfl rfl rfl ?_
  refine op_notF (d := 12) rfl rfl rfl rfl ?_
  refine op_notF (d := 12) rfl rfl rfl rfl ?_
  refine op_notF (d := 12) rfl rfl rfl rfl ?_
  refine op_notF (d := 12) rfl rfl rfl rfl ?_
  refine op_pickT rfl rfl rfl ?_
  refine op_move rfl rfl ?_
  refine op_notF (d := 19) rfl rfl rfl rfl ?_
  refine op_notF (d := 19) rfl rfl rfl rfl ?_
  refine op_notF (d := 19) rfl rfl rfl rfl ?_
  refine op_notF (d := 19) rfl rfl rfl rfl ?_
  refine op_notF (d := 19) rfl rfl rfl rfl ?_
  refine op_pickT rfl rfl rfl ?_
  refine op_move rfl rfl ?_
  refine op_notF (d := 26) rfl rfl rfl rfl ?_
  refine op_notF (d := 26) rfl rfl rfl rfl ?_
  refine op_notF (d := 26) rfl rfl rfl rfl ?_
  refine op_notF (d := 26) rfl rfl rfl rfl ?_
  refine op_pickT rfl rfl rfl ?_
  refine endF (XF.thenN ?_)
  refine condT rfl ?_
  refine seqF (regF ?_)
  refine op_assign rfl rfl ?_
  refine endF (XF.thenN ?_)
  refine retF ?_
  refine XF.thenR ?_
  refine XF.res (res1 Tryd.results29 rfl) ?_
  exact ⟨rbool (by simp [ruleB, e1]), hS.below⟩
 ·have hg12 := hc; clear hc
  have e1 : inQ p P0.st = true := by simpa using hg12
  refine op_wantedF (d := 12) rfl rfl ?_
  refine op_loadA (vs := [_, _, _, _, _, _]) Tryd.isAgg28 Tryd.sizeOf28 rfl (CellsAt.own (j := 0) (m := 6) (hS.at_ 1 rfl) rfl) rfl ?_
  refine op_wantedF (d := 12) rfl rfl ?_
  refine op_field (o' := 2) fa_60_2 rfl rfl rfl ?_
  refine op_wantedF (d := 12) rfl rfl ?_
  refine op_load Tryd.isAgg3 rfl (cell_own (hS.at_ 0 rfl) rfl) rfl ?_
  refine op_wantedF (d := 12) rfl rfl ?_
  refine op_call (vs := [_, _]) hS goes_39 rfl (isState_is P0 q _) rfl ?_
  rintro e W4 ⟨rfl, hb⟩
  refine ⟨_, rfl, hb, fun hS' => ?_⟩
  clear hS; have hS := hS'; clear hS' hb
  refine op_wantedF (d := 12) rfl rfl ?_
  refine op_not rfl rfl ?_
  refine op_pickF rfl rfl rfl ?_
  refine op_move rfl rfl ?_
  refine op_cases (d := 19) rfl (fun hc => ?_) (fun hc => ?_)
  ·have hg19 := hc; clear hc
   have e2 : inQ q P0.st = false := by simpa using hg19
   refine op_notF (d := 19) rfl rfl rfl rfl ?_
   refine op_notF (d := 19) rfl rfl rfl rfl ?_
   refine op_notF (d := 19) rfl rfl rfl rfl ?_
   refine op_notF (d := 19) rfl rfl rfl rfl ?_
   refine op_notF (d := 19) rfl rfl rfl rfl ?_
   refine op_pickT rfl rfl rfl ?_
   refine op_move rfl rfl ?_
   refine op_notF (d := 26) rfl rfl rfl rfl ?_
   refine op_notF (d := 26) rfl rfl rfl rfl ?_
   refine op_notF (d := 26) rfl rfl rfl rfl ?_
   refine op_notF (d := 26) rfl rfl rfl rfl ?_
   refine op_pickT rfl rfl rfl ?_
   refine endF (XF.thenN ?_)
   refine condT rfl ?_
   refine seqF (regF ?_)
   refine op_assign rfl rfl ?_
   refine endF (XF.thenN ?_)
   refine retF ?_
   refine XF.thenR ?_
   refine XF.res (res1 Tryd.results29 rfl) ?_
   exact ⟨rbool (by simp [ruleB, e1, e2]), hS.below⟩
  ·have hg19 := hc; clear hc
   have e2 : inQ q P0.st = true := by simpa using hg19
   refine op_wantedF (d := 19) rfl rfl ?_
   refine op_loadA (vs := [_, _, _, _, _, _]) Tryd.isAgg28 Tryd.sizeOf28 rfl (CellsAt.own (j := 0) (m := 6) (hS.at_ 1 rfl) rfl) rfl ?_
   refine op_wantedF (d := 19) rfl rfl ?_
   refine op_field (o' := 1) fa_60_1 rfl rfl rfl ?_
   refine op_wantedF (d := 19) rfl rfl ?_
   refine op_load Tryd.isAgg3 rfl (cell_own (hS.at_ 0 rfl) rfl) rfl ?_
   refine op_wantedF (d := 19) rfl rfl ?_
   refine op_call (vs := [_, _]) hS goes_40 rfl (isSymbol_is P0 g _) rfl ?_
   rintro e W5 ⟨rfl, hb⟩
   refine ⟨_, rfl, hb, fun hS' => ?_⟩
   clear hS; have hS := hS'; clear hS' hb
   refine op_wantedF (d := 19) rfl rfl ?_
   refine op_not rfl rfl ?_
   refine op_pickF rfl rfl rfl ?_
   refine op_move rfl rfl ?_
   refine op_cases (d := 26) rfl (fun hc => ?_) (fun hc => ?_)
   ·have hg26 := hc; clear hc
    have e3 : inQ g P0.sy = false := by simpa using hg26
    refine op_notF (d := 26) rfl rfl rfl rfl ?_
    refine op_notF (d := 26) rfl rfl rfl rfl ?_
    refine op_notF (d := 26) rfl rfl rfl rfl ?_
    refine op_notF (d := 26) rfl rfl rfl rfl ?_
    refine op_pickT rfl rfl rfl ?_
    refine endF (XF.thenN ?_)
    refine condT rfl ?_
    refine seqF (regF ?_)
    refine op_assign rfl rfl ?_
    refine endF (XF.thenN ?_)
    refine retF ?_
    refine XF.thenR ?_
    refine XF.res (res1 Tryd.results29 rfl) ?_
    exact ⟨rbool (by simp [ruleB, e1, e2, e3]), hS.below⟩
   ·have hg26 := hc; clear hc
    have e3 : inQ g P0.sy = true := by simpa using hg26
    refine op_wantedF (d := 26) rfl rfl ?_
    refine op_field (o' := 3) fa_60_3 rfl rfl rfl ?_
    refine op_wantedF (d := 26) rfl rfl ?_
    refine op_load Tryd.isAgg29 rfl (cell_own (hS.at_ 0 rfl) rfl) rfl ?_
    refine op_wantedF (d := 26) rfl rfl ?_
    refine op_len Tryd.underlying29 rfl rfl ?_
    refine op_wantedF (d := 26) rfl rfl ?_
    refine op_gtr rfl rfl rfl ?_
    refine op_pickF rfl rfl rfl ?_
    refine endF (XF.thenN ?_)
    refine condF rfl (fun hc => ?_) (fun hc => ?_)
    ·have hc31 := of_decide_eq_true hc; clear hc
     have e4 : decide (wl ≤ 4096) = false := by simp; omega
     refine seqF (regF ?_)
     refine op_assign rfl rfl ?_
     refine endF (XF.thenN ?_)
     refine retF ?_
     refine XF.thenR ?_
     refine XF.res (res1 Tryd.results29 rfl) ?_
     exact ⟨rbool (by simp [ruleB, e1, e2, e3, e4]), hS.below⟩
    ·have hc31 := of_decide_eq_false hc; clear hc
     have e4 : decide (wl ≤ 4096) = true := by simp; omega
     refine skipF ?_
     refine XF.thenN ?_
     refine seqF ?_
     refine seqF (regF ?_)
     refine op_field (o' := 3) fa_60_3 rfl rfl rfl ?_
     refine op_load Tryd.isAgg29 rfl (cell_own (hS.at_ 0 rfl) rfl) rfl ?_
     refine op_len Tryd.underlying29 rfl rfl ?_
     refine op_move rfl rfl ?_
     refine endF (XF.thenN ?_)
     refine blockF ?_
     refine loopF (fun m l W => ∃ i : Nat, i ≤ wl ∧ m = wl - i ∧ l = [(2, .pointer (some ⟨B1, 0, none⟩)), (33, .slice wa wl wc), (34, .int .i64 (wl : Int)), (35, .int .i64 (i : Int))] ∧ (ws.take i).all (fun y => inQ y P0.sy) = true ∧ St w [(B2, [.int .i64 p, .int .i64 g, .int .i64 q, .slice wa wl wc, .bool x.f.z, .int .i64 x.f.c, .int .u64 (x.f.g : Int), .slice x.f.ra x.f.rl x.f.rc, .slice x.f.ca x.f.cl x.f.cc, .slice x.f.pa x.f.pl x.f.pc], 60), (B1, P0.six, 28)] [] [] W) (wl - 0) ([(2, _), (33, _), (34, _), (35, _)]) ⟨rfl, rfl, rfl, rfl, trivial⟩ (⟨0, Nat.zero_le _, rfl, rfl, rfl, hS.clear⟩) ?_
     clear hS
     rintro m l W ⟨i, hi, rfl, rfl, hall, hS⟩
     refine seqF (regF ?_)
     refine op_lss rfl rfl rfl ?_
     refine endF (XF.thenN ?_)
     refine seqF ?_
     refine condF rfl (fun hc => ?_) (fun hc => ?_)
     ·have hc36 := of_decide_eq_true hc; clear hc
      have hk : i < wl := by omega
      obtain ⟨b, off, y, rfl, hy, hyc⟩ := hrow.at1 (show i < ws.length by omega)
      have k1 := hS.old hyc
      refine skipF ?_
      refine XF.thenN ?_
      refine seqF ?_
      refine blockF ?_
      refine seqF (regF ?_)
      refine op_indexA  Tryd.underlying29 Tryd.sizeOf3 rfl rfl rfl (by omega) rfl rfl ?_
      refine op_load Tryd.isAgg3 rfl (by first | assumption | exact hS.old (by assumption)) rfl ?_
      refine op_assign rfl rfl ?_
      refine endF (XF.thenN ?_)
      refine seqF (regF ?_)
      refine op_loadA (vs := [_, _, _, _, _, _]) Tryd.isAgg28 Tryd.sizeOf28 rfl (CellsAt.own (j := 0) (m := 6) (hS.at_ 1 rfl) rfl) rfl ?_
      refine op_move rfl rfl ?_
      refine op_call (vs := [_, _]) hS goes_40 rfl (isSymbol_is P0 y _) rfl ?_
      rintro e W6 ⟨rfl, hb⟩
      refine ⟨_, rfl, hb, fun hS' => ?_⟩
      clear hS; have hS := hS'; clear hS' hb
      refine op_not rfl rfl ?_
      refine endF (XF.thenN ?_)
      refine condF rfl (fun hc => ?_) (fun hc => ?_)
      ·have hc42 := hc; clear hc
       refine seqF (regF ?_)
       refine op_assign rfl rfl ?_
       refine endF (XF.thenN ?_)
       refine retF ?_
       refine XF.blkR ?_
       refine XF.thenR ?_
       refine XF.thenR ?_
       refine XF.blkR ?_
       refine XF.thenR ?_
       refine XF.res (res1 Tryd.results29 rfl) ?_
       exact ⟨rbool (by simp only [ruleB]; rw [all_false_at hy (by simpa using hc42)]; simp), hS.below⟩
      ·have hc42 := hc; clear hc
       refine skipF ?_
       refine XF.blkN ?_
       refine XF.thenN ?_
       refine regF ?_
       refine op_add rfl rfl (IntWalk.i64_in _ (by omega)) rfl ?_
       refine op_move rfl rfl ?_
       refine endF ?_
       exact XF.round (wl - (i + 1)) [(2, _), (33, _), (34, _), (35, _)] (by omega) ⟨rfl, rfl, rfl, rfl, trivial⟩ ⟨i + 1, by omega, rfl, rfl, all_take_at hy hall (by simpa using hc42), hS.clear⟩
     ·have hc36 := of_decide_eq_false hc; clear hc
      refine exitF ?_
      refine XF.thenX ?_
      refine XF.thenX ?_
      refine XF.blkX ?_
      refine XF.thenN ?_
      refine seqF (regF ?_)
      refine op_assign rfl rfl ?_
      refine endF (XF.thenN ?_)
      refine retF ?_
      refine XF.res (res1 Tryd.results29 rfl) ?_
      rw [List.take_of_length_le (by omega)] at hall
      exact ⟨rbool (by simp [ruleB, e1, e2, e3, e4, hall]), hS.below⟩
theorem ruleA_is {w : World} {d : Nat} (P0 : PV) {r : RV} (h : RIn w d r) : Calls Tryd.prog 29 #[P0.val, r.val] w (fun e w' => e = .returned (.bool (ruleB P0.st P0.sy r)) ∧ Below w.heap.size w w') := ruleA_c P0 _ _ _ _ _ _ _ _ w h.row h.len
end Go.Proofs.YtgjojhmninbkoaaDoor
namespace Go.Proofs.YtgjojhmninbkoaaDoor
open Go Go.RowKit
theorem pdsA_c (ds d : Nat) (s : SV) (st sy : Int) (ra : Option Addr) (rl rc : Nat) (rs : List RV) (w : World) (hs : SIn w ds s) (hrow : RRow w ra rs) (hlen : rs.length = rl) (hin : ∀ r ∈ rs, RIn w d r) :
  Calls Tryd.prog 21 #[.agg #[.int .i64 s.f.tag, .int .i64 s.f.dim, .slice s.f.a s.f.len s.f.cap, .int .i64 st, .int .i64 sy, .slice ra rl rc]] w (fun e w' => e = .returned (.int .i64 (pdsE ⟨s, st, sy, ra, rl, rc, rs⟩)) ∧ Below w.heap.size w w') := by
 refine enterF (args := [.agg #[.int .i64 s.f.tag, .int .i64 s.f.dim, .slice s.f.a s.f.len s.f.cap, .int .i64 st, .int .i64 sy, .slice ra rl rc]]) Tryd.func21 rfl Tryd.ntmps21 rfl ?_
 have hS := St.start w
 refine seqF (regF ?_)
 refine op_box (cs := [_, _, _, _, _, _]) hS rfl rfl rfl ?_
 clear hS; intro B1 W1 hS
 refine op_assign rfl rfl ?_
 refine endF (XF.thenN ?_)
 refine seqF ?_
 refine seqF (regF ?_)
 refine op_field (o' := 0) fa_28_0 rfl rfl rfl ?_
 refine op_loadA (vs := [_, _, _]) Tryd.isAgg25 Tryd.sizeOf25 rfl (CellsAt.own (j := 0) (m := 3) (hS.at_ 0 rfl) rfl) rfl ?_
 refine op_call (vs := [_]) hS goes_28 rfl (spaceA_is ds s _ _ (SIn.below hS.below hs) rfl) rfl ?_
 rintro e W2 ⟨rfl, hb⟩
 refine ⟨_, rfl, hb, fun hS' => ?_⟩
 clear hS; have hS := hS'; clear hS' hb
 refine op_assign rfl rfl ?_
 refine endF (XF.thenN ?_)
 refine seqF (regF ?_)
 refine op_move rfl rfl ?_
 refine op_neq rfl rfl rfl ?_
 refine endF (XF.thenN ?_)
 refine condF rfl (fun hc => ?_) (fun hc => ?_)
 ·have hc13 := of_decide_eq_true hc; clear hc
  refine seqF (regF ?_)
  refine op_move rfl rfl ?_
  refine op_assign rfl rfl ?_
  refine endF (XF.thenN ?_)
  refine retF ?_
  refine XF.thenR ?_
  refine XF.res (res1 Tryd.results21 rfl) ?_
  exact ⟨rint (by simp only [pdsE]; rw [if_pos hc13]), hS.below⟩
 ·have hc13 := of_decide_eq_false hc; clear hc
  have h0 : ¬ spaceE s ≠ 0 := hc13
  refine skipF ?_
  refine XF.thenN ?_
  refine seqF ?_
  refine seqF (regF ?_)
  refine op_field (o' := 5) fa_28_3 rfl rfl rfl ?_
  refine op_load Tryd.isAgg26 rfl (cell_own (hS.at_ 0 rfl) rfl) rfl ?_
  refine op_len Tryd.underlying26 rfl rfl ?_
  refine op_gtr rfl rfl rfl ?_
  refine endF (XF.thenN ?_)
  refine condF rfl (fun hc => ?_) (fun hc => ?_)
  ·have hc18 := of_decide_eq_true hc; clear hc
   refine seqF (regF ?_)
   refine op_assign rfl rfl ?_
   refine endF (XF.thenN ?_)
   refine retF ?_
   refine XF.thenR ?_
   refine XF.res (res1 Tryd.results21 rfl) ?_
   exact ⟨rint (by simp only [pdsE]; rw [if_neg h0, if_pos (by omega)]), hS.below⟩
  ·have hc18 := of_decide_eq_false hc; clear hc
   have h1 : ¬ 16384 < rl := by omega
   refine skipF ?_
   refine XF.thenN ?_
   refine seqF ?_
   refine seqF (regF ?_)
   refine op_field (o' := 3) fa_28_1 rfl rfl rfl ?_
   refine op_load Tryd.isAgg3 rfl (cell_own (hS.at_ 0 rfl) rfl) rfl ?_
   refine op_lss rfl rfl rfl ?_
   refine op_move rfl rfl ?_
   refine op_cases (d := 22) rfl (fun hc => ?_) (fun hc => ?_)
   ·have hg22 := of_decide_eq_true hc; clear hc
    refine op_notF (d := 22) rfl rfl rfl rfl ?_
    refine op_notF (d := 22) rfl rfl rfl rfl ?_
    refine op_notF (d := 22) rfl rfl rfl rfl ?_
    refine op_pickT rfl rfl rfl ?_
    refine op_move rfl rfl ?_
    refine op_notF (d := 27) rfl rfl rfl rfl ?_
    refine op_notF (d := 27) rfl rfl rfl rfl ?_
    refine op_notF (d := 27) rfl rfl rfl rfl ?_
    refine op_pickT rfl rfl rfl ?_
    refine op_move rfl rfl ?_
    refine op_notF (d := 32) rfl rfl rfl rfl ?_
    refine op_notF (d := 32) rfl rfl rfl rfl ?_
    refine op_notF (d := 32) rfl rfl rfl rfl ?_
    refine op_pickT rfl rfl rfl ?_
    refine endF (XF.thenN ?_)
    refine condT rfl ?_
    refine seqF (regF ?_)
    refine op_assign rfl rfl ?_
    refine endF (XF.thenN ?_)
    refine retF ?_
    refine XF.thenR ?_
    refine XF.res (res1 Tryd.results21 rfl) ?_
    exact ⟨rint (by simp only [pdsE]; rw [if_neg h0, if_neg h1, if_pos (by omega)]), hS.below⟩
   ·have hg22 := of_decide_eq_false hc; clear hc
    refine op_wantedF (d := 22) rfl rfl ?_
    refine op_field (o' := 3) fa_28_1 rfl rfl rfl ?_
    refine op_wantedF (d := 22) rfl rfl ?_
    refine op_load Tryd.isAgg3 rfl (cell_own (hS.at_ 0 rfl) rfl) rfl ?_
    refine op_wantedF (d := 22) rfl rfl ?_
    refine op_gtr rfl rfl rfl ?_
    refine op_pickF rfl rfl rfl ?_
    refine op_move rfl rfl ?_
    refine op_cases (d := 27) rfl (fun hc => ?_) (fun hc => ?_)
    ·have hg27 := of_decide_eq_true hc; clear hc
     refine op_notF (d := 27) rfl rfl rfl rfl ?_
     refine op_notF (d := 27) rfl rfl rfl rfl ?_
     refine op_notF (d := 27) rfl rfl rfl rfl ?_
     refine op_pickT rfl rfl rfl ?_
     refine op_move rfl rfl ?_
     refine op_notF (d := 32) rfl rfl rfl rfl ?_
     refine op_notF (d := 32) rfl rfl rfl rfl ?_
     refine op_notF (d := 32) rfl rfl rfl rfl ?_
     refine op_pickT rfl rfl rfl ?_
     refine endF (XF.thenN ?_)
     refine condT rfl ?_
     refine seqF (regF ?_)
     refine op_assign rfl rfl ?_
     refine endF (XF.thenN ?_)
     refine retF ?_
     refine XF.thenR ?_
     refine XF.res (res1 Tryd.results21 rfl) ?_
     exact ⟨rint (by simp only [pdsE]; rw [if_neg h0, if_neg h1, if_pos (by omega)]), hS.below⟩
    ·have hg27 := of_decide_eq_false hc; clear hc
     refine op_wantedF (d := 27) rfl rfl ?_
     refine op_field (o' := 4) fa_28_2 rfl rfl rfl ?_
     refine op_wantedF (d := 27) rfl rfl ?_
     refine op_load Tryd.isAgg3 rfl (cell_own (hS.at_ 0 rfl) rfl) rfl ?_
     refine op_wantedF (d := 27) rfl rfl ?_
     refine op_lss rfl rfl rfl ?_
     refine op_pickF rfl rfl rfl ?_
     refine op_move rfl rfl ?_
     refine op_cases (d := 32) rfl (fun hc => ?_) (fun hc => ?_)
     ·have hg32 := of_decide_eq_true hc; clear hc
      refine op_notF (d := 32) rfl rfl rfl rfl ?_
      refine op_notF (d := 32) rfl rfl rfl rfl ?_
      refine op_notF (d := 32) rfl rfl rfl rfl ?_
      refine op_pickT rfl rfl rfl ?_
      refine endF (XF.thenN ?_)
      refine condT rfl ?_
      refine seqF (regF ?_)
      refine op_assign rfl rfl ?_
      refine endF (XF.thenN ?_)
      refine retF ?_
      refine XF.thenR ?_
      refine XF.res (res1 Tryd.results21 rfl) ?_
      exact ⟨rint (by simp only [pdsE]; rw [if_neg h0, if_neg h1, if_pos (by omega)]), hS.below⟩
     ·have hg32 := of_decide_eq_false hc; clear hc
      refine op_wantedF (d := 32) rfl rfl ?_
      refine op_field (o' := 4) fa_28_2 rfl rfl rfl ?_
      refine op_wantedF (d := 32) rfl rfl ?_
      refine op_load Tryd.isAgg3 rfl (cell_own (hS.at_ 0 rfl) rfl) rfl ?_
      refine op_wantedF (d := 32) rfl rfl ?_
      refine op_gtr rfl rfl rfl ?_
      refine op_pickF rfl rfl rfl ?_
      refine endF (XF.thenN ?_)
      refine condF rfl (fun hc => ?_) (fun hc => ?_)
      ·have hc36 := of_decide_eq_true hc; clear hc
       refine seqF (regF ?_)
       refine op_assign rfl rfl ?_
       refine endF (XF.thenN ?_)
       refine retF ?_
       refine XF.thenR ?_
       refine XF.res (res1 Tryd.results21 rfl) ?_
       exact ⟨rint (by simp only [pdsE]; rw [if_neg h0, if_neg h1, if_pos (by omega)]), hS.below⟩
      ·have hc36 := of_decide_eq_false hc; clear hc
       have h2 : ¬ (st < 0 ∨ 4096 < st ∨ sy < 0 ∨ 4096 < sy) := by omega
       refine skipF ?_
       refine XF.thenN ?_
       refine seqF ?_
       refine seqF (regF ?_)
       refine op_field (o' := 5) fa_28_3 rfl rfl rfl ?_
       refine op_load Tryd.isAgg26 rfl (cell_own (hS.at_ 0 rfl) rfl) rfl ?_
       refine op_len Tryd.underlying26 rfl rfl ?_
       refine op_move rfl rfl ?_
       refine endF (XF.thenN ?_)
       refine blockF ?_
       refine loopF (fun m l W => ∃ i : Nat, i ≤ rl ∧ m = rl - i ∧ l = [(1, .pointer (some ⟨B1, 0, none⟩)), (38, .slice ra rl rc), (39, .int .i64 (rl : Int)), (40, .int .i64 (i : Int))] ∧ (rs.take i).all (ruleB st sy) = true ∧ St w [(B1, [.int .i64 s.f.tag, .int .i64 s.f.dim, .slice s.f.a s.f.len s.f.cap, .int .i64 st, .int .i64 sy, .slice ra rl rc], 28)] [] [] W) (rl - 0) ([(1, _), (38, _), (39, _), (40, _)]) ⟨rfl, rfl, rfl, rfl, trivial⟩ (⟨0, Nat.zero_le _, rfl, rfl, rfl, hS.clear⟩) ?_
       clear hS
       rintro m l W ⟨i, hi, rfl, rfl, hall, hS⟩
       refine seqF (regF ?_)
       refine op_lss rfl rfl rfl ?_
       refine endF (XF.thenN ?_)
       refine seqF ?_
       refine condF rfl (fun hc => ?_) (fun hc => ?_)
       ·have hc41 := of_decide_eq_true hc; clear hc
        have hk : i < rl := by omega
        obtain ⟨r, hr⟩ : ∃ r, rs[i]? = some r := ⟨rs[i]'(by omega), by simp [show i < rs.length by omega]⟩
        obtain ⟨b, off, rfl, hcs⟩ := hrow.at_ hr
        have k1 := CellsAt.agree hS.agree (Nat.zero_le _) hcs
        have k2 := k1.2.2.2.2
        have hri := hin r (List.mem_of_getElem? hr)
        refine skipF ?_
        refine XF.thenN ?_
        refine seqF ?_
        refine blockF ?_
        refine seqF (regF ?_)
        refine op_indexA  Tryd.underlying26 Tryd.sizeOf60 rfl rfl rfl (by omega) rfl rfl ?_
        refine op_loadA (vs := [_, _, _, _, _, _, _, _, _, _]) Tryd.isAgg60 Tryd.sizeOf60 rfl (by assumption) rfl ?_
        refine op_alloc (cs := [_, _, _, _, _, _, _, _, _, _]) hS Tryd.zeroValue60 rfl rfl ?_
        clear hS; intro B3 W3 hS
        refine op_storeA (i := 0) (vs := [_, _, _, _, _, _, _, _, _, _]) (cs' := [_, _, _, _, _, _, _, _, _, _]) (O' := [_, _]) hS Tryd.sizeOf60 rfl rfl rfl rfl rfl rfl rfl ?_
        clear hS; intro W4 hS
        refine endF (XF.thenN ?_)
        refine seqF (regF ?_)
        refine op_loadA (vs := [_, _, _, _, _, _]) Tryd.isAgg28 Tryd.sizeOf28 rfl (CellsAt.own (j := 0) (m := 6) (hS.at_ 1 rfl) rfl) rfl ?_
        refine op_loadA (vs := [_, _, _, _, _, _, _, _, _, _]) Tryd.isAgg60 Tryd.sizeOf60 rfl (CellsAt.own (j := 0) (m := 10) (hS.at_ 0 rfl) rfl) rfl ?_
        refine op_call (vs := [_, _]) hS goes_29 rfl (ruleA_is ⟨s, st, sy, _, rl, rc, rs⟩ (hri.below hS.below)) rfl ?_
        rintro e W5 ⟨rfl, hb⟩
        refine ⟨_, rfl, hb, fun hS' => ?_⟩
        clear hS; have hS := hS'; clear hS' hb
        refine op_not rfl rfl ?_
        refine endF (XF.thenN ?_)
        refine condF rfl (fun hc => ?_) (fun hc => ?_)
        ·have hc47 := hc; clear hc
         refine seqF (regF ?_)
         refine op_assign rfl rfl ?_
         refine endF (XF.thenN ?_)
         refine retF ?_
         refine XF.blkR ?_
         refine XF.thenR ?_
         refine XF.thenR ?_
         refine XF.blkR ?_
         refine XF.thenR ?_
         refine XF.res (res1 Tryd.results21 rfl) ?_
         exact ⟨rint (by simp only [pdsE]; rw [if_neg h0, if_neg h1, if_neg h2, if_neg (by rw [all_false_at hr (by simpa using hc47)]; simp)]), hS.below⟩
        ·have hc47 := hc; clear hc
         refine skipF ?_
         refine XF.blkN ?_
         refine XF.thenN ?_
         refine regF ?_
         refine op_add rfl rfl (IntWalk.i64_in _ (by omega)) rfl ?_
         refine op_move rfl rfl ?_
         refine endF ?_
         exact XF.round (rl - (i + 1)) [(1, _), (38, _), (39, _), (40, _)] (by omega) ⟨rfl, rfl, rfl, rfl, trivial⟩ ⟨i + 1, by omega, rfl, rfl, all_take_at hr hall (by simpa using hc47), hS.tail.clear⟩
       ·have hc41 := of_decide_eq_false hc; clear hc
        rw [List.take_of_length_le (by omega)] at hall
        refine exitF ?_
        refine XF.thenX ?_
        refine XF.thenX ?_
        refine XF.blkX ?_
        refine XF.thenN ?_
        refine seqF ?_
        refine seqF (regF ?_)
        refine op_field (o' := 5) fa_28_3 rfl rfl rfl ?_
        refine op_load Tryd.isAgg26 rfl (cell_own (hS.at_ 0 rfl) rfl) rfl ?_
        refine op_len Tryd.underlying26 rfl rfl ?_
        refine op_move rfl rfl ?_
        refine endF (XF.thenN ?_)
        refine blockF ?_
        refine loopF (fun m l W => ∃ i : Nat, i ≤ rl ∧ m = rl - i ∧ l = [(1, .pointer (some ⟨B1, 0, none⟩)), (50, .slice ra rl rc), (51, .int .i64 (rl : Int)), (52, .int .i64 (i : Int))] ∧ (rs.take i).all (fun r => decide (chkW s r.x = 0)) = true ∧ St w [(B1, [.int .i64 s.f.tag, .int .i64 s.f.dim, .slice s.f.a s.f.len s.f.cap, .int .i64 st, .int .i64 sy, .slice ra rl rc], 28)] [] [] W) (rl - 0) ([(1, _), (50, _), (51, _), (52, _)]) ⟨rfl, rfl, rfl, rfl, trivial⟩ (⟨0, Nat.zero_le _, rfl, rfl, rfl, hS.clear⟩) ?_
        clear hS
        rintro m l W ⟨i, hi, rfl, rfl, hall2, hS⟩
        refine seqF (regF ?_)
        refine op_lss rfl rfl rfl ?_
        refine endF (XF.thenN ?_)
        refine seqF ?_
        refine condF rfl (fun hc => ?_) (fun hc => ?_)
        ·have hc53 := of_decide_eq_true hc; clear hc
         have hk : i < rl := by omega
         obtain ⟨r, hr⟩ : ∃ r, rs[i]? = some r := ⟨rs[i]'(by omega), by simp [show i < rs.length by omega]⟩
         obtain ⟨b, off, rfl, hcs⟩ := hrow.at_ hr
         have k1 := CellsAt.agree hS.agree (Nat.zero_le _) hcs
         have k2 := k1.2.2.2.2
         have hri := hin r (List.mem_of_getElem? hr)
         refine skipF ?_
         refine XF.thenN ?_
         refine seqF ?_
         refine blockF ?_
         refine seqF (regF ?_)
         refine op_indexA  Tryd.underlying26 Tryd.sizeOf60 rfl rfl rfl (by omega) rfl rfl ?_
         refine op_loadA (vs := [_, _, _, _, _, _, _, _, _, _]) Tryd.isAgg60 Tryd.sizeOf60 rfl (by assumption) rfl ?_
         refine op_alloc (cs := [_, _, _, _, _, _, _, _, _, _]) hS Tryd.zeroValue60 rfl rfl ?_
         clear hS; intro B6 W6 hS
         refine op_storeA (i := 0) (vs := [_, _, _, _, _, _, _, _, _, _]) (cs' := [_, _, _, _, _, _, _, _, _, _]) (O' := [_, _]) hS Tryd.sizeOf60 rfl rfl rfl rfl rfl rfl rfl ?_
         clear hS; intro W7 hS
         refine endF (XF.thenN ?_)
         refine seqF (regF ?_)
         refine op_field (o' := 0) fa_28_0 rfl rfl rfl ?_
         refine op_loadA (vs := [_, _, _]) Tryd.isAgg25 Tryd.sizeOf25 rfl (CellsAt.own (j := 0) (m := 3) (hS.at_ 1 rfl) rfl) rfl ?_
         refine op_field (o' := 4) fa_60_4 rfl rfl rfl ?_
         refine op_loadA (vs := [_, _, _, _, _, _]) Tryd.isAgg40 Tryd.sizeOf40 rfl (CellsAt.own (j := 4) (m := 6) (hS.at_ 0 rfl) rfl) rfl ?_
         refine op_call (vs := [_, _]) hS goes_30 rfl (checkA_genY ds d s r.x _ (SIn.below hS.below hs) (WIn.below hS.below hri.x)) rfl ?_
         rintro e W8 ⟨rfl, hb⟩
         refine ⟨_, rfl, hb, fun hS' => ?_⟩
         clear hS; have hS := hS'; clear hS' hb
         refine op_assign rfl rfl ?_
         refine endF (XF.thenN ?_)
         refine seqF (regF ?_)
         refine op_move rfl rfl ?_
         refine op_neq rfl rfl rfl ?_
         refine endF (XF.thenN ?_)
         refine condF rfl (fun hc => ?_) (fun hc => ?_)
         ·have hc62 := of_decide_eq_true hc; clear hc
          refine seqF (regF ?_)
          refine op_move rfl rfl ?_
          refine op_assign rfl rfl ?_
          refine endF (XF.thenN ?_)
          refine retF ?_
          refine XF.blkR ?_
          refine XF.thenR ?_
          refine XF.thenR ?_
          refine XF.blkR ?_
          refine XF.thenR ?_
          refine XF.res (res1 Tryd.results21 rfl) ?_
          exact ⟨rint (by simp only [pdsE]; rw [if_neg h0, if_neg h1, if_neg h2, if_pos hall, wtE_at hr hall2 hc62]), hS.below⟩
         ·have hc62 := of_decide_eq_false hc; clear hc
          refine skipF ?_
          refine XF.blkN ?_
          refine XF.thenN ?_
          refine regF ?_
          refine op_add rfl rfl (IntWalk.i64_in _ (by omega)) rfl ?_
          refine op_move rfl rfl ?_
          refine endF ?_
          exact XF.round (rl - (i + 1)) [(1, _), (50, _), (51, _), (52, _)] (by omega) ⟨rfl, rfl, rfl, rfl, trivial⟩ ⟨i + 1, by omega, rfl, rfl, all_take_at hr hall2 (by simpa using hc62), hS.tail.clear⟩
        ·have hc53 := of_decide_eq_false hc; clear hc
         refine exitF ?_
         refine XF.thenX ?_
         refine XF.thenX ?_
         refine XF.blkX ?_
         refine XF.thenN ?_
         refine seqF (regF ?_)
         refine op_assign rfl rfl ?_
         refine endF (XF.thenN ?_)
         refine retF ?_
         refine XF.res (res1 Tryd.results21 rfl) ?_
         rw [List.take_of_length_le (by omega)] at hall2
         exact ⟨rint (by simp only [pdsE]; rw [if_neg h0, if_neg h1, if_neg h2, if_pos hall, wtE_all hall2]), hS.below⟩
theorem pdsA_is (ds d : Nat) (p : PV) (w : World) (h : PvIn w ds d p) : Calls Tryd.prog 21 #[p.val] w (fun e w' => e = .returned (.int .i64 (pdsE p)) ∧ Below w.heap.size w w') := pdsA_c ds d _ _ _ _ _ _ _ w h.s h.row h.len h.rin
end Go.Proofs.YtgjojhmninbkoaaDoor
namespace Go.Proofs.YtgjojhmninbkoaaDoor
open Go Go.RowKit
theorem confA_c (P0 : PV) (p : Int) (wa : Option Addr) (wl wc : Nat) (ws : List Int) (w : World) (hrow : Row w wa ws) (hlen : ws.length = wl) :
  Calls Tryd.prog 22 #[P0.val, .agg #[.int .i64 p, .slice wa wl wc]] w (fun e w' => e = .returned (.bool (confB P0 ⟨p, wa, wl, wc, ws⟩)) ∧ Below w.heap.size w w') := by
 refine enterF (args := [P0.val, .agg #[.int .i64 p, .slice wa wl wc]]) Tryd.func22 rfl Tryd.ntmps22 rfl ?_
 have hS := St.start w
 refine seqF (regF ?_)
 refine op_box (cs := [_, _, _, _, _, _]) hS rfl rfl rfl ?_
 clear hS; intro B1 W1 hS
 refine op_box (cs := [_, _]) hS rfl rfl rfl ?_
 clear hS; intro B2 W2 hS
 refine op_assign rfl rfl ?_
 refine endF (XF.thenN ?_)
 refine seqF ?_
 refine seqF (regF ?_)
 refine op_field (o' := 0) fa_31_0 rfl rfl rfl ?_
 refine op_load Tryd.isAgg3 rfl (cell_own (hS.at_ 0 rfl) rfl) rfl ?_
 refine op_lss rfl rfl rfl ?_
 refine op_move rfl rfl ?_
 refine op_cases (d := 10) rfl (fun hc => ?_) (fun hc => ?_)
 ·have hg10 := of_decide_eq_true hc; clear hc
  have e1 : inQ p P0.st = false := by simp [inQ]; omega
  refine op_notF (d := 10) rfl rfl rfl rfl ?_
  refine op_notF (d := 10) rfl rfl rfl rfl ?_
  refine op_notF (d := 10) rfl rfl rfl rfl ?_
  refine op_notF (d := 10) rfl rfl rfl rfl ?_
  refine op_notF (d := 10) rfl rfl rfl rfl ?_
  refine op_pickT rfl rfl rfl ?_
  refine op_move rfl rfl ?_
  refine op_notF (d := 17) rfl rfl rfl rfl ?_
  refine op_notF (d := 17) rfl rfl rfl rfl ?_
  refine op_notF (d := 17) rfl rfl rfl rfl ?_
  refine op_notF (d := 17) rfl rfl rfl rfl ?_
  refine op_pickT rfl rfl rfl ?_
  refine endF (XF.thenN ?_)
  refine condT rfl ?_
  refine seqF (regF ?_)
  refine op_assign rfl rfl ?_
  refine endF (XF.thenN ?_)
  refine retF ?_
  refine XF.thenR ?_
  refine XF.res (res1 Tryd.results22 rfl) ?_
  exact ⟨rbool (by simp [confB, e1]), hS.below⟩
 ·have hg10 := of_decide_eq_false hc; clear hc
  refine op_wantedF (d := 10) rfl rfl ?_
  refine op_field (o' := 0) fa_31_0 rfl rfl rfl ?_
  refine op_wantedF (d := 10) rfl rfl ?_
  refine op_load Tryd.isAgg3 rfl (cell_own (hS.at_ 0 rfl) rfl) rfl ?_
  refine op_wantedF (d := 10) rfl rfl ?_
  refine op_field (o' := 3) fa_28_1 rfl rfl rfl ?_
  refine op_wantedF (d := 10) rfl rfl ?_
  refine op_load Tryd.isAgg3 rfl (cell_own (hS.at_ 1 rfl) rfl) rfl ?_
  refine op_wantedF (d := 10) rfl rfl ?_
  refine op_geq rfl rfl rfl ?_
  refine op_pickF rfl rfl rfl ?_
  refine op_move rfl rfl ?_
  refine op_cases (d := 17) rfl (fun hc => ?_) (fun hc => ?_)
  ·have hg17 := of_decide_eq_true hc; clear hc
   have e1 : inQ p P0.st = false := by simp [inQ]; omega
   refine op_notF (d := 17) rfl rfl rfl rfl ?_
   refine op_notF (d := 17) rfl rfl rfl rfl ?_
   refine op_notF (d := 17) rfl rfl rfl rfl ?_
   refine op_notF (d := 17) rfl rfl rfl rfl ?_
   refine op_pickT rfl rfl rfl ?_
   refine endF (XF.thenN ?_)
   refine condT rfl ?_
   refine seqF (regF ?_)
   refine op_assign rfl rfl ?_
   refine endF (XF.thenN ?_)
   refine retF ?_
   refine XF.thenR ?_
   refine XF.res (res1 Tryd.results22 rfl) ?_
   exact ⟨rbool (by simp [confB, e1]), hS.below⟩
  ·have hg17 := of_decide_eq_false hc; clear hc
   have e1 : inQ p P0.st = true := by simp [inQ]; omega
   refine op_wantedF (d := 17) rfl rfl ?_
   refine op_field (o' := 1) fa_31_1 rfl rfl rfl ?_
   refine op_wantedF (d := 17) rfl rfl ?_
   refine op_load Tryd.isAgg29 rfl (cell_own (hS.at_ 0 rfl) rfl) rfl ?_
   refine op_wantedF (d := 17) rfl rfl ?_
   refine op_len Tryd.underlying29 rfl rfl ?_
   refine op_wantedF (d := 17) rfl rfl ?_
   refine op_gtr rfl rfl rfl ?_
   refine op_pickF rfl rfl rfl ?_
   refine endF (XF.thenN ?_)
   refine condF rfl (fun hc => ?_) (fun hc => ?_)
   ·have hc22 := of_decide_eq_true hc; clear hc
    have e4 : decide (wl ≤ 4096) = false := by simp; omega
    refine seqF (regF ?_)
    refine op_assign rfl rfl ?_
    refine endF (XF.thenN ?_)
    refine retF ?_
    refine XF.thenR ?_
    refine XF.res (res1 Tryd.results22 rfl) ?_
    exact ⟨rbool (by simp [confB, e4]), hS.below⟩
   ·have hc22 := of_decide_eq_false hc; clear hc
    have e4 : decide (wl ≤ 4096) = true := by simp; omega
    refine skipF ?_
    refine XF.thenN ?_
    refine seqF ?_
    refine seqF (regF ?_)
    refine op_field (o' := 1) fa_31_1 rfl rfl rfl ?_
    refine op_load Tryd.isAgg29 rfl (cell_own (hS.at_ 0 rfl) rfl) rfl ?_
    refine op_len Tryd.underlying29 rfl rfl ?_
    refine op_move rfl rfl ?_
    refine endF (XF.thenN ?_)
    refine blockF ?_
    refine loopF (fun m l W => ∃ i : Nat, i ≤ wl ∧ m = wl - i ∧ l = [(2, .pointer (some ⟨B1, 0, none⟩)), (24, .slice wa wl wc), (25, .int .i64 (wl : Int)), (26, .int .i64 (i : Int))] ∧ (ws.take i).all (fun y => inQ y P0.sy) = true ∧ St w [(B2, [.int .i64 p, .slice wa wl wc], 31), (B1, P0.six, 28)] [] [] W) (wl - 0) ([(2, _), (24, _), (25, _), (26, _)]) ⟨rfl, rfl, rfl, rfl, trivial⟩ (⟨0, Nat.zero_le _, rfl, rfl, rfl, hS.clear⟩) ?_
    clear hS
    rintro m l W ⟨i, hi, rfl, rfl, hall, hS⟩
    refine seqF (regF ?_)
    refine op_lss rfl rfl rfl ?_
    refine endF (XF.thenN ?_)
    refine seqF ?_
    refine condF rfl (fun hc => ?_) (fun hc => ?_)
    ·have hc27 := of_decide_eq_true hc; clear hc
     have hk : i < wl := by omega
     obtain ⟨b, off, y, rfl, hy, hyc⟩ := hrow.at1 (show i < ws.length by omega)
     have k1 := hS.old hyc
     refine skipF ?_
     refine XF.thenN ?_
     refine seqF ?_
     refine blockF ?_
     refine seqF (regF ?_)
     refine op_indexA  Tryd.underlying29 Tryd.sizeOf3 rfl rfl rfl (by omega) rfl rfl ?_
     refine op_load Tryd.isAgg3 rfl (by first | assumption | exact hS.old (by assumption)) rfl ?_
     refine op_assign rfl rfl ?_
     refine endF (XF.thenN ?_)
     refine seqF (regF ?_)
     refine op_move rfl rfl ?_
     refine op_lss rfl rfl rfl ?_
     refine op_move rfl rfl ?_
     refine op_cases (d := 32) rfl (fun hc => ?_) (fun hc => ?_)
     ·have hg32 := of_decide_eq_true hc; clear hc
      have e5 : inQ y P0.sy = false := by simp [inQ]; omega
      refine op_notF (d := 32) rfl rfl rfl rfl ?_
      refine op_notF (d := 32) rfl rfl rfl rfl ?_
      refine op_notF (d := 32) rfl rfl rfl rfl ?_
      refine op_notF (d := 32) rfl rfl rfl rfl ?_
      refine op_pickT rfl rfl rfl ?_
      refine endF (XF.thenN ?_)
      refine condT rfl ?_
      refine seqF (regF ?_)
      refine op_assign rfl rfl ?_
      refine endF (XF.thenN ?_)
      refine retF ?_
      refine XF.blkR ?_
      refine XF.thenR ?_
      refine XF.thenR ?_
      refine XF.blkR ?_
      refine XF.thenR ?_
      refine XF.res (res1 Tryd.results22 rfl) ?_
      exact ⟨rbool (by simp only [confB]; rw [all_false_at hy e5]; simp), hS.below⟩
     ·have hg32 := of_decide_eq_false hc; clear hc
      refine op_wantedF (d := 32) rfl rfl ?_
      refine op_move rfl rfl ?_
      refine op_wantedF (d := 32) rfl rfl ?_
      refine op_field (o' := 4) fa_28_2 rfl rfl rfl ?_
      refine op_wantedF (d := 32) rfl rfl ?_
      refine op_load Tryd.isAgg3 rfl (cell_own (hS.at_ 1 rfl) rfl) rfl ?_
      refine op_wantedF (d := 32) rfl rfl ?_
      refine op_geq rfl rfl rfl ?_
      refine op_pickF rfl rfl rfl ?_
      refine endF (XF.thenN ?_)
      refine condF rfl (fun hc => ?_) (fun hc => ?_)
      ·have hc37 := of_decide_eq_true hc; clear hc
       have e5 : inQ y P0.sy = false := by simp [inQ]; omega
       refine seqF (regF ?_)
       refine op_assign rfl rfl ?_
       refine endF (XF.thenN ?_)
       refine retF ?_
       refine XF.blkR ?_
       refine XF.thenR ?_
       refine XF.thenR ?_
       refine XF.blkR ?_
       refine XF.thenR ?_
       refine XF.res (res1 Tryd.results22 rfl) ?_
       exact ⟨rbool (by simp only [confB]; rw [all_false_at hy e5]; simp), hS.below⟩
      ·have hc37 := of_decide_eq_false hc; clear hc
       have e5 : inQ y P0.sy = true := by simp [inQ]; omega
       refine skipF ?_
       refine XF.blkN ?_
       refine XF.thenN ?_
       refine regF ?_
       refine op_add rfl rfl (IntWalk.i64_in _ (by omega)) rfl ?_
       refine op_move rfl rfl ?_
       refine endF ?_
       exact XF.round (wl - (i + 1)) [(2, _), (24, _), (25, _), (26, _)] (by omega) ⟨rfl, rfl, rfl, rfl, trivial⟩ ⟨i + 1, by omega, rfl, rfl, all_take_at hy hall e5, hS.clear⟩
    ·have hc27 := of_decide_eq_false hc; clear hc
     refine exitF ?_
     refine XF.thenX ?_
     refine XF.thenX ?_
     refine XF.blkX ?_
     refine XF.thenN ?_
     refine seqF (regF ?_)
     refine op_assign rfl rfl ?_
     refine endF (XF.thenN ?_)
     refine retF ?_
     refine XF.res (res1 Tryd.results22 rfl) ?_
     rw [List.take_of_length_le (by omega)] at hall
     exact ⟨rbool (by simp [confB, e1, e4, hall]), hS.below⟩
theorem confA_is (p : PV) (c : CV) (w : World) (h : CIn w c) : Calls Tryd.prog 22 #[p.val, c.val] w (fun e w' => e = .returned (.bool (confB p c)) ∧ Below w.heap.size w w') := confA_c p _ _ _ _ _ w h.row h.len
theorem stepA_is (ds d : Nat) (p : PV) (c : CV) (w : World) (hp : PvIn w ds d p) (hcf : CIn w c) :
  Calls Tryd.prog 11 #[p.val, c.val] w (fun e w' => e = .returned (.int .i64 (stepE p c)) ∧ Below w.heap.size w w') := by
 refine enterF (args := [p.val, c.val]) Tryd.func11 rfl Tryd.ntmps11 rfl ?_
 have hS := St.start w
 refine seqF (regF ?_)
 refine op_box (cs := [_, _, _, _, _, _]) hS rfl rfl rfl ?_
 clear hS; intro B1 W1 hS
 refine op_box (cs := [_, _]) hS rfl rfl rfl ?_
 clear hS; intro B2 W2 hS
 refine op_assign rfl rfl ?_
 refine endF (XF.thenN ?_)
 refine seqF ?_
 refine seqF (regF ?_)
 refine op_loadA (vs := [_, _, _, _, _, _]) Tryd.isAgg28 Tryd.sizeOf28 rfl (CellsAt.own (j := 0) (m := 6) (hS.at_ 1 rfl) rfl) rfl ?_
 refine op_call (vs := [_]) hS goes_21 rfl (pdsA_is ds d p _ (hp.below hS.below)) rfl ?_
 rintro e W3 ⟨rfl, hb⟩
 refine ⟨_, rfl, hb, fun hS' => ?_⟩
 clear hS; have hS := hS'; clear hS' hb
 refine op_assign rfl rfl ?_
 refine endF (XF.thenN ?_)
 refine seqF (regF ?_)
 refine op_move rfl rfl ?_
 refine op_neq rfl rfl rfl ?_
 refine endF (XF.thenN ?_)
 refine condF rfl (fun hc => ?_) (fun hc => ?_)
 ·have hc9 := of_decide_eq_true hc; clear hc
  refine seqF (regF ?_)
  refine op_move rfl rfl ?_
  refine op_assign rfl rfl ?_
  refine endF (XF.thenN ?_)
  refine retF ?_
  refine XF.thenR ?_
  refine XF.res (res1 Tryd.results11 rfl) ?_
  exact ⟨rint (by simp only [stepE]; rw [if_pos hc9]), hS.below⟩
 ·have hc9 := of_decide_eq_false hc; clear hc
  refine skipF ?_
  refine XF.thenN ?_
  refine seqF ?_
  refine seqF (regF ?_)
  refine op_loadA (vs := [_, _, _, _, _, _]) Tryd.isAgg28 Tryd.sizeOf28 rfl (CellsAt.own (j := 0) (m := 6) (hS.at_ 1 rfl) rfl) rfl ?_
  refine op_loadA (vs := [_, _]) Tryd.isAgg31 Tryd.sizeOf31 rfl (CellsAt.own (j := 0) (m := 2) (hS.at_ 0 rfl) rfl) rfl ?_
  refine op_call (vs := [_, _]) hS goes_22 rfl (confA_is p c _ (hcf.below hS.below)) rfl ?_
  rintro e W4 ⟨rfl, hb⟩
  refine ⟨_, rfl, hb, fun hS' => ?_⟩
  clear hS; have hS := hS'; clear hS' hb
  refine op_not rfl rfl ?_
  refine endF (XF.thenN ?_)
  refine condF rfl (fun hc => ?_) (fun hc => ?_)
  ·have hc14 := hc; clear hc
   refine seqF (regF ?_)
   refine op_assign rfl rfl ?_
   refine endF (XF.thenN ?_)
   refine retF ?_
   refine XF.thenR ?_
   refine XF.res (res1 Tryd.results11 rfl) ?_
   exact ⟨rint (by simp only [stepE]; rw [if_neg hc9, if_neg (by simpa using hc14)]), hS.below⟩
  ·have hc14 := hc; clear hc
   refine skipF ?_
   refine XF.thenN ?_
   refine seqF (regF ?_)
   refine op_assign rfl rfl ?_
   refine endF (XF.thenN ?_)
   refine retF ?_
   refine XF.res (res1 Tryd.results11 rfl) ?_
   exact ⟨rint (by simp only [stepE]; rw [if_neg hc9, if_pos (by simpa using hc14)]), hS.below⟩
end Go.Proofs.YtgjojhmninbkoaaDoor
namespace Go.Proofs.YtgjojhmninbkoaaDoor
open Go Go.RowKit
def appB (r : RV) (p : Int) (ws : List Int) : Bool := decide (r.p = p) && (match ws[0]? with | some y => decide (y = r.g) | none => false)
theorem take_same {xs ys : List Int} {i : Nat} {y z : Int} (h : xs.take i = ys.take i) (hy : xs[i]? = some y) (hz : ys[i]? = some z) (e : y = z) : xs.take (i + 1) = ys.take (i + 1) := by
 rw [List.take_add_one, List.take_add_one, h, hy, hz, e]
theorem sameC_c (p : Int) (wa : Option Addr) (wl wc : Nat) (ws : List Int) (q : Int) (va : Option Addr) (vl vc : Nat) (vs : List Int) (w : World) (hrow : Row w wa ws) (hlen : ws.length = wl) (hrov : Row w va vs) (hlev : vs.length = vl) (hmx : wl ≤ 9223372036854775807) :
  Calls Tryd.prog 8 #[.agg #[.int .i64 p, .slice wa wl wc], .agg #[.int .i64 q, .slice va vl vc]] w (fun e w' => e = .returned (.bool (decide (p = q ∧ ws = vs))) ∧ Below w.heap.size w w') := by
 refine enterF (args := [.agg #[.int .i64 p, .slice wa wl wc], .agg #[.int .i64 q, .slice va vl vc]]) Tryd.func8 rfl Tryd.ntmps8 rfl ?_
 have hS := St.start w
 refine seqF (regF ?_)
 refine op_box (cs := [_, _]) hS rfl rfl rfl ?_
 clear hS; intro B1 W1 hS
 refine op_box (cs := [_, _]) hS rfl rfl rfl ?_
 clear hS; intro B2 W2 hS
 refine op_assign rfl rfl ?_
 refine endF (XF.thenN ?_)
 refine seqF ?_
 refine seqF (regF ?_)
 refine op_field (o' := 0) fa_31_0 rfl rfl rfl ?_
 refine op_load Tryd.isAgg3 rfl (cell_own (hS.at_ 1 rfl) rfl) rfl ?_
 refine op_field (o' := 0) fa_31_0 rfl rfl rfl ?_
 refine op_load Tryd.isAgg3 rfl (cell_own (hS.at_ 0 rfl) rfl) rfl ?_
 refine op_neq rfl rfl rfl ?_
 refine op_move rfl rfl ?_
 refine op_cases (d := 11) rfl (fun hc => ?_) (fun hc => ?_)
 ·have hg11 := of_decide_eq_true hc; clear hc
  refine op_notF (d := 11) rfl rfl rfl rfl ?_
  refine op_notF (d := 11) rfl rfl rfl rfl ?_
  refine op_notF (d := 11) rfl rfl rfl rfl ?_
  refine op_notF (d := 11) rfl rfl rfl rfl ?_
  refine op_notF (d := 11) rfl rfl rfl rfl ?_
  refine op_notF (d := 11) rfl rfl rfl rfl ?_
  refine op_notF (d := 11) rfl rfl rfl rfl ?_
  refine op_pickT rfl rfl rfl ?_
  refine endF (XF.thenN ?_)
  refine condT rfl ?_
  refine seqF (regF ?_)
  refine op_assign rfl rfl ?_
  refine endF (XF.thenN ?_)
  refine retF ?_
  refine XF.thenR ?_
  refine XF.res (res1 Tryd.results8 rfl) ?_
  exact ⟨rbool (decide_eq_false (fun h => absurd h.1 (by omega))).symm, hS.below⟩
 ·have hg11 := of_decide_eq_false hc; clear hc
  refine op_wantedF (d := 11) rfl rfl ?_
  refine op_field (o' := 1) fa_31_1 rfl rfl rfl ?_
  refine op_wantedF (d := 11) rfl rfl ?_
  refine op_load Tryd.isAgg29 rfl (cell_own (hS.at_ 1 rfl) rfl) rfl ?_
  refine op_wantedF (d := 11) rfl rfl ?_
  refine op_len Tryd.underlying29 rfl rfl ?_
  refine op_wantedF (d := 11) rfl rfl ?_
  refine op_field (o' := 1) fa_31_1 rfl rfl rfl ?_
  refine op_wantedF (d := 11) rfl rfl ?_
  refine op_load Tryd.isAgg29 rfl (cell_own (hS.at_ 0 rfl) rfl) rfl ?_
  refine op_wantedF (d := 11) rfl rfl ?_
  refine op_len Tryd.underlying29 rfl rfl ?_
  refine op_wantedF (d := 11) rfl rfl ?_
  refine op_neq rfl rfl rfl ?_
  refine op_pickF rfl rfl rfl ?_
  refine endF (XF.thenN ?_)
  refine condF rfl (fun hc => ?_) (fun hc => ?_)
  ·have hc19 := of_decide_eq_true hc; clear hc
   refine seqF (regF ?_)
   refine op_assign rfl rfl ?_
   refine endF (XF.thenN ?_)
   refine retF ?_
   refine XF.thenR ?_
   refine XF.res (res1 Tryd.results8 rfl) ?_
   exact ⟨rbool (decide_eq_false (fun h => absurd (congrArg List.length h.2) (by omega))).symm, hS.below⟩
  ·have hc19 := of_decide_eq_false hc; clear hc
   have hpq : p = q := by omega
   have hll : wl = vl := by omega
   refine skipF ?_
   refine XF.thenN ?_
   refine seqF ?_
   refine seqF (regF ?_)
   refine op_assign rfl rfl ?_
   refine endF (XF.thenN ?_)
   refine blockF ?_
   refine loopF (fun m l W => ∃ i : Nat, i ≤ wl ∧ m = wl - i ∧ l = [(2, .pointer (some ⟨B1, 0, none⟩)), (3, .pointer (some ⟨B2, 0, none⟩)), (5, .int .i64 (i : Int))] ∧ ws.take i = vs.take i ∧ St w [(B2, [.int .i64 q, .slice va vl vc], 31), (B1, [.int .i64 p, .slice wa wl wc], 31)] [] [] W) (wl - 0) ([(2, _), (3, _), (5, _)]) ⟨rfl, rfl, rfl, trivial⟩ (⟨0, Nat.zero_le _, rfl, rfl, rfl, hS.clear⟩) ?_
   clear hS
   rintro m l W ⟨i, hi, rfl, rfl, hall, hS⟩
   refine seqF ?_
   refine seqF (regF ?_)
   refine op_move rfl rfl ?_
   refine op_field (o' := 1) fa_31_1 rfl rfl rfl ?_
   refine op_load Tryd.isAgg29 rfl (cell_own (hS.at_ 1 rfl) rfl) rfl ?_
   refine op_len Tryd.underlying29 rfl rfl ?_
   refine op_lss rfl rfl rfl ?_
   refine endF (XF.thenN ?_)
   refine condF rfl (fun hc => ?_) (fun hc => ?_)
   ·have hc24 := of_decide_eq_true hc; clear hc
    have hk : i < wl := by omega
    obtain ⟨b, off, y, rfl, hy, hyc⟩ := hrow.at1 (show i < ws.length by omega)
    obtain ⟨b2, off2, z, rfl, hz, hzc⟩ := hrov.at1 (show i < vs.length by omega)
    have k1 := hS.old hyc
    have k2 := hS.old hzc
    refine skipF ?_
    refine XF.thenN ?_
    refine seqF ?_
    refine blockF ?_
    refine seqF ?_
    refine regB (m := 11) followsM hS (by kernel_rfl) (by kernel_rfl) rfl ?_
    refine bl_cons 1 rfl (isV _) (stab_isV _) (rgV (li := [(2, _)]) rfl (w_free rfl) ⟨g_fr (by kernel_rfl) rfl, trivial⟩ (fun w hw => rn_field (o' := 1) fa_31_1 rfl rfl) (at_top rfl)) ?_
    refine bl_cons 2 rfl (isV _) (stab_isV _) (rgV (li := [(27, _)]) rfl (w_free rfl) ⟨g_dep 0 (by kernel_rfl) (at_dep rfl rfl rfl), trivial⟩ (fun w hw => rn_load Tryd.isAgg29 rfl ((below_agree hw 0).cell (Nat.zero_le _) (cell_own (hS.at_ 1 rfl) rfl))) (at_top rfl)) ?_
    refine bl_cons 3 rfl (isV _) (stab_isV _) (rgV (li := [(5, _)]) rfl (w_free rfl) ⟨g_fr (by kernel_rfl) rfl, trivial⟩ (fun w hw => rn_move rfl) (at_top rfl)) ?_
    refine bl_cons 4 rfl (isV _) (stab_isV _) (rgV (li := [(28, _), (29, _)]) rfl (w_free rfl) ⟨g_dep 1 (by kernel_rfl) (at_dep rfl rfl rfl), g_dep 2 (by kernel_rfl) (at_dep rfl rfl rfl), trivial⟩ (fun w hw => rn_indexA  Tryd.underlying29 Tryd.sizeOf3 rfl rfl rfl (by omega) rfl) (at_top rfl)) ?_
    refine bl_cons 5 rfl (isV _) (stab_isV _) (rgV (li := [(30, _)]) rfl (w_free rfl) ⟨g_dep 3 (by kernel_rfl) (at_dep rfl rfl rfl), trivial⟩ (fun w hw => rn_load Tryd.isAgg3 rfl ((below_agree hw 0).cell (Nat.zero_le _) (by assumption))) (at_top rfl)) ?_
    refine bl_cons 6 rfl (isV _) (stab_isV _) (rgV (li := [(3, _)]) rfl (w_free rfl) ⟨g_fr (by kernel_rfl) rfl, trivial⟩ (fun w hw => rn_field (o' := 1) fa_31_1 rfl rfl) (at_top rfl)) ?_
    refine bl_cons 7 rfl (isV _) (stab_isV _) (rgV (li := [(32, _)]) rfl (w_free rfl) ⟨g_dep 5 (by kernel_rfl) (at_dep rfl rfl rfl), trivial⟩ (fun w hw => rn_load Tryd.isAgg29 rfl ((below_agree hw 0).cell (Nat.zero_le _) (cell_own (hS.at_ 0 rfl) rfl))) (at_top rfl)) ?_
    refine bl_cons 8 rfl (isV _) (stab_isV _) (rgV (li := [(5, _)]) rfl (w_free rfl) ⟨g_fr (by kernel_rfl) rfl, trivial⟩ (fun w hw => rn_move rfl) (at_top rfl)) ?_
    refine bl_cons 9 rfl (isV _) (stab_isV _) (rgV (li := [(33, _), (34, _)]) rfl (w_free rfl) ⟨g_dep 6 (by kernel_rfl) (at_dep rfl rfl rfl), g_dep 7 (by kernel_rfl) (at_dep rfl rfl rfl), trivial⟩ (fun w hw => rn_indexA  Tryd.underlying29 Tryd.sizeOf3 rfl rfl rfl (by omega) rfl) (at_top rfl)) ?_
    refine bl_cons 10 rfl (isV _) (stab_isV _) (rgV (li := [(35, _)]) rfl (w_free rfl) ⟨g_dep 8 (by kernel_rfl) (at_dep rfl rfl rfl), trivial⟩ (fun w hw => rn_load Tryd.isAgg3 rfl ((below_agree hw 0).cell (Nat.zero_le _) (by assumption))) (at_top rfl)) ?_
    refine bl_cons 11 rfl (isV _) (stab_isV _) (rgV (li := [(31, _), (36, _)]) rfl (w_free rfl) ⟨g_dep 4 (by kernel_rfl) (at_dep rfl rfl rfl), g_dep 9 (by kernel_rfl) (at_dep rfl rfl rfl), trivial⟩ (fun w hw => rn_neq rfl rfl) (at_top rfl)) ?_
    refine bl_nil ?_
    intro W3 hbR hS'
    clear hS; have hS := hS'; clear hS'
    refine fin_v ?_
    refine fin_v ?_
    refine fin_v ?_
    refine fin_v ?_
    refine fin_v ?_
    refine fin_v ?_
    refine fin_v ?_
    refine fin_v ?_
    refine fin_v ?_
    refine fin_v ?_
    refine fin_v ?_
    refine fin_nil ?_
    refine XF.thenN ?_
    refine condF rfl (fun hc => ?_) (fun hc => ?_)
    ·have hc37 := hc; clear hc
     refine seqF (regF ?_)
     refine op_assign rfl rfl ?_
     refine endF (XF.thenN ?_)
     refine retF ?_
     refine XF.blkR ?_
     refine XF.thenR ?_
     refine XF.thenR ?_
     refine XF.blkR ?_
     refine XF.thenR ?_
     refine XF.res (res1 Tryd.results8 rfl) ?_
     exact ⟨rbool (decide_eq_false (fun h => absurd (show y = z by have e := h.2 ▸ hy; rw [hz] at e; exact (Option.some.inj e).symm) (by simpa using hc37))).symm, hS.below⟩
    ·have hc37 := hc; clear hc
     refine skipF ?_
     refine XF.blkN ?_
     refine XF.thenN ?_
     refine regF ?_
     refine op_move rfl rfl ?_
     refine op_add rfl rfl (IntWalk.i64_in _ (by omega)) rfl ?_
     refine op_assign rfl rfl ?_
     refine endF ?_
     exact XF.round (wl - (i + 1)) [(2, _), (3, _), (5, _)] (by omega) ⟨rfl, rfl, rfl, trivial⟩ ⟨i + 1, by omega, rfl, rfl, take_same hall hy hz (by simpa using hc37), hS.clear⟩
   ·have hc24 := of_decide_eq_false hc; clear hc
    refine exitF ?_
    refine XF.thenX ?_
    refine XF.thenX ?_
    refine XF.blkX ?_
    refine XF.thenN ?_
    refine seqF (regF ?_)
    refine op_assign rfl rfl ?_
    refine endF (XF.thenN ?_)
    refine retF ?_
    refine XF.res (res1 Tryd.results8 rfl) ?_
    rw [List.take_of_length_le (by omega), List.take_of_length_le (by omega)] at hall
    exact ⟨rbool (decide_eq_true ⟨hpq, hall⟩).symm, hS.below⟩
end Go.Proofs.YtgjojhmninbkoaaDoor
namespace Go.Proofs.YtgjojhmninbkoaaDoor
open Go Go.RowKit
abbrev ringV (sf : SF) (f0 : WF) : Value := .agg #[.int .i64 sf.tag, .int .i64 sf.dim, .slice sf.a sf.len sf.cap, .bool f0.z, .int .i64 f0.c, .int .u64 (f0.g : Int), .slice f0.ra f0.rl f0.rc, .slice f0.ca f0.cl f0.cc, .slice f0.pa f0.pl f0.pc]
theorem ringOf_is (S : PS) (sf : SF) (w : World) (hs : SIs w S sf) (hok : S.ok) :
  Calls Tryd.prog 12 #[sf.val] w (fun e w' => ∃ f0 : WF, e = .returned (ringV sf f0) ∧ XNew w.heap.size w' S f0 (zeroX S) ∧ Below w.heap.size w w') := by
 refine enterF (args := [sf.val]) Tryd.func12 rfl Tryd.ntmps12 rfl ?_
 have hS := St.start w
 refine seqF (regF ?_)
 refine op_box (cs := [_, _, _]) hS rfl rfl rfl ?_
 clear hS; intro B1 W1 hS
 refine op_alloc (cs := [_, _, _, _, _, _, _, _, _]) hS Tryd.zeroValue54 rfl rfl ?_
 clear hS; intro B2 W2 hS
 refine endF (XF.thenN ?_)
 refine seqF (regF ?_)
 refine op_loadA (vs := [_, _, _]) Tryd.isAgg25 Tryd.sizeOf25 rfl (CellsAt.own (j := 0) (m := 3) (hS.at_ 1 rfl) rfl) rfl ?_
 have hsz := hS.below.size
 refine op_call (vs := [_]) hS goes_23 rfl (ZeroW_ok S sf _ (hs.below hS.below) hok) rfl ?_
 rintro e W3 ⟨f0, rfl, hn, hb⟩
 refine ⟨_, rfl, hb, fun hS' => ?_⟩
 clear hS; have hS := hS'; clear hS'
 refine op_move rfl rfl ?_
 refine op_extract rfl rfl rfl ?_
 refine op_extract rfl rfl rfl ?_
 refine op_alloc (cs := [_, _, _, _, _, _]) hS Tryd.zeroValue40 rfl rfl ?_
 clear hS; intro B4 W4 hS
 refine op_storeA (i := 0) (vs := [_, _, _, _, _, _]) (cs' := [_, _, _, _, _, _]) (O' := [_, _, _]) hS Tryd.sizeOf40 rfl rfl rfl rfl rfl rfl rfl ?_
 clear hS; intro W5 hS
 refine op_assign rfl rfl ?_
 refine endF (XF.thenN ?_)
 refine seqF (regF ?_)
 refine op_loadA (vs := [_, _, _]) Tryd.isAgg25 Tryd.sizeOf25 rfl (CellsAt.own (j := 0) (m := 3) (hS.at_ 2 rfl) rfl) rfl ?_
 refine op_loadA (vs := [_, _, _, _, _, _]) Tryd.isAgg40 Tryd.sizeOf40 rfl (CellsAt.own (j := 0) (m := 6) (hS.at_ 0 rfl) rfl) rfl ?_
 refine op_build (us := [(0, .agg (List.toArray [_, _, _])), (1, .agg (List.toArray [_, _, _, _, _, _]))]) rfl (bld_54_0_1 _ _ _ _ _ _ _ _ _) rfl ?_
 refine op_storeA (i := 1) (vs := [_, _, _, _, _, _, _, _, _]) (cs' := [_, _, _, _, _, _, _, _, _]) (O' := [_, _, _]) hS Tryd.sizeOf54 rfl rfl rfl rfl rfl rfl rfl ?_
 clear hS; intro W6 hS
 refine endF (XF.thenN ?_)
 refine retF ?_
 refine XF.res (resC1 (vs := [_, _, _, _, _, _, _, _, _]) Tryd.results12 Tryd.isAgg54 Tryd.sizeOf54 rfl (CellsAt.own (j := 0) (m := 9) (hS.at_ 1 rfl) rfl)) ?_
 exact ⟨f0, rfl, (hn.agree (hS.since 0 rfl)).mono hsz, hS.below⟩
theorem ringOne_is (S : PS) (sf : SF) (f0 : WF) (w : World) (hs : SIs w S sf) (hok : S.ok) :
  Calls Tryd.prog 13 #[ringV sf f0] w (WRet S (oneX S) w) := by
 refine enterF (args := [ringV sf f0]) Tryd.func13 rfl Tryd.ntmps13 rfl ?_
 have hS := St.start w
 refine seqF (regF ?_)
 refine op_box (cs := [_, _, _, _, _, _, _, _, _]) hS rfl rfl rfl ?_
 clear hS; intro B1 W1 hS
 refine op_alloc (cs := [_, _, _, _, _, _]) hS Tryd.zeroValue40 rfl rfl ?_
 clear hS; intro B2 W2 hS
 refine endF (XF.thenN ?_)
 refine seqF (regF ?_)
 refine op_field (o' := 0) fa_54_0 rfl rfl rfl ?_
 refine op_loadA (vs := [_, _, _]) Tryd.isAgg25 Tryd.sizeOf25 rfl (CellsAt.own (j := 0) (m := 3) (hS.at_ 1 rfl) rfl) rfl ?_
 have hsz := hS.below.size
 refine op_call (vs := [_]) hS goes_24 rfl (OneW_ok S sf _ (hs.below hS.below) hok) rfl ?_
 rintro e W3 ⟨f, rfl, hn, hb⟩
 refine ⟨_, rfl, hb, fun hS' => ?_⟩
 clear hS; have hS := hS'; clear hS'
 refine op_move rfl rfl ?_
 refine op_extract rfl rfl rfl ?_
 refine op_extract rfl rfl rfl ?_
 refine op_alloc (cs := [_, _, _, _, _, _]) hS Tryd.zeroValue40 rfl rfl ?_
 clear hS; intro B4 W4 hS
 refine op_storeA (i := 0) (vs := [_, _, _, _, _, _]) (cs' := [_, _, _, _, _, _]) (O' := [_, _, _]) hS Tryd.sizeOf40 rfl rfl rfl rfl rfl rfl rfl ?_
 clear hS; intro W5 hS
 refine op_assign rfl rfl ?_
 refine endF (XF.thenN ?_)
 refine seqF (regF ?_)
 refine op_loadA (vs := [_, _, _, _, _, _]) Tryd.isAgg40 Tryd.sizeOf40 rfl (CellsAt.own (j := 0) (m := 6) (hS.at_ 0 rfl) rfl) rfl ?_
 refine op_storeA (i := 1) (vs := [_, _, _, _, _, _]) (cs' := [_, _, _, _, _, _]) (O' := [_, _, _]) hS Tryd.sizeOf40 rfl rfl rfl rfl rfl rfl rfl ?_
 clear hS; intro W6 hS
 refine endF (XF.thenN ?_)
 refine retF ?_
 refine XF.res (resC1 (vs := [_, _, _, _, _, _]) Tryd.results13 Tryd.isAgg40 Tryd.sizeOf40 rfl (CellsAt.own (j := 0) (m := 6) (hS.at_ 1 rfl) rfl)) ?_
 exact ⟨f, rfl, (hn.agree (hS.since 0 rfl)).mono hsz, hS.below⟩
theorem ringTimes_is (S : PS) (sf : SF) (rf : WF) (w : World) (hs : SIs w S sf) (hok : S.ok) (a : Option Addr) (c m : Nat) (f0 : WF) (x0 : PX) (ft : List WF) (xt : List PX) (hr : FRow w a (f0 :: ft)) (hx : XL w S (f0 :: ft) (x0 :: xt)) (hm : ft.length + 1 = m) (hmc : m ≤ c) (hmx : m ≤ 9223372036854775807) (ht : Tabs w) :
  Calls Tryd.prog 16 #[ringV sf rf, .slice a m c] w (WRet S (xt.foldl (extX S) x0) w) := by
 refine enterF (args := [ringV sf rf, .slice a m c]) Tryd.func16 rfl Tryd.ntmps16 rfl ?_
 have hS := St.start w
 refine seqF (regF ?_)
 refine op_box (cs := [_, _, _, _, _, _, _, _, _]) hS rfl rfl rfl ?_
 clear hS; intro B1 W1 hS
 refine op_alloc (cs := [_, _, _, _, _, _]) hS Tryd.zeroValue40 rfl rfl ?_
 clear hS; intro B2 W2 hS
 refine endF (XF.thenN ?_)
 refine seqF (regF ?_)
 refine op_field (o' := 0) fa_54_0 rfl rfl rfl ?_
 refine op_loadA (vs := [_, _, _]) Tryd.isAgg25 Tryd.sizeOf25 rfl (CellsAt.own (j := 0) (m := 3) (hS.at_ 1 rfl) rfl) rfl ?_
 refine op_move rfl rfl ?_
 have hsz := hS.below.size
 refine op_call (vs := [_, _]) hS goes_25 rfl (ExtendW_ok S sf _ (hs.below hS.below) hok a c m f0 x0 ft xt (hr.below hS.below) (hx.below hS.below) hm hmc hmx (ht.below hS.below)) rfl ?_
 rintro e W3 ⟨f, rfl, hn, hb⟩
 refine ⟨_, rfl, hb, fun hS' => ?_⟩
 clear hS; have hS := hS'; clear hS'
 refine op_move rfl rfl ?_
 refine op_extract rfl rfl rfl ?_
 refine op_extract rfl rfl rfl ?_
 refine op_alloc (cs := [_, _, _, _, _, _]) hS Tryd.zeroValue40 rfl rfl ?_
 clear hS; intro B4 W4 hS
 refine op_storeA (i := 0) (vs := [_, _, _, _, _, _]) (cs' := [_, _, _, _, _, _]) (O' := [_, _, _]) hS Tryd.sizeOf40 rfl rfl rfl rfl rfl rfl rfl ?_
 clear hS; intro W5 hS
 refine op_assign rfl rfl ?_
 refine endF (XF.thenN ?_)
 refine seqF (regF ?_)
 refine op_loadA (vs := [_, _, _, _, _, _]) Tryd.isAgg40 Tryd.sizeOf40 rfl (CellsAt.own (j := 0) (m := 6) (hS.at_ 0 rfl) rfl) rfl ?_
 refine op_storeA (i := 1) (vs := [_, _, _, _, _, _]) (cs' := [_, _, _, _, _, _]) (O' := [_, _, _]) hS Tryd.sizeOf40 rfl rfl rfl rfl rfl rfl rfl ?_
 clear hS; intro W6 hS
 refine endF (XF.thenN ?_)
 refine retF ?_
 refine XF.res (resC1 (vs := [_, _, _, _, _, _]) Tryd.results16 Tryd.isAgg40 Tryd.sizeOf40 rfl (CellsAt.own (j := 0) (m := 6) (hS.at_ 1 rfl) rfl)) ?_
 exact ⟨f, rfl, (hn.agree (hS.since 0 rfl)).mono hsz, hS.below⟩
end Go.Proofs.YtgjojhmninbkoaaDoor
namespace Go.Proofs.YtgjojhmninbkoaaDoor
open Go Go.RowKit
section
variable {P : Program} {ops : Array Oper} {Q : Exit → Act → World → Prop} {σ : Type}
structure RInvG (ops : Array Oper) (t0 : Array Value) (d0 : List Deferred) (G : σ → World → Prop) (I : σ → Nat → Value → World → Prop) (V : σ → Array Bool → Prop) (s : σ) (L : Array Bool) (a : Act) (w : World) : Prop where
 size : a.tmps.size = t0.size
 defers : a.defers = d0
 frame : ∀ t, freeT ops t = true → a.tmps.getD t undef = t0.getD t undef
 glob : G s w
 cons : V s L
 done : ∀ i d, (ops[i]?).bind (·.dst) = some d → L.getD i false = true → I s i (a.tmps.getD d undef) w
def ClosedG (ops : Array Oper) (L : Array Bool) : Prop := ∀ j, L.getD j false = true → ∀ x ∈ aft ops j, L.getD x false = true
def ReadyG (ops : Array Oper) (L : Array Bool) (i : Nat) : Prop := L.getD i false = false ∧ ∀ x ∈ aft ops i, L.getD x false = true
def GStep (P : Program) (ops : Array Oper) (Q : Exit → Act → World → Prop) (t0 : Array Value) (G : σ → World → Prop) (I : σ → Nat → Value → World → Prop) (V : σ → Array Bool → Prop) (i : Nat) : Prop :=
 ∀ s L (a : Act) w, (∀ t, freeT ops t = true → a.eval (.tmp t) = t0.getD t undef) → G s w → V s L → L.size = ops.size → ClosedG ops L → ReadyG ops L i → (∀ j d, waitsFor ops i j d = true → I s j (a.eval (.tmp d)) w) →
  wpOp P ops Q i (fun a' w' => ∃ s' v, a' = a.put ((ops[i]?).bind (·.dst)) v ∧ V s' (L.setIfInBounds i true) ∧ G s' w' ∧ (∀ d, (ops[i]?).bind (·.dst) = some d → I s' i v w') ∧ (∀ j d, (ops[j]?).bind (·.dst) = some d → I s j (a.tmps.getD d undef) w → I s' j (a.tmps.getD d undef) w')) a w
def tailT (ops : Array Oper) (k : Nat) : Bool := (List.range ops.size).all fun j => decide (j < k) || (List.range j).all fun i => (earlyL ops j).contains i
theorem tail_early {k j i : Nat} (h : tailT ops k = true) (hj : j < ops.size) (hk : k ≤ j) (hi : i < j) : i ∈ earlyL ops j := by
 have h1 := List.all_eq_true.1 h j (List.mem_range.2 hj)
 rw [Bool.or_eq_true, decide_eq_true_eq] at h1
 rcases h1 with h1 | h1
 ·omega
 ·exact List.contains_iff_mem.1 (List.all_eq_true.1 h1 i (List.mem_range.2 hi))
theorem ready_g {L : Array Bool} {i : Nat} (h : i ∈ Region.ready .any ops L) (hs : L.size = ops.size) : i < ops.size ∧ ReadyG ops L i := by
 obtain ⟨h1, o, ho, hdep⟩ := mem_ready.1 h
 have his : i < ops.size := (Array.getElem?_eq_some_iff.1 ho).1
 refine ⟨his, ?_, fun x hx => ?_⟩
 ·rw [Array.getD_eq_getD_getElem?, Array.getElem?_eq_getElem (by omega)] at h1 ⊢
  simpa using h1
 ·obtain ⟨e, he, h5, h6⟩ := aft_mem ho hx
  have h7 := hdep e he h6
  rw [h5] at h7
  exact h7
theorem cnt_getD {L : Array Bool} {i : Nat} (hi : i < L.size) (h : L.getD i false = false) : L.toList[i]? = some false := by
 rw [Array.getD_eq_getD_getElem?, Array.getElem?_eq_getElem hi] at h
 rw [Array.getElem?_toList, Array.getElem?_eq_getElem hi]
 simpa using h
theorem ClosedG.next {L : Array Bool} {i : Nat} (h : ClosedG ops L) (hr : ReadyG ops L i) (hi : i < L.size) : ClosedG ops (L.setIfInBounds i true) := fun j hj x hx => by
 have hx2 : L.getD x false = true := by
  by_cases hji : j = i
  ·subst hji; exact hr.2 x hx
  ·rw [getD_set_ne false (Ne.symm hji)] at hj
   exact h j hj x hx
 by_cases hxi : x = i
 ·subst hxi
  rw [Array.getD_eq_getD_getElem?, Array.getElem?_setIfInBounds_self_of_lt hi]; rfl
 ·rw [getD_set_ne false (Ne.symm hxi)]; exact hx2
theorem ready_early {L : Array Bool} {i : Nat} (h : ClosedG ops L) (hr : ReadyG ops L i) : ∀ x ∈ earlyL ops i, L.getD x false = true :=
 early_done (D := fun x => L.getD x false = true) hr.2 (fun j hj x hx => h j hj x hx)
theorem tail_run (ht : ∀ n, tidyR ops n = true → True) {k : Nat} (hl : tailT ops k = true) {n0 : Nat} (htd : tidyR ops n0 = true) : ∀ (m j fuel : Nat) (L : Array Bool) (a : Act) (w : World), ops.size = j + m → k ≤ j → m ≤ fuel → L.size = ops.size → ClosedG ops L → (∀ i, i < j → L.getD i false = true) → (∀ i, j ≤ i → L.getD i false = false) →
  wpList P ops Q (ops.toList.drop j) a w → wpAny P .any ops Q fuel L a w
 | 0, j, fuel, L, a, w, hm, hk, hf, hs, hc, hd, hn, h => by
  have hnil : Region.ready .any ops L = [] := by
   cases hr : Region.ready .any ops L with
   | nil => rfl
   | cons i rest =>
    obtain ⟨h1, h2⟩ := ready_g (by rw [hr]; exact List.mem_cons_self) hs
    have h3 := h2.1
    rw [hd i (by omega)] at h3
    cases h3
  rw [List.drop_of_length_le (by simp; omega)] at h
  cases fuel with
  | zero => exact ⟨hnil, h⟩
  | succ fuel => exact ⟨fun _ => h, by rw [hnil]; simp⟩
 | m + 1, j, 0, L, a, w, hm, hk, hf, hs, hc, hd, hn, h => by omega
 | m + 1, j, fuel + 1, L, a, w, hm, hk, hf, hs, hc, hd, hn, h => by
  have hj : j < ops.size := by omega
  have only : ∀ i ∈ Region.ready .any ops L, i = j := fun i hi => by
   obtain ⟨h1, h2⟩ := ready_g hi hs
   rcases Nat.lt_trichotomy i j with h3 | h3 | h3
   ·have h4 := h2.1
    rw [hd i h3] at h4; cases h4
   ·exact h3
   ·have := ready_early hc h2 j (tail_early hl h1 (by omega) h3)
    rw [hn j (Nat.le_refl _)] at this; cases this
  refine ⟨fun hr => ?_, fun i hi => ?_⟩
  ·have := ready_nil htd hs hr j hj
   have h2 := hn j (Nat.le_refl _)
   rw [Array.getD_eq_getD_getElem?, Array.getElem?_eq_getElem (by omega)] at this h2
   simp at this h2
   rw [this] at h2; cases h2
  ·obtain ⟨h1, h2⟩ := ready_g hi hs
   obtain rfl := only i hi
   have e : ops.toList.drop i = ops[i] :: ops.toList.drop (i + 1) := by
    rw [List.drop_eq_getElem_cons (by simpa using hj)]; simp
   rw [e] at h
   have key : wpOp P ops Q i (fun a' w' => wpList P ops Q (ops.toList.drop (i + 1)) a' w') a w := by
    unfold wpOp
    rw [Array.getElem?_eq_getElem hj]
    exact h
   refine wpOp_mono ?_ key
   intro a' w' hq
   refine tail_run ht hl htd m (i + 1) fuel _ a' w' (by omega) (by omega) (by omega) (by simpa using hs) (hc.next h2 (by omega)) (fun x hx => ?_) (fun x hx => ?_) hq
   ·by_cases hxi : x = i
    ·subst hxi
     rw [Array.getD_eq_getD_getElem?, Array.getElem?_setIfInBounds_self_of_lt (by omega)]; rfl
    ·rw [getD_set_ne false (Ne.symm hxi)]; exact hd x (by omega)
   ·rw [getD_set_ne false (by omega)]; exact hn x (by omega)
theorem region_ghost {t0 : Array Value} {d0 : List Deferred} {G : σ → World → Prop} {I : σ → Nat → Value → World → Prop} {V : σ → Array Bool → Prop} {k : Nat} (hk : k < ops.size) (hl : tailT ops k = true) (ht : tidyR ops t0.size = true)
  (hstep : ∀ i, i < k → GStep P ops Q t0 G I V i)
  (hfin : ∀ s L a w, RInvG ops t0 d0 G I V s L a w → (∀ i, i < k → L.getD i false = true) → (∀ i, k ≤ i → L.getD i false = false) → wpList P ops Q (ops.toList.drop k) a w) :
  ∀ (fuel : Nat) (s : σ) (L : Array Bool) (a : Act) (w : World), L.size = ops.size → L.toList.count false ≤ fuel → ClosedG ops L → (∀ i, k ≤ i → L.getD i false = false) → RInvG ops t0 d0 G I V s L a w → wpAny P .any ops Q fuel L a w := by
 intro fuel
 induction fuel with
 | zero =>
  intro s L a w hs hc hcl hn h
  have := cnt_set _ _ (cnt_getD (by omega) (hn k (Nat.le_refl _)))
  omega
 | succ fuel ih =>
  intro s L a w hs hc hcl hn h
  by_cases hall : ∀ i, i < k → L.getD i false = true
  ·have hcnt : ops.size - k ≤ L.toList.count false := by
    have key : ∀ (l : List Bool) (k : Nat), (∀ i, k ≤ i → i < l.length → l[i]? = some false) → l.length - k ≤ l.count false := by
     intro l
     induction l with
     | nil => intro k _; simp
     | cons b l ihl =>
      intro k hk
      cases k with
      | zero =>
       have h0 := hk 0 (Nat.le_refl _) (by simp)
       simp at h0; subst h0
       have := ihl 0 (fun i _ hi => by have := hk (i + 1) (by omega) (by simpa using hi); simpa using this)
       simp at this ⊢; omega
      | succ k =>
       have := ihl k (fun i hi hi2 => by have := hk (i + 1) (by omega) (by simpa using hi2); simpa using this)
       rw [List.count_cons]; simp; omega
    have := key L.toList k (fun i h1 h2 => cnt_getD (by simpa using h2) (hn i h1))
    simpa [hs] using this
   exact tail_run (fun _ _ => trivial) hl ht (ops.size - k) k (fuel + 1) L a w (by omega) (Nat.le_refl _) (by omega) hs hcl hall hn (hfin s L a w h hall hn)
  ·refine ⟨fun hr => ?_, fun i hi => ?_⟩
   ·exfalso; apply hall
    intro i hi
    have h1 := ready_nil ht hs hr i (by omega)
    rw [Array.getD_eq_getD_getElem?, Array.getElem?_eq_getElem (by omega)] at h1 ⊢
    simpa using h1
   ·obtain ⟨his, hr⟩ := ready_g hi hs
    have hik : i < k := by
     rcases Nat.lt_or_ge i k with h1 | h1
     ·exact h1
     ·exfalso; apply hall
      intro x hx
      exact ready_early hcl hr x (tail_early hl his h1 (by omega))
    have hc1 := cnt_set _ _ (cnt_getD (by omega) hr.1)
    refine wpOp_mono ?_ (hstep i hik s L a w (fun t ht => h.frame t ht) h.glob h.cons hs hcl hr (fun j d hw => ?_))
    ·rintro a' w' ⟨s', v, rfl, hV, hG, hI, hst⟩
     refine ih s' _ _ _ (by simpa using hs) ?_ (hcl.next hr (by omega)) (fun x hx => by rw [getD_set_ne false (by omega)]; exact hn x hx) ⟨by rw [put_size]; exact h.size, by rw [put_defers]; exact h.defers, fun t hf => ?_, hG, hV, fun j d hd hj => ?_⟩
     ·rw [Array.toList_setIfInBounds]; omega
     ·rw [put_other ?_]
      ·exact h.frame t hf
      ·intro hd
       obtain ⟨o, ho, hd⟩ := Option.bind_eq_some_iff.1 hd
       have := Array.all_eq_true'.1 hf o (Array.mem_of_getElem? ho)
       simp [hd] at this
     ·by_cases hji : j = i
      ·subst hji
       rw [put_at hd (by rw [h.size]; exact (tidy_dst ht hd).1)]
       exact hI d hd
      ·rw [getD_set_ne false (Ne.symm hji)] at hj
       rw [put_other (fun e => hji ((tidy_dst ht e).2 j hd))]
       exact hst j d hd (h.done j d hd hj)
    ·have : j ∈ aft ops i := by
      unfold waitsFor at hw
      unfold aft
      cases ho : ops[i]? with
      | none => simp [ho] at hw
      | some o =>
       simp only [ho, Bool.and_eq_true, beq_iff_eq] at hw
       obtain ⟨e, he, h2⟩ := Array.any_eq_true'.1 hw.1
       simp only [Bool.and_eq_true, beq_iff_eq] at h2
       exact List.mem_map.2 ⟨e, List.mem_filter.2 ⟨Array.mem_toList_iff.2 he, h2.2⟩, h2.1⟩
     have hd : (ops[j]?).bind (·.dst) = some d := by
      unfold waitsFor at hw
      simp only [Bool.and_eq_true, beq_iff_eq] at hw
      exact hw.2
     exact h.done j d hd (hr.2 j this)
end
structure Sg where
 ev : Option Value
 bs : List (Nat × Nat)
def OE (ca : Nat → Option Value → List Value) (ta : Nat → TypeId) (Os : Option Value → Own) (s : Sg) : Own := s.bs.map (fun q => (q.2, ca q.1 s.ev, ta q.1)) ++ Os s.ev
def XB (O : Own) (G : Grows) (b : Nat) : Prop := (∃ p ∈ O, p.1 = b) ∨ (∃ g ∈ G, g.v.ownBlock = some b)
def SameX (lo : Nat) (X : Nat → Prop) (w w' : World) : Prop := (w'.os = w.os ∧ w'.tape = w.tape ∧ w'.output = w.output) ∧ w.heap.size ≤ w'.heap.size ∧ ∀ b, lo ≤ b → b < w.heap.size → ¬ X b → w'.heap[b]? = w.heap[b]?
def AwS (lo : Nat) (X : Nat → Prop) (p : Asr) : Asr := fun v w => ∀ w', SameX lo X w w' → p v w'
section
variable {lo : Nat} {X X' : Nat → Prop} {w w' w'' : World} {p : Asr} {v c : Value}
theorem SameX.refl (lo : Nat) (X : Nat → Prop) (w : World) : SameX lo X w w := ⟨⟨rfl, rfl, rfl⟩, Nat.le_refl _, fun _ _ _ _ => rfl⟩
theorem sameX_of (h : Below w.heap.size w w') : SameX lo X w w' := ⟨⟨h.os, h.tape, h.output⟩, h.size, fun b _ hb _ => h.block b hb⟩
theorem SameX.trans (h : SameX lo X w w') (k : SameX lo X' w' w'') (hx : ∀ b, X' b → X b ∨ w.heap.size ≤ b) : SameX lo X w w'' :=
 ⟨⟨k.1.1.trans h.1.1, k.1.2.1.trans h.1.2.1, k.1.2.2.trans h.1.2.2⟩, Nat.le_trans h.2.1 k.2.1, fun b h1 h2 h3 => (k.2.2 b h1 (Nat.lt_of_lt_of_le h2 h.2.1) (fun hb => (hx b hb).elim h3 (fun h4 => by omega))).trans (h.2.2 b h1 h2 h3)⟩
theorem SameX.mono (h : SameX 0 X w w') : SameX lo X w w' := ⟨h.1, h.2.1, fun b _ hb hx => h.2.2 b (Nat.zero_le _) hb hx⟩
theorem AwS.here (h : AwS lo X p v w) : p v w := h w (SameX.refl _ _ _)
theorem AwS.next (h : AwS lo X p v w) (hs : SameX 0 X w w') (hx : ∀ b, X' b → X b ∨ w.heap.size ≤ b) : AwS lo X' p v w' := fun w2 h2 => h w2 (hs.mono.trans h2 hx)
theorem awS_isV : AwS lo X (isV c) c w := fun _ _ => rfl
end
section
variable {P : Program} {n : Nat} {Q : Exit → Act → World → Prop} {l : Fr} {w0 W : World} {ops : Array Oper} {os : List Oper} {K : List (Nat × World)} {L : List Asr} {i : Nat}
variable {al : List Nat} {ca : Nat → Option Value → List Value} {ta : Nat → TypeId} {Os : Option Value → Own} {Gs : Option Value → Grows} {lo ef jy : Nat} {s : Sg}
theorem St.drops {O : Own} {G : Grows} {w : World} : ∀ (A : Own), St w0 (A ++ O) G K w → St w0 O G K w
 | [], h => h
 | _ :: A, h => St.drops A h.tail
def GG (w0 : World) (K : List (Nat × World)) (lo : Nat) (ca : Nat → Option Value → List Value) (ta : Nat → TypeId) (Os : Option Value → Own) (Gs : Option Value → Grows) (s : Sg) (w : World) : Prop := St w0 (OE ca ta Os s) (Gs s.ev) K w ∧ lo ≤ w.heap.size ∧ ∀ q ∈ s.bs, lo ≤ q.2
def VG (al : List Nat) (ef : Nat) (s : Sg) (L : Array Bool) : Prop := (∀ a ∈ al, L.getD a false = true ↔ ∃ B, (a, B) ∈ s.bs) ∧ (∀ q ∈ s.bs, q.1 ∈ al) ∧ s.bs.Pairwise (fun p q => p.1 ≠ q.1) ∧ (L.getD ef false = true ↔ s.ev.isSome = true)
def IG (al : List Nat) (ef jy lo : Nat) (ca : Nat → Option Value → List Value) (ta : Nat → TypeId) (Os : Option Value → Own) (Gs : Option Value → Grows) (L : List Asr) (s : Sg) (i : Nat) (v : Value) (w : World) : Prop :=
 (i ∈ al → ∃ B, (i, B) ∈ s.bs ∧ v = .pointer (some ⟨B, 0, none⟩)) ∧ (i = ef → s.ev = some v) ∧ (i = jy → ∀ y, s.ev = some y → v = y) ∧ (i ∉ al → i ≠ ef → AwS lo (XB (OE ca ta Os s) (Gs s.ev)) (atI L i) v w)
def Tr (ops : Array Oper) (jy : Nat) (ca : Nat → Option Value → List Value) (ta : Nat → TypeId) (Os : Option Value → Own) (Gs : Option Value → Grows) (s s' : Sg) (a : Act) (w w' : World) : Prop :=
 SameX 0 (XB (OE ca ta Os s) (Gs s.ev)) w w' ∧ (∀ b, XB (OE ca ta Os s') (Gs s'.ev) b → XB (OE ca ta Os s) (Gs s.ev) b ∨ w.heap.size ≤ b) ∧ (∀ q ∈ s.bs, q ∈ s'.bs) ∧ (s'.ev = s.ev ∨ (s.ev = none ∧ ∃ y, s'.ev = some y ∧ ∀ d, (ops[jy]?).bind (·.dst) = some d → a.eval (.tmp d) = y))
theorem Tr.refl {a : Act} {w w' : World} (h : Below w.heap.size w w') : Tr ops jy ca ta Os Gs s s a w w' := ⟨sameX_of h, fun b hb => .inl hb, fun q hq => hq, .inl rfl⟩
def SG (P : Program) (n : Nat) (ops : Array Oper) (Q : Exit → Act → World → Prop) (l : Fr) (w0 : World) (K : List (Nat × World)) (lo : Nat) (al : List Nat) (ef jy : Nat) (ca : Nat → Option Value → List Value) (ta : Nat → TypeId) (Os : Option Value → Own) (Gs : Option Value → Grows) (L : List Asr) (i : Nat) : Prop :=
 ∀ t0, Has n l t0 → ∀ s LB (a : Act) w, (∀ t, freeT ops t = true → a.eval (.tmp t) = t0.tmps.getD t undef) → GG w0 K lo ca ta Os Gs s w → VG al ef s LB → LB.size = ops.size → ClosedG ops LB → ReadyG ops LB i → (∀ j d, waitsFor ops i j d = true → IG al ef jy lo ca ta Os Gs L s j (a.eval (.tmp d)) w) →
  wpOp P ops Q i (fun a' w' => ∃ s' v, a' = a.put ((ops[i]?).bind (·.dst)) v ∧ VG al ef s' (LB.setIfInBounds i true) ∧ GG w0 K lo ca ta Os Gs s' w' ∧ Tr ops jy ca ta Os Gs s s' a w w' ∧ (∀ d, (ops[i]?).bind (·.dst) = some d → IG al ef jy lo ca ta Os Gs L s' i v w')) a w
theorem SG.step (h : SG P n ops Q l w0 K lo al ef jy ca ta Os Gs L i) : ∀ a, Has n l a → GStep P ops Q a.tmps (GG w0 K lo ca ta Os Gs) (IG al ef jy lo ca ta Os Gs L) (VG al ef) i := fun t0 h0 s LB a w hF hG hV hs hc hr hD => by
 refine wpOp_mono ?_ (h t0 h0 s LB a w hF hG hV hs hc hr hD)
 rintro a' w' ⟨s', v, h1, h2, h3, ⟨t1, t2, t3, t4⟩, h5⟩
 refine ⟨s', v, h1, h2, h3, h5, fun j d hd hj => ⟨fun hj1 => ?_, fun hj1 => ?_, fun hj1 y hy => ?_, fun h6 h7 => (hj.2.2.2 h6 h7).next t1 t2⟩⟩
 ·obtain ⟨B, hB, e⟩ := hj.1 hj1
  exact ⟨B, t3 _ hB, e⟩
 ·rcases t4 with t4 | ⟨t4, _⟩
  ·rw [t4]; exact hj.2.1 hj1
  ·have := hj.2.1 hj1; rw [t4] at this; cases this
 ·rcases t4 with t4 | ⟨t4, y', t5, t6⟩
  ·rw [t4] at hy; exact hj.2.2.1 hj1 y hy
  ·rw [t5] at hy; cases hy
   subst hj1
   exact t6 d hd
theorem SG.ext {L1 L2 : List Asr} (ht : tidyR ops n = true) (hag : ∀ j, j ≤ i → atI L1 j = atI L2 j) (h : SG P n ops Q l w0 K lo al ef jy ca ta Os Gs L1 i) : SG P n ops Q l w0 K lo al ef jy ca ta Os Gs L2 i := fun t0 h0 s LB a w hF hG hV hs hc hr hD => by
 have hlt : ∀ j d, waitsFor ops i j d = true → j < i := fun j d hw => by
  cases ho : ops[i]? with
  | none => simp [waitsFor, ho] at hw
  | some o =>
   simp only [waitsFor, ho, Bool.and_eq_true, beq_iff_eq] at hw
   obtain ⟨e, he, h2⟩ := Array.any_eq_true'.1 hw.1
   simp only [Bool.and_eq_true, beq_iff_eq] at h2
   rw [← h2.1]; exact tidy_after ht ho e he h2.2
 have h2 := h t0 h0 s LB a w hF hG hV hs hc hr (fun j d hw => by unfold IG; rw [hag j (Nat.le_of_lt (hlt j d hw))]; exact hD j d hw)
 unfold IG at h2
 rw [hag i (Nat.le_refl _)] at h2
 exact h2
def earlyE (ops : Array Oper) (ef i : Nat) : Bool := Nat.ble ops.size ef || (earlyL ops ef).contains i
def earlyJ (ops : Array Oper) (ef jy i : Nat) : Bool := !Nat.beq i jy || earlyE ops ef i
theorem earlyJ_of (h : earlyJ ops ef jy i = true) : i = jy → earlyE ops ef i = true := fun e => by
 unfold earlyJ at h
 rw [e, Nat.beq_refl] at h
 rw [e]; exact h
theorem ev_none {L : Array Bool} (hV : VG al ef s L) (hs : L.size = ops.size) (hc : ClosedG ops L) (hi : L.getD i false = false) (he : earlyE ops ef i = true) : s.ev = none := by
 cases hev : s.ev with
 | none => rfl
 | some v =>
  have hd : L.getD ef false = true := hV.2.2.2.2 (by rw [hev]; rfl)
  unfold earlyE at he
  rw [Bool.or_eq_true] at he
  rcases he with he | he
  ·have h1 : ops.size ≤ ef := Nat.le_of_ble_eq_true he
   rw [Array.getD_eq_getD_getElem?, Array.getElem?_eq_none (by omega)] at hd
   cases hd
  ·have := early_done (D := fun x => L.getD x false = true) (hc ef hd) (fun j hj x hx => hc j hj x hx) i (List.contains_iff_mem.1 he)
   rw [hi] at this; cases this
theorem deps_has {t0 : Act} (h0 : Has n l t0) {a : Act} {w : World} (hF : ∀ t, freeT ops t = true → a.eval (.tmp t) = t0.tmps.getD t undef) (hD : ∀ j d, waitsFor ops i j d = true → IG al ef jy lo ca ta Os Gs L s j (a.eval (.tmp d)) w)
  (hn : ∀ j d, waitsFor ops i j d = true → j ∈ al ∨ j = ef → atI L j = anyA) : ∀ j d, waitsFor ops i j d = true → atI L j (a.eval (.tmp d)) w := fun j d hw => by
 by_cases h1 : j ∈ al ∨ j = ef
 ·rw [hn j d hw h1]; trivial
 ·rw [not_or] at h1
  exact ((hD j d hw).2.2.2 h1.1 h1.2).here
def NoAsr (al : List Nat) (ef : Nat) (L : List Asr) : Prop := ∀ j, j ∈ al ∨ j = ef → atI L j = anyA
theorem vg_other {L : Array Bool} (hV : VG al ef s L) (hi : i ∉ al) (he : i ≠ ef) : VG al ef s (L.setIfInBounds i true) :=
 ⟨fun a ha => by rw [getD_set_ne false (fun e => hi (by rw [e]; exact ha))]; exact hV.1 a ha, hV.2.1, hV.2.2.1, by rw [getD_set_ne false he]; exact hV.2.2.2⟩
variable {d : Nat} {op : Op} {ty : TypeId} {pos : String} {aft_ : Array Edge} {v : Value} {gd : Option (Nat × Bool)}
theorem sg_base (hal : i ∉ al) (hie : i ≠ ef) (hij : i = jy → earlyE ops ef i = true) (hi : ops[i]? = some ⟨some d, op, ty, pos, aft_, gd⟩) (hNo : NoAsr al ef L)
  (h : ∀ (t0 a : Act) s w, Has n l t0 → (∀ t, freeT ops t = true → a.eval (.tmp t) = t0.tmps.getD t undef) → GG w0 K lo ca ta Os Gs s w → (earlyE ops ef i = true → s.ev = none) → (∀ j d, waitsFor ops i j d = true → IG al ef jy lo ca ta Os Gs L s j (a.eval (.tmp d)) w) → (∀ j d, waitsFor ops i j d = true → atI L j (a.eval (.tmp d)) w) →
   wpOp P ops Q i (fun a' w' => ∃ v, a' = a.put (some d) v ∧ AwS lo (XB (OE ca ta Os s) (Gs s.ev)) (atI L i) v w' ∧ Below w.heap.size w w') a w) : SG P n ops Q l w0 K lo al ef jy ca ta Os Gs L i := fun t0 h0 s LB a w hF hG hV hs hc hr hD => by
 refine wpOp_mono ?_ (h t0 a s w h0 hF hG (fun he => ev_none hV hs hc hr.1 he) hD (deps_has h0 hF hD fun j d _ hj => hNo j hj))
 rintro a' w' ⟨v, rfl, hA, hb⟩
 refine ⟨s, v, by rw [hi]; rfl, vg_other hV hal hie, ⟨hG.1.grow hb, Nat.le_trans hG.2.1 hb.size, hG.2.2⟩, Tr.refl hb, fun _ _ => ⟨fun h => absurd h hal, fun h => absurd h hie, (fun h y hy => by rw [ev_none hV hs hc hr.1 (hij h)] at hy; cases hy), fun _ _ => hA⟩⟩
theorem wp_val {o : Oper} {a : Act} {w w' : World} {K' : Act → World → Prop} (hi : ops[i]? = some o) (hw : Region.wanted o (yielded ops a.tmps) = true) (hr : (execOp a.eval o).run P w = .ok (.value v) w') (hK : K' (a.put o.dst v) w') : wpOp P ops Q i K' a w := by
 unfold wpOp
 simp only [hi, hw, if_true]
 refine .inl ?_
 unfold Oper.wp
 rw [hr]
 exact hK
theorem sgV (li : Fr) (hal : al.contains i = false) (hie : Nat.beq i ef = false) (hij : earlyJ ops ef jy i = true) (hi : ops[i]? = some ⟨some d, op, ty, pos, aft_, gd⟩) (hNo : NoAsr al ef L) (hw : Wants ops L i ⟨some d, op, ty, pos, aft_, gd⟩) (hli : AllO n ops l L i li)
  (hr : ∀ ev w, (earlyE ops ef i = true → ev = none) → St w0 (Os ev) (Gs ev) K w → Runs P li ⟨some d, op, ty, pos, #[], none⟩ w v w) (hI : atI L i = isV v) : SG P n ops Q l w0 K lo al ef jy ca ta Os Gs L i :=
 sg_base (fun h => by rw [List.contains_iff_mem.2 h] at hal; cases hal) (fun e => by rw [e, Nat.beq_refl] at hie; cases hie) (earlyJ_of hij) hi hNo fun t0 a s w h0 hF hG he hD hD' => by
  have hS : St w0 (Os s.ev) (Gs s.ev) K w := St.drops _ hG.1
  exact wp_val hi (hw.yes hD') (by rw [execOp_guard a.eval _ _ _ _ pos _ #[] _ none]; exact hr s.ev w he hS a.eval (allO_has h0 hF hD' hli)) ⟨v, rfl, by rw [hI]; exact awS_isV, Below.refl _ _⟩
theorem sg_call {f : FuncId} {xs : List Operand} {ts : Array TypeId} (ps : List Asr) (hal : al.contains i = false) (hie : Nat.beq i ef = false) (hij : earlyJ ops ef jy i = true) (hi : ops[i]? = some ⟨some d, .call { callee := .value (.func f), args := xs.toArray, argTypes := ts }, ty, pos, aft_, gd⟩) (hNo : NoAsr al ef L) (hgo : goesIn P f = true)
  (hw : Wants ops L i ⟨some d, .call { callee := .value (.func f), args := xs.toArray, argTypes := ts }, ty, pos, aft_, gd⟩) (hp : AllP n ops l L i xs ps)
  {p : Asr} (hc : ∀ vs ev w, (earlyE ops ef i = true → ev = none) → St w0 (Os ev) (Gs ev) K w → lo ≤ w.heap.size → Holds ps vs w → Calls P f vs.toArray w (GivesN p w)) (hI : atI L i = p) : SG P n ops Q l w0 K lo al ef jy ca ta Os Gs L i :=
 sg_base (fun h => by rw [List.contains_iff_mem.2 h] at hal; cases hal) (fun e => by rw [e, Nat.beq_refl] at hie; cases hie) (earlyJ_of hij) hi hNo fun t0 a s w h0 hF hG he hD hD' => by
  have hS : St w0 (Os s.ev) (Gs s.ev) K w := St.drops _ hG.1
  have h1 := hc (xs.map a.eval) s.ev w he hS hG.2.1 (allP_holds h0 hF hD' hp)
  rw [show (xs.map a.eval).toArray = xs.toArray.map a.eval by simp] at h1
  unfold wpOp
  simp only [hi, hw.yes hD', if_true]
  refine .inl ?_
  unfold Oper.wp
  rw [run_call P a.eval w f xs.toArray ts _ rfl rfl hgo, Oper.upon_enter]
  refine h1.mono ?_
  rintro e w' ⟨v, rfl, hv, hb⟩
  refine ⟨v, by simp, ?_, hb⟩
  rw [hI]
  intro w2 h2
  refine hv w2 ⟨h2.2.1, fun b h3 h4 => h2.2.2 b (Nat.le_trans hG.2.1 h3) h4 (fun hx => ?_)⟩
  rcases hx with ⟨q, hq, rfl⟩ | ⟨g, hg, hgb⟩
  ·have := lt_of_heap (hG.1.own q hq).2; omega
  ·have := (hG.1.glt hg hgb).2; omega
theorem sg_alloc {T : TypeId} {z : Value} (hal : al.contains i = true) (hie : Nat.beq i ef = false) (hij : Nat.beq i jy = false) (hi : ops[i]? = some ⟨some d, .alloc T, ty, pos, aft_, none⟩) (hT : ta i = T) (hz : ∀ w, (zeroValue T).run P w = .ok z w) (hc : ∀ ev, (earlyE ops ef i = true → ev = none) → z.cells = (ca i ev).toArray) : SG P n ops Q l w0 K lo al ef jy ca ta Os Gs L i := fun t0 h0 s LB a w hF hG hV hs hcl hr hD => by
 have hal' : i ∈ al := List.contains_iff_mem.1 hal
 have hie' : i ≠ ef := fun e => by rw [e, Nat.beq_refl] at hie; cases hie
 have hcz := hc s.ev (fun he => ev_none hV hs hcl hr.1 he)
 have hB : Below w.heap.size w (w.alloc (.cells (ca i s.ev).toArray T)) := (Below.refl _ _).alloc (Nat.le_refl _) _
 have hnot : ¬ ∃ B, (i, B) ∈ s.bs := fun h => by have := (hV.1 i hal').2 h; rw [hr.1] at this; cases this
 refine wp_val hi rfl (v := .pointer (some ⟨w.heap.size, 0, none⟩)) (w' := w.alloc (.cells (ca i s.ev).toArray T)) (by unfold execOp; simp only []; simp [Instr.alloc, newVar, newRow, hz, hcz]) ?_
 have hX : ∀ b, XB (OE ca ta Os ⟨s.ev, (i, w.heap.size) :: s.bs⟩) (Gs s.ev) b → XB (OE ca ta Os s) (Gs s.ev) b ∨ w.heap.size ≤ b := by
  rintro b (⟨q, hq, rfl⟩ | h)
  ·unfold OE at hq
   rw [List.map_cons, List.cons_append] at hq
   rcases List.mem_cons.1 hq with rfl | hq
   ·exact .inr (Nat.le_refl _)
   ·exact .inl (.inl ⟨q, hq, rfl⟩)
  ·exact .inl (.inr h)
 refine ⟨⟨s.ev, (i, w.heap.size) :: s.bs⟩, _, by rw [hi]; rfl, ⟨fun a ha => ?_, fun q hq => ?_, List.Pairwise.cons (fun q hq e => hnot ⟨q.2, by rw [show i = q.1 from e]; exact hq⟩) hV.2.2.1, by rw [getD_set_ne false hie']; exact hV.2.2.2⟩, ⟨?_, Nat.le_trans hG.2.1 hB.size, fun q hq => ?_⟩, ⟨sameX_of hB, hX, fun q hq => List.mem_cons_of_mem _ hq, .inl rfl⟩, fun _ _ => ⟨fun _ => ⟨w.heap.size, List.mem_cons_self, rfl⟩, fun h => absurd h hie', fun h => absurd hij (by rw [h, Nat.beq_refl]; decide), fun h => absurd hal' h⟩⟩
 ·by_cases hai : a = i
  ·subst hai
   rw [Array.getD_eq_getD_getElem?, Array.getElem?_setIfInBounds_self_of_lt (by rw [hs]; exact (Array.getElem?_eq_some_iff.1 hi).1)]
   exact ⟨fun _ => ⟨_, List.mem_cons_self⟩, fun _ => rfl⟩
  ·rw [getD_set_ne false (Ne.symm hai), hV.1 a ha]
   constructor
   ·rintro ⟨B, hB⟩; exact ⟨B, List.mem_cons_of_mem _ hB⟩
   ·rintro ⟨B, hB⟩
    rcases List.mem_cons.1 hB with h | h
    ·exact absurd (congrArg Prod.fst h) hai
    ·exact ⟨B, h⟩
 ·rcases List.mem_cons.1 hq with rfl | hq
  ·exact hal'
  ·exact hV.2.1 q hq
 ·have h1 := hG.1.alloc (ca i s.ev) (ta i)
  rw [hT] at h1
  unfold OE
  rw [List.map_cons, List.cons_append, hT]
  exact h1
 ·rcases List.mem_cons.1 hq with rfl | hq
  ·exact hG.2.1
  ·exact hG.2.2 q hq
theorem sg_eff {o : Oper} (hal : al.contains ef = false) (hij : Nat.beq ef jy = false) (hi : ops[ef]? = some o)
  (h : ∀ (t0 a : Act) bs w, Has n l t0 → (∀ t, freeT ops t = true → a.eval (.tmp t) = t0.tmps.getD t undef) → GG w0 K lo ca ta Os Gs ⟨none, bs⟩ w → bs.Pairwise (fun p q => p.1 ≠ q.1) → (∀ j d, waitsFor ops ef j d = true → IG al ef jy lo ca ta Os Gs L ⟨none, bs⟩ j (a.eval (.tmp d)) w) →
   wpOp P ops Q ef (fun a' w' => ∃ v y, a' = a.put o.dst v ∧ (∀ d, o.dst = some d → v = y) ∧ St w0 (OE ca ta Os ⟨some y, bs⟩) (Gs (some y)) K w' ∧ SameX 0 (XB (OE ca ta Os ⟨none, bs⟩) (Gs none)) w w' ∧ (∀ b, XB (OE ca ta Os ⟨some y, bs⟩) (Gs (some y)) b → XB (OE ca ta Os ⟨none, bs⟩) (Gs none) b ∨ w.heap.size ≤ b) ∧ (∀ d, (ops[jy]?).bind (·.dst) = some d → a.eval (.tmp d) = y)) a w) : SG P n ops Q l w0 K lo al ef jy ca ta Os Gs L ef := fun t0 h0 s LB a w hF hG hV hs hc hr hD => by
 have hal' : ef ∉ al := fun h => by rw [List.contains_iff_mem.2 h] at hal; cases hal
 obtain ⟨ev, bs⟩ := s
 have hev : ev = none := by
  cases ev with
  | none => rfl
  | some v => have := hV.2.2.2.2 rfl; rw [hr.1] at this; cases this
 subst hev
 refine wpOp_mono ?_ (h t0 a bs w h0 hF hG hV.2.2.1 hD)
 rintro a' w' ⟨v, y, rfl, hvy, hSt, hsame, hX, hy⟩
 refine ⟨⟨some y, bs⟩, v, by rw [hi]; rfl, ⟨fun a ha => by rw [getD_set_ne false (fun e => hal' (by rw [e]; exact ha))]; exact hV.1 a ha, hV.2.1, hV.2.2.1, ?_⟩, ⟨hSt, Nat.le_trans hG.2.1 hsame.2.1, hG.2.2⟩, ⟨hsame, hX, fun q hq => hq, .inr ⟨rfl, y, rfl, hy⟩⟩, fun d hd => ⟨fun h => absurd h hal', fun _ => ?_, fun h => absurd hij (by rw [h, Nat.beq_refl]; decide), fun _ h => absurd rfl h⟩⟩
 ·rw [Array.getD_eq_getD_getElem?, Array.getElem?_setIfInBounds_self_of_lt (by rw [hs]; exact (Array.getElem?_eq_some_iff.1 hi).1)]
  exact ⟨fun _ => rfl, fun _ => rfl⟩
 ·rw [hi] at hd
  rw [hvy d hd]
theorem St.perm {O O' : Own} {G : Grows} {w : World} (h : St w0 O G K w) (hp : O.Perm O') : St w0 O' G K w where
 below := h.below
 own := fun p hp' => h.own p (hp.mem_iff.2 hp')
 dist := h.dist.perm hp (fun h => Ne.symm h)
 kept := fun q hq => ⟨(h.kept q hq).1, fun p hp' => (h.kept q hq).2 p (hp.mem_iff.2 hp')⟩
 rows := fun g hg => ⟨(h.rows g hg).1, fun b hb => ⟨fun p hp' => ((h.rows g hg).2 b hb).1 p (hp.mem_iff.2 hp'), ((h.rows g hg).2 b hb).2⟩⟩
 gdist := h.gdist
def dropF (ds : List Nat) : Fr → Fr
 | [] => []
 | p :: l => bif ds.contains p.1 then dropF ds l else p :: dropF ds l
theorem look_dropF {ds : List Nat} {t : Nat} {v : Value} : ∀ {l : Fr}, look (dropF ds l) t = some v → t ∉ ds → look l t = some v
 | [], h, _ => by cases h
 | p :: l, h, ht => by
  unfold dropF at h
  unfold look
  cases hc : ds.contains p.1 with
  | true =>
   rw [hc, cond_true] at h
   cases hb : Nat.beq p.1 t with
   | true =>
    rw [Nat.eq_of_beq_eq_true hb] at hc
    exact absurd (List.contains_iff_mem.1 hc) ht
   | false => rw [cond_false]; exact look_dropF h ht
  | false =>
   rw [hc, cond_false] at h
   unfold look at h
   cases hb : Nat.beq p.1 t with
   | true => rw [hb, cond_true] at h; rw [cond_true]; exact h
   | false => rw [hb, cond_false] at h; rw [cond_false]; exact look_dropF h ht
theorem look_dropF_not {ds : List Nat} {t : Nat} {v : Value} : ∀ {l : Fr}, look (dropF ds l) t = some v → t ∉ ds
 | [], h => by cases h
 | p :: l, h => by
  unfold dropF at h
  cases hc : ds.contains p.1 with
  | true => rw [hc, cond_true] at h; exact look_dropF_not h
  | false =>
   rw [hc, cond_false] at h
   unfold look at h
   cases hb : Nat.beq p.1 t with
   | true =>
    intro hm
    rw [← Nat.eq_of_beq_eq_true hb] at hm
    rw [List.contains_iff_mem.2 hm] at hc; cases hc
   | false => rw [hb, cond_false] at h; exact look_dropF_not h
def finL (al : List Nat) (ef jy lo : Nat) (X : Nat → Prop) (Bf : Nat → Nat) (y : Value) : Nat → List Asr → List Asr
 | _, [] => []
 | j, q :: L => (bif al.contains j then isV (.pointer (some ⟨Bf j, 0, none⟩)) else bif Nat.beq j ef then isV y else bif Nat.beq j jy then (fun v w => v = y ∧ AwS lo X q v w) else AwS lo X q) :: finL al ef jy lo X Bf y (j + 1) L
theorem atI_finL {X : Nat → Prop} {Bf : Nat → Nat} {y : Value} : ∀ (L : List Asr) (j i : Nat), i < L.length → atI (finL al ef jy lo X Bf y j L) i = (bif al.contains (i + j) then isV (.pointer (some ⟨Bf (i + j), 0, none⟩)) else bif Nat.beq (i + j) ef then isV y else bif Nat.beq (i + j) jy then (fun v w => v = y ∧ AwS lo X (atI L i) v w) else AwS lo X (atI L i))
 | [], j, i, h => by simp at h
 | q :: L, j, 0, h => by rw [Nat.zero_add]; rfl
 | q :: L, j, i + 1, h => by
  show atI (finL al ef jy lo X Bf y (j + 1) L) i = _
  rw [atI_finL L (j + 1) i (by simpa using h), show i + 1 + j = i + (j + 1) by omega]
  rfl
theorem cuts : ∀ (Bs : List Nat) (lo : Nat) (w : World), ∃ Ks : List (Nat × World), (∀ q ∈ Ks, lo ≤ q.1 ∧ Agree q.1 q.2 w ∧ ∀ B ∈ Bs, B < q.1 ∨ q.2.heap.size ≤ B) ∧ (∃ q ∈ Ks, q.2 = w) ∧ ∀ b, lo ≤ b → b < w.heap.size → b ∉ Bs → ∃ q ∈ Ks, q.1 ≤ b ∧ b < q.2.heap.size
 | [], lo, w => ⟨[(lo, w)], fun q hq => by
   simp only [List.mem_cons, List.not_mem_nil, or_false] at hq
   subst hq
   exact ⟨Nat.le_refl _, Agree.refl _ _, fun B hB => by cases hB⟩, ⟨(lo, w), List.mem_cons_self, rfl⟩, fun b h1 h2 _ => ⟨(lo, w), List.mem_cons_self, h1, h2⟩⟩
 | B :: Bs, lo, w => by
  by_cases hB : B < w.heap.size
  ·obtain ⟨A, hA, hA1⟩ := cut_world w (B := B) (lo := lo) (Nat.le_of_lt hB)
   obtain ⟨K1, k1, _, k2⟩ := cuts Bs lo A
   obtain ⟨K2, k3, ⟨q0, k5, k6⟩, k4⟩ := cuts Bs (max lo (B + 1)) w
   refine ⟨K1 ++ K2, fun q hq => ?_, ⟨q0, List.mem_append_right _ k5, k6⟩, fun b h1 h2 h3 => ?_⟩
   ·rcases List.mem_append.1 hq with hq | hq
    ·obtain ⟨e1, e2, e3⟩ := k1 q hq
     refine ⟨e1, e2.trans (hA1.mono e1), fun B' hB' => ?_⟩
     rcases List.mem_cons.1 hB' with rfl | hB'
     ·right; rw [← hA]; exact e2.1
     ·exact e3 B' hB'
    ·obtain ⟨e1, e2, e3⟩ := k3 q hq
     refine ⟨by omega, e2, fun B' hB' => ?_⟩
     rcases List.mem_cons.1 hB' with rfl | hB'
     ·left; omega
     ·exact e3 B' hB'
   ·have h4 : b ≠ B := fun e => h3 (by rw [e]; exact List.mem_cons_self)
    have h5 : b ∉ Bs := fun e => h3 (List.mem_cons_of_mem _ e)
    rcases Nat.lt_or_ge b B with h6 | h6
    ·obtain ⟨q, hq, h7⟩ := k2 b h1 (by omega) h5
     exact ⟨q, List.mem_append_left _ hq, h7⟩
    ·obtain ⟨q, hq, h7⟩ := k4 b (by omega) h2 h5
     exact ⟨q, List.mem_append_right _ hq, h7⟩
  ·obtain ⟨K1, k1, k5, k2⟩ := cuts Bs lo w
   refine ⟨K1, fun q hq => ?_, k5, fun b h1 h2 h3 => k2 b h1 h2 (fun e => h3 (List.mem_cons_of_mem _ e))⟩
   obtain ⟨e1, e2, e3⟩ := k1 q hq
   refine ⟨e1, e2, fun B' hB' => ?_⟩
   rcases List.mem_cons.1 hB' with rfl | hB'
   ·right; have := e2.1; omega
   ·exact e3 B' hB'
theorem St.more {O : Own} {G : Grows} {w : World} (h : St w0 O G K w) (Ks : List (Nat × World)) (hk : ∀ q ∈ Ks, Agree q.1 q.2 w ∧ (∀ p ∈ O, p.1 < q.1 ∨ q.2.heap.size ≤ p.1) ∧ ∀ g ∈ G, ∀ b, g.v.ownBlock = some b → b < q.1 ∨ q.2.heap.size ≤ b) : St w0 O G (Ks ++ K) w where
 below := h.below
 own := h.own
 dist := h.dist
 kept := fun q hq => by
  rcases List.mem_append.1 hq with hq | hq
  ·exact ⟨(hk q hq).1, (hk q hq).2.1⟩
  ·exact h.kept q hq
 rows := fun g hg => ⟨(h.rows g hg).1, fun b hb => ⟨((h.rows g hg).2 b hb).1, fun q hq => by
  rcases List.mem_append.1 hq with hq | hq
  ·exact (hk q hq).2.2 g hg b hb
  ·exact ((h.rows g hg).2 b hb).2 q hq⟩⟩
 gdist := h.gdist
theorem atI_len : ∀ {L : List Asr} {j : Nat}, L.length ≤ j → atI L j = anyA
 | [], _, _ => rfl
 | _ :: L, 0, h => by simp at h
 | _ :: L, j + 1, h => atI_len (L := L) (by simpa using h)
def BLS (P : Program) (n : Nat) (ops : Array Oper) (Q : Exit → Act → World → Prop) (l : Fr) (w0 : World) (K : List (Nat × World)) (lo : Nat) (al : List Nat) (ef jy : Nat) (ca : Nat → Option Value → List Value) (ta : Nat → TypeId) (Os : Option Value → Own) (Gs : Option Value → Grows) (Goal : List Asr → Prop) : Nat → List Asr → Nat → Prop
 | 0, Lr, _ => Goal Lr
 | m + 1, Lr, k => ∃ q, ((k ∈ al ∨ k = ef) → q = anyA) ∧ (NoAsr al ef (q :: Lr).reverse → SG P n ops Q l w0 K lo al ef jy ca ta Os Gs (q :: Lr).reverse k) ∧ BLS P n ops Q l w0 K lo al ef jy ca ta Os Gs Goal m (q :: Lr) (k + 1)
variable {Goal : List Asr → Prop}
theorem bls_nil {Lr : List Asr} {k : Nat} (h : Goal Lr) : BLS P n ops Q l w0 K lo al ef jy ca ta Os Gs Goal 0 Lr k := h
theorem bls_cons {m k : Nat} {Lr : List Asr} (k' : Nat) (hk : k + 1 = k') (hne : (al.contains k || Nat.beq k ef) = false) (q : Asr) (h : NoAsr al ef (q :: Lr).reverse → SG P n ops Q l w0 K lo al ef jy ca ta Os Gs (q :: Lr).reverse k) (hr : BLS P n ops Q l w0 K lo al ef jy ca ta Os Gs Goal m (q :: Lr) k') : BLS P n ops Q l w0 K lo al ef jy ca ta Os Gs Goal (m + 1) Lr k := by
 subst hk
 refine ⟨q, fun hc => ?_, h, hr⟩
 rw [Bool.or_eq_false_iff] at hne
 rcases hc with hc | hc
 ·rw [List.contains_iff_mem.2 hc] at hne; cases hne.1
 ·rw [hc, Nat.beq_refl] at hne; cases hne.2
theorem bls_any {m k : Nat} {Lr : List Asr} (k' : Nat) (hk : k + 1 = k') (h : SG P n ops Q l w0 K lo al ef jy ca ta Os Gs (anyA :: Lr).reverse k) (hr : BLS P n ops Q l w0 K lo al ef jy ca ta Os Gs Goal m (anyA :: Lr) k') : BLS P n ops Q l w0 K lo al ef jy ca ta Os Gs Goal (m + 1) Lr k := by
 subst hk; exact ⟨anyA, fun _ => rfl, fun _ => h, hr⟩
theorem bls_run (ht : tidyR ops n = true) : ∀ (m k : Nat) (Lr : List Asr), Lr.length = k → NoAsr al ef Lr.reverse → (∀ i, i < k → SG P n ops Q l w0 K lo al ef jy ca ta Os Gs Lr.reverse i) → BLS P n ops Q l w0 K lo al ef jy ca ta Os Gs Goal m Lr k →
  ∃ Lr', Lr'.length = k + m ∧ (∀ i, i < k + m → SG P n ops Q l w0 K lo al ef jy ca ta Os Gs Lr'.reverse i) ∧ Goal Lr'
 | 0, k, Lr, hl, hs, hg, h => ⟨Lr, hl, hg, h⟩
 | m + 1, k, Lr, hl, hs, hg, ⟨q, hq, hr, hn⟩ => by
  have hap : ∀ j, j < k → atI Lr.reverse j = atI (q :: Lr).reverse j := fun j hj => by rw [List.reverse_cons, atI_append (by simp; omega)]
  have hs' : NoAsr al ef (q :: Lr).reverse := fun j hj => by
   rcases Nat.lt_trichotomy j k with h1 | h1 | h1
   ·rw [← hap j h1]; exact hs j hj
   ·subst h1; rw [at_top hl]; exact hq hj
   ·exact atI_len (by simp; omega)
  obtain ⟨L', h1, h3, h4⟩ := bls_run ht m (k + 1) (q :: Lr) (by simp [hl]) hs' (fun i hi => by
   by_cases hik : i = k
   ·subst hik; exact hr hs'
   ·exact SG.ext ht (fun j hj => hap j (by omega)) (hg i (by omega))) hn
  exact ⟨L', by omega, fun i hi => h3 i (by omega), h4⟩
theorem fin_hasS {a : Act} {Kk : Fr → World → Prop} {G : Prop} : ∀ (os : List Oper) (L : List Asr) (l : Fr), (∀ i d, i < os.length → (os[i]?).bind (·.dst) = some d → atI L i (a.tmps.getD d undef) W) → (∀ i, i < os.length → (os[i]?).bind (·.dst) = none → ∃ v, atI L i v W) → a.tmps.size = n → a.defers = [] →
  (∀ t v, look l t = some v → (∀ o ∈ os, o.dst ≠ some t) → a.tmps.getD t undef = v) → (hK : ∀ l', Kk l' W → Has n l' a → G) → FinI os L l Kk W → G
 | [], L, l, hI, _, hs, hd, hl, hK, h => hK l h ⟨hs, hd, fun t v hv => hl t v hv (fun o ho => by cases ho)⟩
 | o :: os, L, l, hI, hN, hs, hd, hl, hK, h => by
  cases hod : o.dst with
  | none =>
   obtain ⟨v, hv⟩ := hN 0 (by simp) (by simp [hod])
   have h1 := h v hv
   rw [hod] at h1
   refine fin_hasS os L.tail _ (fun i e hi he => by rw [atI_tail]; exact hI (i + 1) e (by simpa using hi) (by simpa using he)) (fun i hi he => by rw [atI_tail]; exact hN (i + 1) (by simpa using hi) (by simpa using he)) hs hd ?_ hK h1
   intro t v hv hno
   refine hl t v hv (fun o' ho' => ?_)
   rcases List.mem_cons.1 ho' with rfl | ho'
   ·rw [hod]; simp
   ·exact hno o' ho'
  | some d =>
   have h0 := hI 0 d (by simp) (by simp [hod])
   have h1 := h _ h0
   refine fin_hasS os L.tail _ (fun i e hi he => by rw [atI_tail]; exact hI (i + 1) e (by simpa using hi) (by simpa using he)) (fun i hi he => by rw [atI_tail]; exact hN (i + 1) (by simpa using hi) (by simpa using he)) hs hd ?_ hK h1
   intro t v hv hno
   rw [hod] at hv
   simp only [List.cons_append, List.nil_append] at hv
   unfold look at hv
   cases hb : Nat.beq d t with
   | true =>
    simp only [hb, cond_true, Option.some.injEq] at hv
    rw [← Nat.eq_of_beq_eq_true hb]; exact hv
   | false =>
    simp only [hb, cond_false] at hv
    refine hl t v hv (fun o' ho' => ?_)
    rcases List.mem_cons.1 ho' with rfl | ho'
    ·rw [hod]; intro e; rw [Option.some.inj e, Nat.beq_refl] at hb; cases hb
    ·exact hno o' ho'
def bAt (bs : List (Nat × Nat)) (a : Nat) : Nat := ((bs.find? (fun q => Nat.beq q.1 a)).map (·.2)).getD 0
theorem bAt_mem : ∀ {bs : List (Nat × Nat)} {a : Nat}, (∃ B, (a, B) ∈ bs) → (a, bAt bs a) ∈ bs
 | [], _, ⟨B, h⟩ => by cases h
 | q :: bs, a, ⟨B, h⟩ => by
  unfold bAt
  rw [List.find?_cons]
  cases hb : Nat.beq q.1 a with
  | true =>
   have := Nat.eq_of_beq_eq_true hb
   subst this
   exact List.mem_cons_self
  | false =>
   rcases List.mem_cons.1 h with h | h
   ·rw [← h, Nat.beq_refl] at hb; cases hb
   ·exact List.mem_cons_of_mem _ (bAt_mem ⟨B, h⟩)
theorem bAt_uniq {bs : List (Nat × Nat)} (hp : bs.Pairwise (fun p q => p.1 ≠ q.1)) {p q : Nat × Nat} (h1 : p ∈ bs) (h2 : q ∈ bs) (he : p.1 = q.1) : p = q := by
 induction hp with
 | nil => cases h1
 | cons ha hb ih =>
  rcases List.mem_cons.1 h1 with h3 | h3 <;> rcases List.mem_cons.1 h2 with h4 | h4
  ·rw [h3, h4]
  ·subst h3; exact absurd he (ha _ h4)
  ·subst h4; exact absurd he.symm (ha _ h3)
  ·exact ih h3 h4
theorem regS {id k : Nat} {ds : List Nat} (hm : P.follows .mixedOrders = true) (hlo : lo = W.heap.size) (hS : St w0 (Os none) (Gs none) K W) (hk : Nat.blt k os.length = true) (htl : tailT os.toArray k = true) (ht : tidyR os.toArray n = true) (hal : al.all (fun a => Nat.blt a k) = true) (hnd : al.Nodup) (hea : al.contains ef = false)
  (evE : Value → Option Value) (hev : (Nat.blt ef k = true ∧ evE = some) ∨ (Nat.ble os.length ef = true ∧ Nat.ble os.length jy = true ∧ evE = fun _ => none)) (hdst : (List.range k).all (fun j => Nat.beq j ef || ((os.toArray[j]?).bind (·.dst)).isSome) = true) (hds : (os.drop k).all (fun o => match o.dst with | some d => ds.contains d | none => true) = true)
  (h : BLS P n os.toArray Q l w0 K lo al ef jy ca ta Os Gs (fun Lr => ∀ (Bf : Nat → Nat) (y : Value) (W' : World) (Ks : List (Nat × World)), W.heap.size ≤ W'.heap.size → (∀ q ∈ Ks, lo ≤ q.1) → St w0 (al.map (fun a => (Bf a, ca a (evE y), ta a)) ++ Os (evE y)) (Gs (evE y)) (Ks ++ K) W' →
   (∀ {O2 G2 K2 W2}, St w0 O2 G2 K2 W2 → (∀ q ∈ Ks, q ∈ K2) → SameX lo (XB (al.map (fun a => (Bf a, ca a (evE y), ta a)) ++ Os (evE y)) (Gs (evE y))) W' W2) →
   FinI (os.take k) (finL al ef jy lo (XB (al.map (fun a => (Bf a, ca a (evE y), ta a)) ++ Os (evE y)) (Gs (evE y))) Bf y 0 Lr.reverse) (dropF ds l) (fun l' W' => OpsF P n os.toArray Q (os.drop k) l' W') W') k [] 0) : CodeF P n (.region id os.toArray true) Q l W := by
 obtain ⟨Lr, h1, h2, hfin⟩ := bls_run ht k 0 [] rfl (fun j _ => by rfl) (fun i hi => by omega) h
 rw [Nat.zero_add] at h1 h2
 have hk' : k < os.length := Nat.lt_of_lt_of_le (Nat.lt_succ_self _) (Nat.le_of_ble_eq_true hk)
 have hal' : ∀ a ∈ al, a < k := fun a ha => Nat.lt_of_lt_of_le (Nat.lt_succ_self _) (Nat.le_of_ble_eq_true (List.all_eq_true.1 hal a ha))
 have hea' : ef ∉ al := fun h => by rw [List.contains_iff_mem.2 h] at hea; cases hea
 intro a ha
 refine wp_region_any hm (region_ghost (t0 := a.tmps) (d0 := a.defers) (V := VG al ef) (I := IG al ef jy lo ca ta Os Gs Lr.reverse) (G := GG w0 K lo ca ta Os Gs) (k := k) (by simpa using hk') htl (by rw [ha.size]; exact ht) (fun i hi => (h2 i hi).step a ha) ?_ _ ⟨none, []⟩ _ _ _ (by simp) (count_rep _) (fun j hj => by rw [Array.getD_eq_getD_getElem?, Array.getElem?_replicate] at hj; split at hj <;> simp at hj) (fun i _ => by rw [Array.getD_eq_getD_getElem?, Array.getElem?_replicate]; split <;> rfl) ⟨rfl, rfl, fun _ _ => rfl, ⟨by unfold OE; exact hS.drew, by rw [hlo]; exact Nat.le_refl _, (fun q hq => by cases hq)⟩, ⟨fun a _ => ?_, (fun q hq => by cases hq), List.Pairwise.nil, ?_⟩, fun i d _ hj => ?_⟩)
 ·intro s LB a' W' hR hdone hnot
  obtain ⟨hG, hG2, hG3⟩ := hR.glob
  obtain ⟨v1, v2, v3, v4⟩ := hR.cons
  obtain ⟨ev, bs⟩ := s
  have hall : ∀ x ∈ al, (x, bAt bs x) ∈ bs := fun x hx => bAt_mem ((v1 x hx).1 (hdone x (hal' x hx)))
  obtain ⟨y, hy⟩ : ∃ y, ev = evE y := by
   rcases hev with ⟨e1, e2⟩ | ⟨e1, e3, e2⟩
   ·have h3 : ev.isSome = true := v4.1 (hdone ef (Nat.lt_of_lt_of_le (Nat.lt_succ_self _) (Nat.le_of_ble_eq_true e1)))
    obtain ⟨y, hy⟩ := Option.isSome_iff_exists.1 h3
    exact ⟨y, by rw [hy, e2]⟩
   ·refine ⟨undef, ?_⟩
    rw [e2]
    have h3 := hnot ef (by have := Nat.le_of_ble_eq_true e1; omega)
    cases ev with
    | none => rfl
    | some v => have := v4.2 rfl; rw [h3] at this; cases this
  subst hy
  have hperm : bs.Perm (al.map (fun x => (x, bAt bs x))) := by
   refine (List.perm_ext_iff_of_nodup (v3.imp (fun h e => h (by rw [e]))) ?_).2 fun q => ?_
   ·refine List.Pairwise.map _ (fun x y (hxy : x ≠ y) => ?_) hnd
    intro e; exact hxy (congrArg Prod.fst e)
   ·constructor
    ·intro hq
     have h3 := hall q.1 (v2 q hq)
     have h4 := bAt_uniq v3 hq h3 rfl
     rw [h4]
     exact List.mem_map.2 ⟨q.1, v2 q hq, rfl⟩
    ·intro hq
     obtain ⟨x, hx, rfl⟩ := List.mem_map.1 hq
     exact hall x hx
  have hO : (OE ca ta Os ⟨evE y, bs⟩).Perm (al.map (fun a => (bAt bs a, ca a (evE y), ta a)) ++ Os (evE y)) := by
   unfold OE
   refine List.Perm.append_right _ ?_
   have := hperm.map (fun q : Nat × Nat => (q.2, ca q.1 (evE y), ta q.1))
   rw [List.map_map] at this
   exact this
  have hG' := hG.perm hO
  have hX : ∀ b, XB (OE ca ta Os ⟨evE y, bs⟩) (Gs (evE y)) b ↔ XB (al.map (fun a => (bAt bs a, ca a (evE y), ta a)) ++ Os (evE y)) (Gs (evE y)) b := fun b => by
   unfold XB
   constructor
   ·rintro (⟨p, hp, e⟩ | h); exact .inl ⟨p, hO.mem_iff.1 hp, e⟩; exact .inr h
   ·rintro (⟨p, hp, e⟩ | h); exact .inl ⟨p, hO.mem_iff.2 hp, e⟩; exact .inr h
  obtain ⟨Ks, c1, ⟨qw, c2, c3⟩, c4⟩ := cuts (((al.map (fun a => (bAt bs a, ca a (evE y), ta a)) ++ Os (evE y)).map (·.1)) ++ (Gs (evE y)).filterMap (fun g => g.v.ownBlock)) lo W'
  have hG4 := hG'.more Ks (fun q hq => ⟨(c1 q hq).2.1, fun p hp => (c1 q hq).2.2 p.1 (List.mem_append_left _ (List.mem_map.2 ⟨p, hp, rfl⟩)), fun g hg b hb => (c1 q hq).2.2 b (List.mem_append_right _ (List.mem_filterMap.2 ⟨g, hg, hb⟩))⟩)
  have hcov : ∀ {O2 G2 K2 W2}, St w0 O2 G2 K2 W2 → (∀ q ∈ Ks, q ∈ K2) → SameX lo (XB (al.map (fun a => (bAt bs a, ca a (evE y), ta a)) ++ Os (evE y)) (Gs (evE y))) W' W2 := fun {O2 G2 K2 W2} h2 hq => by
   refine ⟨⟨h2.below.os.trans hG.below.os.symm, h2.below.tape.trans hG.below.tape.symm, h2.below.output.trans hG.below.output.symm⟩, ?_, fun b b1 b2 b3 => ?_⟩
   ·have := (h2.kept qw (hq qw c2)).1.1; rw [c3] at this; exact this
   ·obtain ⟨q, q1, q2, q3⟩ := c4 b b1 b2 (fun hb => b3 (by
     rcases List.mem_append.1 hb with hb | hb
     ·obtain ⟨p, hp, rfl⟩ := List.mem_map.1 hb
      exact .inl ⟨p, hp, rfl⟩
     ·obtain ⟨g, hg, e⟩ := List.mem_filterMap.1 hb
      exact .inr ⟨g, hg, e⟩))
    exact ((h2.kept q (hq q q1)).1.2 b q2 q3).trans ((c1 q q1).2.1.2 b q2 q3).symm
  have htk : (os.take k).length = k := by simp; omega
  refine fin_hasS (os.take k) (finL al ef jy lo (XB (al.map (fun a => (bAt bs a, ca a (evE y), ta a)) ++ Os (evE y)) (Gs (evE y))) (bAt bs) y 0 Lr.reverse) (dropF ds l) (fun i d hi hd' => ?_) (fun i hi hd' => ?_) (hR.size.trans ha.size) (hR.defers.trans ha.defers) ?_ (fun l' h ha' => ?_) (hfin (bAt bs) y W' Ks (by rw [← hlo]; exact hG2) (fun q hq => (c1 q hq).1) hG4 hcov)
  ·have hik : i < k := by omega
   have hd2 : (os.toArray[i]?).bind (·.dst) = some d := by rw [List.getElem?_take, if_pos hik] at hd'; simpa using hd'
   obtain ⟨i1, i2, i3, i4⟩ := hR.done i d hd2 (hdone i hik)
   rw [atI_finL Lr.reverse 0 i (by simp; omega), Nat.add_zero]
   cases hc1 : al.contains i with
   | true =>
    rw [cond_true]
    obtain ⟨B, hB, e⟩ := i1 (List.contains_iff_mem.1 hc1)
    have := bAt_uniq v3 hB (hall i (List.contains_iff_mem.1 hc1)) rfl
    show _ = _
    rw [e, show B = bAt bs i from congrArg Prod.snd this]
   | false =>
    rw [cond_false]
    have hni : i ∉ al := fun hm' => by rw [List.contains_iff_mem.2 hm'] at hc1; cases hc1
    cases hc2 : Nat.beq i ef with
    | true =>
     rw [cond_true]
     have h5 := i2 (Nat.eq_of_beq_eq_true hc2)
     rcases hev with ⟨e1, e2⟩ | ⟨e1, e3, e2⟩
     ·rw [e2] at h5
      exact (Option.some.inj h5).symm
     ·rw [e2] at h5; cases h5
    | false =>
     rw [cond_false]
     have hne : i ≠ ef := fun e => by rw [e, Nat.beq_refl] at hc2; cases hc2
     have h6 : AwS lo (XB (al.map (fun a => (bAt bs a, ca a (evE y), ta a)) ++ Os (evE y)) (Gs (evE y))) (atI Lr.reverse i) (a'.tmps.getD d undef) W' := fun w2 hw2 => i4 hni hne w2 ⟨hw2.1, hw2.2.1, fun b b1 b2 b3 => hw2.2.2 b b1 b2 (fun hb => b3 ((hX b).2 hb))⟩
     cases hc3 : Nat.beq i jy with
     | true =>
      rw [cond_true]
      refine ⟨?_, h6⟩
      rcases hev with ⟨e1, e2⟩ | ⟨e1, e3, e2⟩
      ·exact i3 (Nat.eq_of_beq_eq_true hc3) y (by rw [e2])
      ·have := Nat.le_of_ble_eq_true e3
       have := Nat.eq_of_beq_eq_true hc3
       omega
     | false => rw [cond_false]; exact h6
  ·have hik : i < k := by omega
   have h3 := List.all_eq_true.1 hdst i (List.mem_range.2 hik)
   rw [Bool.or_eq_true] at h3
   have hd2 : (os.toArray[i]?).bind (·.dst) = none := by rw [List.getElem?_take, if_pos hik] at hd'; simpa using hd'
   rcases h3 with h3 | h3
   ·rw [atI_finL Lr.reverse 0 i (by simp; omega), Nat.add_zero]
    have hc1 : al.contains i = false := by rw [Nat.eq_of_beq_eq_true h3]; exact hea
    rw [hc1, cond_false, h3, cond_true]
    exact ⟨y, rfl⟩
   ·rw [hd2] at h3; cases h3
  ·intro t v hv hno
   have hl := look_dropF hv (look_dropF_not hv)
   have hnt := look_dropF_not hv
   rw [hR.frame t ?_]
   ·exact ha.at_ t v hl
   ·unfold freeT; rw [Array.all_eq_true']; intro o' ho'
    have ho2 : o' ∈ os := by simpa using ho'
    rw [← List.take_append_drop k os] at ho2
    rcases List.mem_append.1 ho2 with ho2 | ho2
    ·simpa using hno o' ho2
    ·have h5 := List.all_eq_true.1 hds o' ho2
     cases hx : o'.dst with
     | none => simp
     | some d =>
      rw [hx] at h5
      simp
      intro e; subst e
      exact hnt (List.contains_iff_mem.1 h5)
  ·have := h a' ha'
   simpa using this
 ·rw [Array.getD_eq_getD_getElem?, Array.getElem?_replicate]
  constructor
  ·intro h3; split at h3 <;> simp at h3
  ·rintro ⟨B, hB⟩; cases hB
 ·rw [Array.getD_eq_getD_getElem?, Array.getElem?_replicate]
  constructor
  ·intro h3; split at h3 <;> simp at h3
  ·intro h3; cases h3
 ·rw [Array.getD_eq_getD_getElem?, Array.getElem?_replicate] at hj
  split at hj <;> simp at hj
end
end Go.Proofs.YtgjojhmninbkoaaDoor
namespace Go.Proofs.YtgjojhmninbkoaaDoor
open Go Go.RowKit
section
variable {P : Program} {n : Nat} {Q : Exit → Act → World → Prop} {l : Fr} {w0 W : World} {ops : Array Oper} {os : List Oper} {K : List (Nat × World)} {L : List Asr} {i : Nat} {O : Own} {G : Grows}
variable {al : List Nat} {zc : Nat → List Value} {ta : Nat → TypeId} {lo ef jy : Nat} {d : Nat} {ty : TypeId} {pos : String} {aft_ : Array Edge} {v : Value}
def caNo (zc : Nat → List Value) (a : Nat) : Option Value → List Value := fun _ => zc a
def caSt (zc : Nat → List Value) (a0 a : Nat) : Option Value → List Value
 | none => zc a
 | some y => bif Nat.beq a a0 then splice (zc a) 0 y.cells.toList else zc a
theorem caSt_at (zc : Nat → List Value) (a0 : Nat) (y : Value) : caSt zc a0 a0 (some y) = splice (zc a0) 0 y.cells.toList := by
 show (bif Nat.beq a0 a0 then splice (zc a0) 0 y.cells.toList else zc a0) = _
 rw [Nat.beq_refl, cond_true]
theorem caSt_ne (zc : Nat → List Value) {a0 a : Nat} (y : Value) (h : Nat.beq a a0 = false) : caSt zc a0 a (some y) = zc a := by
 show (bif Nat.beq a a0 then splice (zc a) 0 y.cells.toList else zc a) = _
 rw [h, cond_false]
def osNo (O : Own) : Option Value → Own := fun _ => O
def gsNo (G : Grows) : Option Value → Grows := fun _ => G
def osSt (O : Own) (j jx B : Nat) (cs vs : List Value) (U : TypeId) : Option Value → Own
 | none => O
 | some _ => O.set j (B, splice cs jx vs, U)
theorem setMany_other {B b : Nat} (hb : b ≠ B) : ∀ (vs : List Value) (j : Nat) (w : World), (setMany w B j vs).heap[b]? = w.heap[b]?
 | [], _, _ => rfl
 | v :: vs, j, w => by unfold setMany; rw [setMany_other hb vs (j + 1)]; exact Below.heap_setCell _ _ _ _ hb
theorem setMany_rest : ∀ (vs : List Value) (B j : Nat) (w : World), ((setMany w B j vs).os = w.os ∧ (setMany w B j vs).tape = w.tape ∧ (setMany w B j vs).output = w.output) ∧ (setMany w B j vs).heap.size = w.heap.size
 | [], _, _, _ => ⟨⟨rfl, rfl, rfl⟩, rfl⟩
 | v :: vs, B, j, w => by
  unfold setMany
  obtain ⟨⟨h1, h2, h3⟩, h4⟩ := setMany_rest vs B (j + 1) (w.setCell ⟨B, j, none⟩ v)
  exact ⟨⟨h1, h2, h3⟩, h4.trans (by simp [World.setCell])⟩
theorem setMany_sameX {B j : Nat} {vs : List Value} {w : World} {X : Nat → Prop} (hX : X B) : SameX 0 X w (setMany w B j vs) :=
 ⟨(setMany_rest vs B j w).1, Nat.le_of_eq (setMany_rest vs B j w).2.symm, fun b _ _ hb => setMany_other (fun e => hb (by rw [e]; exact hX)) vs j w⟩
theorem storeAt_many {T : TypeId} {B j m : Nat} {vs cs : List Value} {U : TypeId} {w : World} {y : Value} (hsz : ∀ w, (sizeOf T).run P w = .ok m w) (hc : y.cells = vs.toArray) (hl : vs.length = m) (h1 : vs.all Value.oneCell' = true) (hB : w.heap[B]? = some (.cells cs.toArray U (0, 0))) (hj : j + m ≤ cs.length) :
  (Instr.storeAt T (.pointer (some ⟨B, j, none⟩)) y).run P w = .ok () (setMany w B j vs) := by
 subst hl
 have hst := run_storeMany (P := P) vs 0 j w cs hB (by omega) (fun u hu => List.all_eq_true.1 h1 u hu)
 rw [Nat.add_zero] at hst
 simp [Instr.storeAt, Instr.sureAddr, storeVar, hsz, hc, hst]
theorem wp_store {o : Oper} {a : Act} {w w' : World} {T : TypeId} {x y : Operand} {K' : Act → World → Prop} (hi : ops[i]? = some o) (ho : o.op = .store T x y) (hod : o.dst = none) (hog : o.guard = none) (hr : (Instr.storeAt T (a.eval x) (a.eval y)).run P w = .ok () w') (hK : K' a w') : wpOp P ops Q i K' a w := by
 unfold wpOp
 simp only [hi, wanted_free hog, if_true]
 refine .inl ?_
 obtain ⟨dst, op, ty, pos, aft, gd⟩ := o
 simp only at ho hod
 subst ho; subst hod
 unfold Oper.wp execOp
 simp only [Sem.run_bind, hr, Result.andThen_ok, Sem.run_pure, Oper.upon_skip]
 exact hK
theorem eff_stA {T : TypeId} {tx tyy m : Nat} {py : Asr} (a0 : Nat) (hal : al.contains ef = false) (hij : Nat.beq ef jy = false) (hi : ops[ef]? = some ⟨none, .store T (.tmp tx) (.tmp tyy), ty, pos, aft_, none⟩) (hjy : (ops[jy]?).bind (·.dst) = some tyy)
  (hwx : waitsFor ops ef a0 tx = true) (ha0 : al.contains a0 = true) (hwy : waitsFor ops ef jy tyy = true) (hja : al.contains jy = false) (hLy : atI L jy = py) (hsz : ∀ w, (sizeOf T).run P w = .ok m w) (hzl : Nat.ble m (zc a0).length = true) (hpy : ∀ v w, py v w → ∃ vs : List Value, v.cells = vs.toArray ∧ vs.length = m ∧ vs.all Value.oneCell' = true) : SG P n ops Q l w0 K lo al ef jy (caSt zc a0) ta (osNo O) (gsNo G) L ef :=
 sg_eff hal hij hi fun t0 a bs w h0 hF hG hbs hD => by
  obtain ⟨B, hB, ex⟩ := (hD a0 tx hwx).1 (List.contains_iff_mem.1 ha0)
  have hy := ((hD jy tyy hwy).2.2.2 (fun h => by rw [List.contains_iff_mem.2 h] at hja; cases hja) (fun e => by rw [e, Nat.beq_refl] at hij; cases hij)).here
  rw [hLy] at hy
  obtain ⟨vs, hc, hl, h1⟩ := hpy _ _ hy
  obtain ⟨k, hk⟩ := List.getElem?_of_mem hB
  have hkl := (List.getElem?_eq_some_iff.1 hk).1
  have hOk : (OE (caSt zc a0) ta (osNo O) ⟨none, bs⟩)[k]? = some (B, zc a0, ta a0) := by
   unfold OE
   rw [List.getElem?_append_left (by simpa using hkl), List.getElem?_map, hk]
   rfl
  have hXB : XB (OE (caSt zc a0) ta (osNo O) ⟨none, bs⟩) (gsNo G none) B := .inl ⟨_, List.mem_of_getElem? hOk, rfl⟩
  have hrun := storeAt_many (P := P) hsz hc hl h1 (hG.1.at_ k hOk) (j := 0) (by have := Nat.le_of_ble_eq_true hzl; omega)
  have hO' : OE (caSt zc a0) ta (osNo O) ⟨some (a.eval (.tmp tyy)), bs⟩ = (OE (caSt zc a0) ta (osNo O) ⟨none, bs⟩).set k (B, splice (zc a0) 0 vs, ta a0) := by
   unfold OE
   rw [List.set_append_left _ _ (by simpa using hkl)]
   congr 1
   apply List.ext_getElem?
   intro j
   rw [List.getElem?_set, List.getElem?_map, List.getElem?_map]
   by_cases hj : k = j
   ·subst hj
    rw [if_pos rfl, hk, if_pos (by simpa using hkl)]
    show some (B, caSt zc a0 a0 (some (a.eval (.tmp tyy))), ta a0) = _
    rw [caSt_at, hc]
   ·rw [if_neg hj]
    cases hq : bs[j]? with
    | none => rfl
    | some q =>
     have hne : q.1 ≠ a0 := fun e => by
      have hjl := (List.getElem?_eq_some_iff.1 hq).1
      have e1 := (List.getElem?_eq_some_iff.1 hq).2
      have e2 := (List.getElem?_eq_some_iff.1 hk).2
      have hp := List.pairwise_iff_getElem.1 hbs
      rcases Nat.lt_or_ge j k with h | h
      ·have := hp j k hjl hkl h; rw [e1, e2] at this; exact this e
      ·have := hp k j hkl hjl (by omega); rw [e1, e2] at this; exact this e.symm
     have hb : Nat.beq q.1 a0 = false := by
      cases hb : Nat.beq q.1 a0 with
      | true => exact absurd (Nat.eq_of_beq_eq_true hb) hne
      | false => rfl
     show some (q.2, caSt zc a0 q.1 (some (a.eval (.tmp tyy))), ta q.1) = some (q.2, caSt zc a0 q.1 none, ta q.1)
     rw [caSt_ne _ _ hb]
     rfl
  refine wp_store hi rfl rfl rfl (by rw [ex]; exact hrun) ⟨undef, a.eval (.tmp tyy), rfl, (fun d hd => by cases hd), ?_, setMany_sameX hXB, ?_, fun d hd => ?_⟩
  ·rw [hO']
   exact hG.1.setMany k vs 0 hOk
  ·rintro b (⟨p, hp, rfl⟩ | h)
   ·rw [hO'] at hp
    rcases List.mem_or_eq_of_mem_set hp with hp | rfl
    ·exact .inl (.inl ⟨p, hp, rfl⟩)
    ·exact .inl hXB
   ·exact .inl (.inr h)
  ·rw [hjy] at hd; cases hd; rfl
theorem eff_stO {T U : TypeId} {x y : Operand} {B m : Nat} {cs vs : List Value} (j jx : Nat) (li : Fr) (hal : al.contains ef = false) (hij : Nat.beq ef jy = false) (hi : ops[ef]? = some ⟨none, .store T x y, ty, pos, aft_, none⟩) (hjn : (ops[jy]?).isNone = true) (hNo : NoAsr al ef L) (hli : AllO n ops l L ef li) (hx : evL li x = some (.pointer (some ⟨B, jx, none⟩))) (hy : evL li y = some v)
  (hO : O[j]? = some (B, cs, U)) (hsz : ∀ w, (sizeOf T).run P w = .ok m w) (hc : v.cells = vs.toArray) (hl : vs.length = m) (h1 : vs.all Value.oneCell' = true) (hjm : Nat.ble (jx + m) cs.length = true) : SG P n ops Q l w0 K lo al ef jy (caNo zc) ta (osSt O j jx B cs vs U) (gsNo G) L ef :=
 sg_eff hal hij hi fun t0 a bs w h0 hF hG hbs hD => by
  have hD' := deps_has h0 hF hD (fun j d _ hj => hNo j hj)
  have ex := allO_has h0 hF hD' hli x _ hx
  have ey := allO_has h0 hF hD' hli y _ hy
  have hOk : (OE (caNo zc) ta (osSt O j jx B cs vs U) ⟨none, bs⟩)[bs.length + j]? = some (B, cs, U) := by
   unfold OE
   rw [List.getElem?_append_right (by simp)]
   simpa [osSt] using hO
  have hXB : XB (OE (caNo zc) ta (osSt O j jx B cs vs U) ⟨none, bs⟩) (gsNo G none) B := .inl ⟨_, List.mem_of_getElem? hOk, rfl⟩
  have hrun := storeAt_many (P := P) hsz hc hl h1 (hG.1.at_ _ hOk) (j := jx) (Nat.le_of_ble_eq_true hjm)
  have hO' : OE (caNo zc) ta (osSt O j jx B cs vs U) ⟨some undef, bs⟩ = (OE (caNo zc) ta (osSt O j jx B cs vs U) ⟨none, bs⟩).set (bs.length + j) (B, splice cs jx vs, U) := by
   unfold OE
   rw [List.set_append_right _ _ (by simp)]
   congr 1
   simp [osSt]
  refine wp_store hi rfl rfl rfl (by rw [ex, ey]; exact hrun) ⟨undef, undef, rfl, (fun d hd => by cases hd), ?_, setMany_sameX hXB, ?_, fun d hd => ?_⟩
  ·rw [hO']
   exact hG.1.setMany _ vs jx hOk
  ·rintro b (⟨p, hp, rfl⟩ | h)
   ·rw [hO'] at hp
    rcases List.mem_or_eq_of_mem_set hp with hp | rfl
    ·exact .inl (.inl ⟨p, hp, rfl⟩)
    ·exact .inl hXB
   ·exact .inl (.inr h)
  ·cases hjy : ops[jy]? with
   | none => rw [hjy] at hd; cases hd
   | some o => rw [hjy] at hjn; cases hjn
end
end Go.Proofs.YtgjojhmninbkoaaDoor
namespace Go.Proofs.YtgjojhmninbkoaaDoor
open Go Go.RowKit
theorem ownsRow_sl {w : World} {base size n : Nat} {e : TypeId} {v : Value} {xs : List Value} (h : w.ownsRow base e size v n xs) : ∃ a c, v = .slice a n c ∧ n ≤ c := by
 rcases h.2 with ⟨rfl, rfl⟩ | ⟨g, cap, cur, rfl, _, _, hn, _⟩
 ·exact ⟨none, 0, rfl, Nat.le_refl _⟩
 ·exact ⟨_, cap, rfl, hn⟩
theorem ownsRow_at {w : World} {base size n : Nat} {e : TypeId} {v : Value} {xs : List Value} (h : w.ownsRow base e size v n xs) (hn : 0 < n) : ∃ b c, v = .slice (some ⟨b, 0, none⟩) n c ∧ base ≤ b := by
 rcases h.2 with ⟨rfl, rfl⟩ | ⟨g, cap, cur, rfl, hb, _, _, _⟩
 ·omega
 ·exact ⟨_, cap, rfl, hb⟩
theorem ownsRow_base {w : World} {base base' size n : Nat} {e : TypeId} {v : Value} {xs : List Value} (h : w.ownsRow base e size v n xs) (hb : base' ≤ base) : w.ownsRow base' e size v n xs :=
 ⟨h.1, h.2.imp id fun ⟨g, cap, cur, e, hg, k⟩ => ⟨g, cap, cur, e, Nat.le_trans hb hg, k⟩⟩
theorem ownsRow_agree {w W : World} {lo size n : Nat} {e : TypeId} {v : Value} {xs : List Value} (h : w.ownsRow lo e size v n xs) (hg : Agree lo w W) : W.ownsRow lo e size v n xs := by
 refine ⟨h.1, ?_⟩
 rcases h.2 with h2 | ⟨g, cap, cur, rfl, hb, hh, k⟩
 ·exact .inl h2
 ·exact .inr ⟨g, cap, cur, rfl, hb, (hg.2 g hb (lt_of_heap hh)).trans hh, k⟩
theorem ownsRow_cells {w : World} {base size n : Nat} {e : TypeId} {a : Option Addr} {c : Nat} {xs : List Value} (h : w.ownsRow base e size (.slice a n c) n xs) : (a = none ∧ n = 0) ∨ ∃ b, a = some ⟨b, 0, none⟩ ∧ base ≤ b ∧ ∀ (j : Nat) u, xs[j]? = some u → w.cell? ⟨b, j, none⟩ = some u := by
 rcases h.2 with ⟨e1, e2⟩ | ⟨g, cap, cur, e1, hb, hh, hn, hm, hs, ht⟩
 ·cases e1; exact .inl ⟨rfl, e2⟩
 ·cases e1
  refine .inr ⟨g, rfl, hb, fun j u hj => ?_⟩
  rw [← ht, List.getElem?_take] at hj
  split at hj
  ·simp only [World.cell?, hh]
   simpa using hj
  ·cases hj
theorem castL {os : List Oper} {L L' : List Asr} {l : Fr} {K : Fr → World → Prop} {W : World} (h : L = L') (k : FinI os L' l K W) : FinI os L l K W := h ▸ k
theorem fin_sV {os : List Oper} {L : List Asr} {l : Fr} {W : World} {lo : Nat} {X : Nat → Prop} {c : Value} {K : Fr → World → Prop} {dst : Nat} {op : Op} {ty : TypeId} {pos : String} {aft : Array Edge} {g : Option (Nat × Bool)} (h : FinI os L ((dst, c) :: l) K W) : FinI (⟨some dst, op, ty, pos, aft, g⟩ :: os) (AwS lo X (isV c) :: L) l K W := fun v hv => by
 have : v = c := hv.here
 subst this; exact h
theorem fin_0 {os : List Oper} {L : List Asr} {l : Fr} {W : World} {p : Asr} {K : Fr → World → Prop} {op : Op} {ty : TypeId} {pos : String} {aft : Array Edge} {g : Option (Nat × Bool)} (h : FinI os L l K W) : FinI (⟨none, op, ty, pos, aft, g⟩ :: os) (p :: L) l K W := fun _ _ => h
theorem osSt_at {O : Own} {i j jx B : Nat} {cs vs : List Value} {U : TypeId} {ev : Option Value} {q : Nat × List Value × TypeId} (h : O[i]? = some q) (hij : Nat.beq i j = false) : (osSt O j jx B cs vs U ev)[i]? = some q := by
 cases ev with
 | none => exact h
 | some y =>
  have : j ≠ i := fun e => by rw [e, Nat.beq_refl] at hij; cases hij
  show (O.set j _)[i]? = _
  rw [List.getElem?_set, if_neg this]; exact h
section
variable {w0 W : World} {O : Own} {G : Grows} {K : List (Nat × World)}
theorem St.castO {O' : Own} (h : St w0 O G K W) (e : O = O') : St w0 O' G K W := e ▸ h
theorem St.castG {G' : Grows} (h : St w0 O G K W) (e : G = G') : St w0 O G' K W := e ▸ h
def Held (w0 : World) (Kk : List (Nat × World)) (p : World → Prop) : Prop := ∀ {O2 : Own} {G2 : Grows} {K2 : List (Nat × World)} {W2 : World}, St w0 O2 G2 K2 W2 → (∀ q ∈ Kk, q ∈ K2) → p W2
theorem Held.now {p : World → Prop} (h : Held w0 K p) (hS : St w0 O G K W) : p W := h hS (fun q hq => hq)
theorem Held.one {p : World → Prop} {lo : Nat} {A : World} (h : ∀ W2, Agree lo A W2 → p W2) : Held w0 [(lo, A)] p := fun h2 hk => h _ (h2.kept (lo, A) (hk _ List.mem_cons_self)).1
theorem Held.more {p : World → Prop} {Kk Kl : List (Nat × World)} (h : Held w0 Kk p) (k : ∀ q ∈ Kk, q ∈ Kl) : Held w0 Kl p := fun h2 hk => h h2 (fun q hq => hk q (k q hq))
theorem St.adopt {W' : World} {e : TypeId} {size n : Nat} {v : Value} {xs : List Value} (h : St w0 O G K W) (hb : Below W.heap.size W W') (hr : W'.ownsRow W.heap.size e size v n xs) : St w0 O (⟨v, n, xs, e, size⟩ :: G) K W' := by
 have h' := h.grow hb
 have hge : ∀ b, v.ownBlock = some b → W.heap.size ≤ b := fun b e1 => by
  rcases hr.2 with ⟨rfl, _⟩ | ⟨g, cap, cur, rfl, h3, _⟩
  ·cases e1
  ·cases e1; exact h3
 refine ⟨h'.below, h'.own, h'.dist, h'.kept, fun g hg => ?_, List.Pairwise.cons (fun q hq b e1 e2 => ?_) h'.gdist⟩
 ·rcases List.mem_cons.1 hg with rfl | hg
  ·refine ⟨ownsRow_base hr h.below.size, fun b e1 => ⟨fun p hp e2 => ?_, fun q hq => .inr ?_⟩⟩
   ·have := lt_of_heap (h.own p hp).2; have := hge b e1; omega
   ·have := (h.kept q hq).1.1; have := hge b e1; omega
  ·exact h'.rows g hg
 ·have h3 := (h.glt hq e2).2
  have := hge b e1; omega
theorem St.cut (h : St w0 O G K W) (i : Nat) {b c nn k : Nat} {xs : List Value} {e : TypeId} {size : Nat} (hi : G[i]? = some ⟨.slice (some ⟨b, 0, none⟩) nn c, nn, xs, e, size⟩) (hk : k ≤ nn) : St w0 O (G.set i ⟨.slice (some ⟨b, 0, none⟩) k c, k, xs.take (k * size), e, size⟩) K W := by
 have hg := List.mem_of_getElem? hi
 have hrow := (h.rows _ hg).1
 refine h.setG i hi (v' := .slice (some ⟨b, 0, none⟩) k c) ?_ ⟨rfl, rfl, rfl, Nat.le_refl _, fun _ _ _ => rfl⟩ (.inl rfl)
 refine ⟨?_, ?_⟩
 ·have h2 : k * size ≤ nn * size := Nat.mul_le_mul_right _ hk
  have := hrow.1
  dsimp only at this ⊢; rw [List.length_take, this, Nat.min_eq_left h2]
 ·rcases hrow.2 with ⟨e1, _⟩ | ⟨g, cap, cur, e1, hg, hh, hn, hm, hs, ht⟩
  ·cases e1
  ·cases e1
   refine .inr ⟨b, c, cur, rfl, hg, hh, by dsimp only at hn; omega, hm, hs, ?_⟩
   have h2 : k * size ≤ nn * size := Nat.mul_le_mul_right _ hk
   dsimp only at ht ⊢
   rw [← ht, List.take_take, Nat.min_eq_left h2]
theorem St.turned (h : St w0 O G K W) (i : Nat) {b c nn q : Nat} {zs : List Int} {e : TypeId} (hi : G[i]? = some ⟨.slice (some ⟨b, 0, none⟩) nn c, nn, zs.map (Value.int .i64), e, 1⟩) : St w0 O (G.set i ⟨.slice (some ⟨b, 0, none⟩) nn c, nn, zs.reverse.map (Value.int .i64), e, 1⟩) K (Go.Sort.putRow (Value.int .i64) (Go.Sort.ahead W q) b 0 zs.reverse.toArray) := by
 have hg := List.mem_of_getElem? hi
 have hrow := (h.rows _ hg).1
 have hl : zs.length = nn := by have := hrow.1; simpa using this
 refine h.setG i hi (v' := .slice (some ⟨b, 0, none⟩) nn c) ?_ ⟨rfl, rfl, rfl, by simp [Go.Sort.putRow, Go.Sort.mapBlock, Go.Sort.ahead], fun k hk hne => ?_⟩ (.inl rfl)
 ·have := Go.Lib.ownsRow_putRow (q := q) hrow (ys := zs.reverse) (by simpa using hl) (Nat.le_refl _)
  rwa [List.take_of_length_le (by simp; omega)] at this
 ·have hne' : b ≠ k := fun e => hne (by rw [e]; rfl)
  simp [Go.Sort.putRow, Go.Sort.mapBlock, Go.Sort.ahead, Array.getElem?_modify, hne']
end
section
variable {P : Program} {n : Nat} {ops : Array Oper} {Q : Exit → Act → World → Prop} {l : Fr} {w0 W : World} {O : Own} {G : Grows} {K : List (Nat × World)} {os : List Oper} {d : Nat} {ty : TypeId} {pos : String} {aft : Array Edge}
theorem resCCTT {fn : Func} {r1 r2 t u : Nat} {T1 T2 : TypeId} {B1 B2 o1 o2 : Nat} {vs us : List Value} {x y : Value} (hf : fn.results = #[.cell r1 T1, .cell r2 T2, .tmp t, .tmp u]) (hT1 : ∀ w, (isAgg T1).run P w = .ok true w) (hS1 : ∀ w, (sizeOf T1).run P w = .ok vs.length w) (hl1 : look l r1 = some (.pointer (some ⟨B1, o1, none⟩))) (hc1 : CellsAt W B1 o1 vs)
  (hT2 : ∀ w, (isAgg T2).run P w = .ok true w) (hS2 : ∀ w, (sizeOf T2).run P w = .ok us.length w) (hl2 : look l r2 = some (.pointer (some ⟨B2, o2, none⟩))) (hc2 : CellsAt W B2 o2 us) (hx : look l t = some x) (hy : look l u = some y) :
  ∀ a, Has n l a → (results fn a.tmps).run P W = .ok (.tuple #[.agg vs.toArray, .agg us.toArray, x, y]) W := fun a ha => by
 have h1 := run_loadCells_list (P := P) W ⟨B1, o1, none⟩ vs (fun j u hj => by rw [Addr.add_lit]; exact hc1.get j u hj)
 have h1' := run_loadCells_list (P := P) W ⟨B2, o2, none⟩ us (fun j u hj => by rw [Addr.add_lit]; exact hc2.get j u hj)
 have h2 := ha.at_ r1 _ hl1
 have h2' := ha.at_ r2 _ hl2
 have h3 := ha.at_ t _ hx
 have h4 := ha.at_ u _ hy
 rw [Array.getD_eq_getD_getElem?] at h2 h2' h3 h4
 simp [results, hf, h2, h2', h3, h4, asAddr, loadVar, hT1, hS1, hT2, hS2, h1, h1']
theorem op_callX {f : FuncId} {args : Array Operand} {ts : Array TypeId} {vs : List Value} {R : Ending → World → Prop} (hgo : goesIn P f = true) (ha : args.toList.map (evL l) = vs.map some) (hc : Calls P f vs.toArray W R)
  (hd : Nat.blt d n = true)
  (h : ∀ e W', R e W' → ∃ v, e = .returned v ∧ OpsF P n ops Q os ((d, v) :: l) W') : OpsF P n ops Q (⟨some d, .call { callee := .value (.func f), args := args, argTypes := ts }, ty, pos, aft, none⟩ :: os) l W := fun a hl => by
 refine wpList_plain rfl fun K' hK => ?_
 unfold Oper.wp
 rw [run_call P a.eval W f args ts _ rfl rfl hgo, Oper.upon_enter]
 have hargs : args.map a.eval = vs.toArray := by
  have key : ∀ (xs : List Operand) (us : List Value), xs.map (evL l) = us.map some → xs.map a.eval = us := by
   intro xs
   induction xs with
   | nil => intro us h; cases us <;> simp at h ⊢
   | cons x xs ih =>
    intro us h
    cases us with
    | nil => simp at h
    | cons u us =>
     simp only [List.map_cons, List.cons.injEq] at h
     simp only [List.map_cons, hl.ev x u h.1, ih us h.2]
  apply Array.ext'
  rw [Array.toList_map, key _ _ ha]
 rw [hargs]
 refine hc.mono ?_
 intro e W' hRe
 obtain ⟨v, rfl, hn⟩ := h e W' hRe
 exact hK _ _ (hn _ (hl.put hd))
theorem op_callG {f : FuncId} {args : Array Operand} {ts : Array TypeId} {vs : List Value} {R : Ending → World → Prop} {e1 : TypeId} {size m : Nat} {xs : List Value} (hS : St w0 O G K W) (hgo : goesIn P f = true) (ha : args.toList.map (evL l) = vs.map some) (hc : Calls P f vs.toArray W R)
  (hd : Nat.blt d n = true) (hR : ∀ e W', R e W' → ∃ v, e = .returned v ∧ Below W.heap.size W W' ∧ W'.ownsRow W.heap.size e1 size v m xs)
  (h : ∀ v W', St w0 O (⟨v, m, xs, e1, size⟩ :: G) K W' → OpsF P n ops Q os ((d, v) :: l) W') : OpsF P n ops Q (⟨some d, .call { callee := .value (.func f), args := args, argTypes := ts }, ty, pos, aft, none⟩ :: os) l W :=
 op_callX hgo ha hc hd fun e W' hRe => by
  obtain ⟨v, h1, h2, h3⟩ := hR e W' hRe
  exact ⟨v, h1, h v W' (hS.adopt h2 h3)⟩
theorem op_rev {f : FuncId} {x : Operand} {ts : Array TypeId} {v : Value} {nn : Nat} {zs : List Int} {e1 : TypeId} (hS : St w0 O G K W) (i : Nat) (hgo : goesIn P f = true) (hx : evL l x = some v) (hi : G[i]? = some ⟨v, nn, zs.map (Value.int .i64), e1, 1⟩)
  (hc : ∀ (blk off cap : Nat) (zs : List Int) (w : World), Go.Sort.Holds (Value.int .i64) w blk off zs.toArray → zs.length ≤ 9223372036854775807 → Calls P f #[.slice (some ⟨blk, off, none⟩) zs.length cap] w fun e w' => e = .returned (.tuple #[]) ∧ ∃ n, w' = Go.Sort.putRow (Value.int .i64) (Go.Sort.ahead w n) blk off zs.reverse.toArray)
  (hc0 : ∀ (a : Option Addr) (cap : Nat) (w : World), Calls P f #[.slice a 0 cap] w fun e w' => e = .returned (.tuple #[]) ∧ w' = w)
  (hd : Nat.blt d n = true) (h : ∀ W', St w0 O (G.set i ⟨v, nn, zs.reverse.map (Value.int .i64), e1, 1⟩) K W' → OpsF P n ops Q os ((d, .tuple #[]) :: l) W') : OpsF P n ops Q (⟨some d, .call { callee := .value (.func f), args := #[x], argTypes := ts }, ty, pos, aft, none⟩ :: os) l W := by
 have hrow : W.ownsRow w0.heap.size e1 1 v nn (zs.map (Value.int .i64)) := hS.row i hi
 have hl : zs.length = nn := by have := hrow.1; simpa using this
 by_cases hv : v = .slice none 0 0
 ·subst hv
  have hn : nn = 0 := by
   rcases hrow.2 with ⟨_, h0⟩ | ⟨g, cap, cur, e0, _⟩
   ·exact h0
   ·cases e0
  subst hn
  have hz : zs = [] := List.eq_nil_of_length_eq_zero hl
  subst hz
  refine op_callX (vs := [.slice none 0 0]) hgo (by simp [hx]) (hc0 none 0 W) hd ?_
  rintro e W' ⟨rfl, rfl⟩
  refine ⟨_, rfl, h W' ?_⟩
  rw [List.reverse_nil]
  have e2 : G.set i ⟨.slice none 0 0, 0, ([] : List Int).map (Value.int .i64), e1, 1⟩ = G := by
   apply List.ext_getElem?
   intro j
   rw [List.getElem?_set]
   by_cases hj : i = j
   ·subst hj; rw [if_pos rfl, hi]; split <;> first | rfl | skip
    rename_i hlt; exact absurd (List.getElem?_eq_some_iff.1 hi).1 hlt
   ·rw [if_neg hj]
  rw [e2]; exact hS
 ·obtain ⟨g, cap, rfl, h1, h2, h3, h4, h5, hH⟩ := Go.Lib.holds_of_ownsRow hrow hv
  subst h5
  refine op_callX (vs := [.slice (some ⟨g, 0, none⟩) zs.length cap]) hgo (by simp [hx]) (hc g 0 cap zs W hH (by simp only [maxLen] at h4; omega)) hd ?_
  rintro e W' ⟨rfl, q, rfl⟩
  exact ⟨_, rfl, h _ (hS.turned i hi)⟩
theorem op_cut {T e : TypeId} {x y : Operand} {kk : IntKind} {k : Nat} {j : Int} {b c nn s : Nat} {xs : List Value} (hS : St w0 O G K W) (i : Nat) (hU : P.underlying T = some (.slice e)) (hs : ∀ w, (sizeOf e).run P w = .ok s w) (hi : G[i]? = some ⟨.slice (some ⟨b, 0, none⟩) nn c, nn, xs, e, s⟩) (hx : evL l x = some (.slice (some ⟨b, 0, none⟩) nn c)) (hy : evL l y = some (.int kk j)) (hj : j = (k : Int)) (hk : k ≤ nn) (hd : Nat.blt d n = true)
  (h : St w0 O (G.set i ⟨.slice (some ⟨b, 0, none⟩) k c, k, xs.take (k * s), e, s⟩) K W → OpsF P n ops Q os ((d, .slice (some ⟨b, 0, none⟩) k c) :: l) W) : OpsF P n ops Q (⟨some d, .slice T x none (some y) none, ty, pos, aft, none⟩ :: os) l W :=
 opV (v := .slice (some ⟨b, 0, none⟩) k c) (fun ev he => by
  subst hj
  have hc : nn ≤ c := by
   rcases (hS.row i hi).2 with ⟨e1, _⟩ | ⟨g, cap, cur, e1, _, _, hn, _⟩
   ·cases e1
   ·cases e1; exact hn
  have h1 : (0 : Int) ≤ (k : Int) := by omega
  have h2 : (k : Int) ≤ (c : Int) := by omega
  have h3 : k ≤ c := by omega
  unfold execOp; simp only [Option.map_some, Option.map_none]; rw [he x _ hx, he y _ hy]
  simp [Instr.sliceAt, Instr.slice, Instr.sliceBounds, Instr.sliceBound, run_underlying hU, asIntOf, h3, hs]
  intro _; rfl) hd (h (hS.cut i hi hk))
theorem run_append_noneC {w : World} (base : Nat) (t ty e : TypeId) (i : TypeInfo) (size : Nat) (ht : P.underlying t = some (.slice e)) (hi : P.info? e = some i)
  (v : Value) (n : Nat) (xs : List Value) (c : Nat) (hown : w.ownsRow base e size v n xs) :
  (Builtin.append_ #[t, t] ty #[v, .slice none 0 c]).run P w = .ok v w := by
 rcases hown.2 with ⟨rfl, rfl⟩ | ⟨g, cap, cur, rfl, _, _, hnc, _⟩
 ·simp [Builtin.append_, run_underlying ht, sizeOf, typeInfo, hi, Builtin.lenOf, Builtin.firstCells]
 ·simp [Builtin.append_, run_underlying ht, sizeOf, typeInfo, hi, Builtin.lenOf, Builtin.firstCells, hnc, storeCells]
theorem op_appendV {t e : TypeId} {x y : Operand} {i : Nat} {g : GR} {a : Option Addr} {m c : Nat} {news : List Value} {inf : TypeInfo} {z : Value} (hS : St w0 O G K W) (hU : P.underlying t = some (.slice e)) (hinf : P.info? e = some inf) (hz : inf.zero = some z) (hzs : z.cells.size = inf.size) (hsz : 0 < inf.size)
  (hi : G[i]? = some g) (he : g.e = e) (hgs : g.size = inf.size) (hx : evL l x = some g.v) (hy : evL l y = some (.slice a m c)) (hc : (a = none ∧ m = 0) ∨ ∃ p, a = some p ∧ ∀ (j : Nat) u, news[j]? = some u → W.cell? (p.add j) = some u) (hl : news.length = m * inf.size) (h1 : ∀ u ∈ news, u.oneCell' = true)
  (h63 : g.n + m ≤ maxLen) (hbytes : (g.n + m) * inf.bytes ≤ 140737488355328) (hd : Nat.blt d n = true)
  (h : ∀ v' W', St w0 O (G.set i ⟨v', g.n + m, g.xs ++ news, e, g.size⟩) K W' → OpsF P n ops Q os ((d, v') :: l) W') :
  OpsF P n ops Q (⟨some d, .call { callee := .builtin .append, args := #[x, y], argTypes := #[t, t] }, ty, pos, aft, none⟩ :: os) l W := by
 subst he
 have hrow := hS.row i hi
 rcases hc with ⟨rfl, rfl⟩ | ⟨p, rfl, hc⟩
 ·have hr := run_append_noneC (P := P) w0.heap.size t ty g.e inf g.size hU hinf g.v g.n g.xs c hrow
  have hn : news = [] := List.eq_nil_of_length_eq_zero (by simpa using hl)
  subst hn
  refine opV (W' := W) (v := g.v) (fun ev hev => ?_) hd (h g.v W ?_)
  ·unfold execOp
   simp only [resolve, invoke, builtin, Sem.run_bind, Sem.run_pure, Result.andThen_ok, List.map_toArray, List.map_cons, List.map_nil, hev x _ hx, hev y _ hy, hr]
  ·rw [List.append_nil, Nat.add_zero]
   exact hS.setG i hi hrow ⟨rfl, rfl, rfl, Nat.le_refl _, fun _ _ _ => rfl⟩ (.inl rfl)
 ·rw [hgs] at hrow
  obtain ⟨v', W', hr, h2, h3, h4⟩ := append_own2 (P := P) (w := W) w0.heap.size t ty g.e inf z hU hinf hz hzs hsz g.v g.n g.xs hrow p m c news hl hc h1 h63 hbytes hS.below.size
  rw [← hgs] at h2
  refine opV (W' := W') (v := v') (fun ev hev => ?_) hd (h v' W' (hS.setG i hi h2 h3 h4))
  unfold execOp
  simp only [resolve, invoke, builtin, Sem.run_bind, Sem.run_pure, Result.andThen_ok, List.map_toArray, List.map_cons, List.map_nil, hev x _ hx, hev y _ hy, hr]
end
end Go.Proofs.YtgjojhmninbkoaaDoor
namespace Go.Proofs.YtgjojhmninbkoaaDoor
open Go Go.RowKit
def RowN (lo : Nat) (W : World) (a : Option Addr) (c : Nat) (xs : List Int) : Prop := W.ownsRow lo 3 1 (.slice a xs.length c) xs.length (xs.map (Value.int .i64))
theorem RowN.row {lo : Nat} {W : World} {a : Option Addr} {c : Nat} {xs : List Int} (h : RowN lo W a c xs) : Row W a xs := by
 rcases ownsRow_cells h with ⟨_, h2⟩ | ⟨b, h1, _, h3⟩
 ·exact .inl (List.eq_nil_of_length_eq_zero h2)
 ·refine .inr ⟨b, 0, h1, fun i hi => ?_⟩
  rw [Nat.zero_add]
  exact h3 i _ (by rw [List.getElem?_map, List.getElem?_eq_getElem hi]; simp [List.getD, List.getElem?_eq_getElem hi])
theorem RowN.cap {lo : Nat} {W : World} {a : Option Addr} {c : Nat} {xs : List Int} (h : RowN lo W a c xs) : xs.length ≤ c := by
 obtain ⟨a', c', e, h2⟩ := ownsRow_sl h
 cases e; exact h2
theorem RowN.mono {lo lo' : Nat} {W : World} {a : Option Addr} {c : Nat} {xs : List Int} (h : RowN lo W a c xs) (hl : lo' ≤ lo) : RowN lo' W a c xs := ownsRow_base h hl
theorem RowN.agree {lo : Nat} {A W : World} {a : Option Addr} {c : Nat} {xs : List Int} (h : RowN lo A a c xs) (hg : Agree lo A W) : RowN lo W a c xs := ownsRow_agree h hg
theorem RowN.below {lo : Nat} {A W : World} {a : Option Addr} {c : Nat} {xs : List Int} (h : RowN lo A a c xs) (hb : Below A.heap.size A W) : RowN lo W a c xs := h.agree (below_agree hb lo)
theorem ints_one (xs : List Int) : ∀ u ∈ xs.map (Value.int .i64), u.oneCell' = true := fun u hu => by
 obtain ⟨z, _, rfl⟩ := List.mem_map.1 hu
 rfl
theorem Row.app {W : World} {a : Option Addr} {ws : List Int} {m : Nat} (h : Row W a ws) (hl : ws.length = m) : (a = none ∧ m = 0) ∨ ∃ p, a = some p ∧ ∀ (j : Nat) u, (ws.map (Value.int .i64))[j]? = some u → W.cell? (p.add j) = some u := by
 rcases h with rfl | ⟨b, off, rfl, hc⟩
 ·cases a with
  | none => exact .inl ⟨rfl, hl.symm⟩
  | some p => exact .inr ⟨p, rfl, fun j u hj => by simp at hj⟩
 ·refine .inr ⟨_, rfl, fun j u hj => ?_⟩
  rw [List.getElem?_map] at hj
  cases hz : ws[j]? with
  | none => rw [hz] at hj; cases hj
  | some z =>
   rw [hz] at hj; cases hj
   have hj' := (List.getElem?_eq_some_iff.1 hz).1
   have := hc j hj'
   rw [Addr.add_lit, this]
   simp [List.getD, hz]
def isConfN (lo : Nat) (p : Int) (xs : List Int) : Asr := fun v w => ∃ a c, v = .agg #[.int .i64 p, .slice a xs.length c] ∧ RowN lo w a c xs
end Go.Proofs.YtgjojhmninbkoaaDoor
namespace Go.Proofs.YtgjojhmninbkoaaDoor
open Go Go.RowKit
section
variable {P : Program} {n : Nat} {Q : Exit → Act → World → Prop} {l : Fr} {w0 W : World} {ops : Array Oper} {os : List Oper} {K : List (Nat × World)} {L : List Asr} {i : Nat}
variable {O : Own} {Gs : List Value → Grows} {efs : List Nat} {lo : Nat} {s : List Value}
variable {d : Nat} {op : Op} {ty : TypeId} {pos : String} {aft_ : Array Edge} {v : Value} {gd : Option (Nat × Bool)}
variable {Goal : List Asr → Prop}
def gsC (G : Grows) (E : List (Nat × (Value → GR))) (s : List Value) : Grows := (E.zip s).foldl (fun G p => G.set p.1.1 (p.1.2 p.2)) G
theorem hg0 {Gs : List Value → Grows} {gi : Nat} {g : GR} (h : (Gs [])[gi]? = some g) : ∀ s, s.length = 0 → (Gs s)[gi]? = some g := fun s hs => by rw [List.eq_nil_of_length_eq_zero hs]; exact h
theorem hg1 {Gs : List Value → Grows} {gi : Nat} {g : GR} (h : ∀ a, (Gs [a])[gi]? = some g) : ∀ s, s.length = 1 → (Gs s)[gi]? = some g := fun s hs => by obtain ⟨a, rfl⟩ := List.length_eq_one_iff.1 hs; exact h a
theorem hgs0 {Gs : List Value → Grows} {gi gn m size : Nat} {gxs cs : List Value} {e : TypeId} (h : ∀ v', Gs [v'] = (Gs []).set gi ⟨v', gn + m, gxs ++ cs, e, size⟩) : ∀ s v', s.length = 0 → Gs (s ++ [v']) = (Gs s).set gi ⟨v', gn + m, gxs ++ cs, e, size⟩ := fun s v' hs => by rw [List.eq_nil_of_length_eq_zero hs]; exact h v'
theorem rowSrc {w : World} {B m : Nat} {cs : List Value} {e : TypeId} (h : w.heap[B]? = some (.cells cs.toArray e (0, 0))) : ((some ⟨B, 0, none⟩ : Option Addr) = none ∧ m = 0) ∨ ∃ p, (some ⟨B, 0, none⟩ : Option Addr) = some p ∧ ∀ (j : Nat) u, cs[j]? = some u → w.cell? (p.add j) = some u :=
 .inr ⟨_, rfl, fun j u hj => by
  rw [Addr.add_lit, Nat.zero_add]
  simp only [World.cell?, h]
  simpa using hj⟩
theorem res3 {P : Program} {n : Nat} {l : Fr} {W : World} {fn : Func} {t u v : Nat} {x y z : Value} (hf : fn.results = #[.tmp t, .tmp u, .tmp v]) (hx : look l t = some x) (hy : look l u = some y) (hz : look l v = some z) : ∀ a, Has n l a → (results fn a.tmps).run P W = .ok (.tuple #[x, y, z]) W := fun a ha => by
 have h1 := ha.at_ t _ hx
 have h2 := ha.at_ u _ hy
 have h3 := ha.at_ v _ hz
 rw [Array.getD_eq_getD_getElem?] at h1 h2 h3
 simp [results, hf, h1, h2, h3]
theorem len2 {s : List Value} (h : s.length = 2) : ∃ a b, s = [a, b] := by
 match s, h with
 | [a, b], _ => exact ⟨a, b, rfl⟩
end
end Go.Proofs.YtgjojhmninbkoaaDoor
