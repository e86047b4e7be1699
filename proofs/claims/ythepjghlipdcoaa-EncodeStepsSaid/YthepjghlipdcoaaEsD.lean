import Derived.Orders
import Derived.Below
import Derived.Deep.RegionHeld
import Derived.WalkKit
import Derived.KernelRfl
import Derived.Laws.Rows
import Derived.Laws.AppendOwn
import Derived.Laws.Strings
import Derived.Laws.Small
import Derived.Lib.Hide
import Derived.IntWalk
import Derived.Laws.Tables
import Derived.Laws.Concat
import Derived.Laws.MakeOwn
import Derived.Lib.OwnBridge
import Derived.Laws.IdiomStrings
import Derived.Lib.ItoaLen
import Derived.Lib.UnsafeStr
import Derived.Lib.AppendIntMem
import Derived.Test.YthepjghlipdcoaaRows
import Derived.RangeFuncNested
import Derived.RangeFuncBound
import Derived.RangeFuncCalls
import Derived.RangeFuncLeaves
import Derived.OwnWalkIn
import Derived.TacticsInMore
import Derived.LoopNIn
import Derived.Shelf.Abstract
import Derived.Lib.SmallJoins
import Derived.Deep.Slices
import Derived.Deep.Fields
import Derived.ChangeSlices
import Derived.ChangeSame
import Derived.ProofKit
import Derived.Test.YthepjghlipdcoaaProg
import Derived.Lib.TrailingZeros
import Derived.Lib.LaidTab
import Derived.Lib.ItoaNum
import Derived.Stop.LaidErr
import Derived.WalkSmall
import Derived.LaidMore
import Derived.Shelf.Spec.TrailingZeros
import Derived.Laws.BitsAllLaws
import Derived.Laws.Bits64
import Derived.Deep.QuietTactic
import Derived.BigQuiet
import Derived.RegionTactic
import Derived.BigRegion
import Derived.Deep.RegionHeld3
import Derived.ChangeAlike
import Derived.Laws.Bits128
import Derived.Deep.AppendLies
import Derived.Sort.Grow
import Derived.Shelf.RegionOpen
import Derived.LoopIn
import Derived.Maps.AppendAt
import Derived.Shelf.Lay
import Derived.Shelf.LaySoft
import Derived.Lib.OthersKept
import Derived.StillTailTactics
import Derived.Deep.RegionLaw
import Derived.Deep.DeepCutAuto
import Derived.Deep.CutRange
import Derived.Deep.RegionWith
import Derived.Laws.Bits64b
import Derived.Deep.DrawnRows
import Derived.Laws.OwnMore
import Derived.OwnWalk
import Derived.WalkSpells
import Derived.Lib.SliceRun
import Derived.Lib.Join
import Derived.Test.YthepjghlipdcoaaEsA
import Derived.Test.YthepjghlipdcoaaEsB
import Derived.Test.YthepjghlipdcoaaEsC
set_option maxRecDepth 100000
set_option maxHeartbeats 4000000
set_option linter.unusedVariables false
set_option linter.unusedVariables false
set_option linter.unusedSimpArgs false
set_option linter.unusedSectionVars false
set_option linter.unnecessarySimpa false
namespace Go.Proofs.Ythepjghlipdcoaa
open Go.RowKit
attribute [local go_sem ↓] Go.wp_at_zero Go.wp_at_succ
theorem isR_plainY (t n : Int) (a : Option Addr) (l c0 : Nat) (f : WF) (hp : plainB t n l = true) (hs : 0 ≤ f.rl) (w : World) (hf : f.At w) (r : Bool) (hr : pwOk t n f = r) :
  Calls Try.prog 49 #[.agg #[.int .i64 t, .int .i64 n, .slice a l c0], f.val] w fun e w' => e = .returned (.bool r) ∧ Below w.heap.size w w' := by
 have HF0 := Lib.hid hf; have HS := Lib.hid hs
 obtain ⟨z, c, g, ra, rl, rc, rows, ca, cl, cc, cells, pa, pl, pc⟩ := f
 show Calls Try.prog 49 #[.agg #[.int .i64 t, .int .i64 n, .slice a l c0], .agg #[.bool z, .int .i64 c, .int .u64 (g : Int), .slice ra rl rc, .slice ca cl cc, .slice pa pl pc]] w _
 obtain ⟨bb, hbb⟩ : ∃ b, bareB t ⟨z, c, g, ra, rl, rc, rows, ca, cl, cc, cells, pa, pl, pc⟩ = b := ⟨_, rfl⟩
 have HBB := Lib.hid hbb
 have hB := Lib.hid (wbox w #[.int .i64 t, .int .i64 n, .slice a l c0] #[.bool z, .int .i64 c, .int .u64 (g : Int), .slice ra rl rc, .slice ca cl cc, .slice pa pl pc] 35 67)
 obtain ⟨t0, t1⟩ := two_boxes2 w #[.int .i64 t, .int .i64 n, .slice a l c0] #[.bool z, .int .i64 c, .int .u64 (g : Int), .slice ra rl rc, .slice ca cl cc, .slice pa pl pc] 35 67
 have T0 := Lib.hid t0; have T1 := Lib.hid t1
 obtain ⟨W0, hW0⟩ : ∃ W, (w.alloc (.cells #[.int .i64 t, .int .i64 n, .slice a l c0] 35)).alloc (.cells #[.bool z, .int .i64 c, .int .u64 (g : Int), .slice ra rl rc, .slice ca cl cc, .slice pa pl pc] 67) = W := ⟨_, rfl⟩
 rw [hW0] at hB T0 T1
 obtain ⟨x0, x1, x2⟩ := tri_cells T0.out
 obtain ⟨y0, y1, y2, y3, y4, y5⟩ := six_cells T1.out
 have ht := (plainB_tag hp).2
 have HDIM := Lib.hid (plainB_dim hp)
 clear hf hs t0 t1 hp
 have HX : Hid (∀ W : World, Below W0.heap.size W0 W → Hid ((W.cell? ⟨w.heap.size, 0, none⟩ = some (.int .i64 t) ∧ W.cell? ⟨w.heap.size, 1, none⟩ = some (.int .i64 n) ∧ W.cell? ⟨w.heap.size, 2, none⟩ = some (.slice a l c0)) ∧ (W.cell? ⟨w.heap.size + 1, 0, none⟩ = some (.bool z) ∧ W.cell? ⟨w.heap.size + 1, 1, none⟩ = some (.int .i64 c) ∧ W.cell? ⟨w.heap.size + 1, 2, none⟩ = some (.int .u64 (g : Int)) ∧ W.cell? ⟨w.heap.size + 1, 3, none⟩ = some (.slice ra rl rc) ∧ W.cell? ⟨w.heap.size + 1, 4, none⟩ = some (.slice ca cl cc) ∧ W.cell? ⟨w.heap.size + 1, 5, none⟩ = some (.slice pa pl pc)))) := fun W h => ⟨tri_cells (heap_old T0.out h), six_cells (heap_old T1.out h)⟩
 have HR : Hid ((bb && (z || (if t = 2 then decide (0 ≤ c) && decide (c ≤ n) else if t = 3 then decide (checkE n g rows = 0) else if t = 4 then decide (chkC n cells = 0) else true))) = r) := by show _ = _; rw [← hr, pwOk, hbb]
 have ht5 : (t != 5) = true := by simp; omega
 clear hr T0 T1
 cases z
 ·rcases ht with rfl | rfl | rfl | rfl
  ·have HO : Hid (onlyB false false false false ⟨false, c, g, ra, rl, rc, rows, ca, cl, cc, cells, pa, pl, pc⟩ = bb) := hbb
   have HR2 : Hid (bb = r) := by show _ = _; rw [← HR.out]; simp
   clear hbb
   go_enter Try.func49, Try.ntmps49
   go_wp2_with fail
   refine (plainR_0 ⟨false, c, g, ra, rl, rc, rows, ca, cl, cc, cells, pa, pl, pc⟩ bb HO.out _).mono ?_
   rintro e w1 ⟨rfl, hb1⟩
   go_wp2_with fail
   go_ret
   exact ⟨rbool HR2.out, hB.out.trans (hb1.mono hB.out.size)⟩
  ·have HO : Hid (onlyB true false false false ⟨false, c, g, ra, rl, rc, rows, ca, cl, cc, cells, pa, pl, pc⟩ = bb) := hbb
   clear hbb
   cases bb
   ·have HR2 : Hid (false = r) := by show _ = _; rw [← HR.out]; simp
    go_enter Try.func49, Try.ntmps49
    go_wp2_with fail
    refine (plainR_1 ⟨false, c, g, ra, rl, rc, rows, ca, cl, cc, cells, pa, pl, pc⟩ false HO.out _).mono ?_
    rintro e w1 ⟨rfl, hb1⟩
    go_wp2_with fail
    go_ret
    exact ⟨rbool HR2.out, hB.out.trans (hb1.mono hB.out.size)⟩
   by_cases hc0 : 0 ≤ c
   ·have HR2 : Hid (decide (c ≤ n) = r) := by show _ = _; rw [← HR.out]; simp [hc0]
    go_enter Try.func49, Try.ntmps49
    go_wp2_with fail
    refine (plainR_1 ⟨false, c, g, ra, rl, rc, rows, ca, cl, cc, cells, pa, pl, pc⟩ true HO.out _).mono ?_
    rintro e w1 ⟨rfl, hb1⟩
    obtain ⟨⟨p0, p1, p2⟩, q0, q1, q2, q3, q4, q5⟩ := (HX.out _ hb1).out
    go_wp2_with fail
    go_ret
    exact ⟨rbool HR2.out, hB.out.trans (hb1.mono hB.out.size)⟩
   ·have HR2 : Hid (false = r) := by show _ = _; rw [← HR.out]; simp [hc0]
    go_enter Try.func49, Try.ntmps49
    go_wp2_with fail
    refine (plainR_1 ⟨false, c, g, ra, rl, rc, rows, ca, cl, cc, cells, pa, pl, pc⟩ true HO.out _).mono ?_
    rintro e w1 ⟨rfl, hb1⟩
    obtain ⟨⟨p0, p1, p2⟩, q0, q1, q2, q3, q4, q5⟩ := (HX.out _ hb1).out
    go_wp2_with fail
    go_ret
    exact ⟨rbool HR2.out, hB.out.trans (hb1.mono hB.out.size)⟩
  ·have HO : Hid (onlyB false true false false ⟨false, c, g, ra, rl, rc, rows, ca, cl, cc, cells, pa, pl, pc⟩ = bb) := hbb
   clear hbb
   cases bb
   ·have HR2 : Hid (false = r) := by show _ = _; rw [← HR.out]; simp
    go_enter Try.func49, Try.ntmps49
    go_wp2_with fail
    refine (plainR_2 ⟨false, c, g, ra, rl, rc, rows, ca, cl, cc, cells, pa, pl, pc⟩ false HO.out _).mono ?_
    rintro e w1 ⟨rfl, hb1⟩
    go_wp2_with fail
    go_ret
    exact ⟨rbool HR2.out, hB.out.trans (hb1.mono hB.out.size)⟩
   obtain ⟨ck, hck⟩ : ∃ k, checkE n g rows = k := ⟨_, rfl⟩
   have HCK := Lib.hid hck
   have HR3 : Hid ((ck == 0) = r) := by show _ = _; rw [← HR.out, hck, int_eq0]; simp
   clear hck
   go_enter Try.func49, Try.ntmps49
   go_wp2_with fail
   refine (plainR_2 ⟨false, c, g, ra, rl, rc, rows, ca, cl, cc, cells, pa, pl, pc⟩ true HO.out _).mono ?_
   rintro e w1 ⟨rfl, hb1⟩
   obtain ⟨⟨p0, p1, p2⟩, q0, q1, q2, q3, q4, q5⟩ := (HX.out _ hb1).out
   have hB1 := hB.out.trans (hb1.mono hB.out.size)
   go_wp2_with fail
   refine (checkR_any n ra rc g rows _ (HF0.out.below hB1) ck HCK.out rl HF0.out.rl).mono ?_
   rintro e w2 ⟨rfl, hb2⟩
   go_wp2_with fail
   go_ret
   exact ⟨rbool HR3.out, hB1.trans (hb2.mono hB1.size)⟩
  ·have HO : Hid (onlyB false false true false ⟨false, c, g, ra, rl, rc, rows, ca, cl, cc, cells, pa, pl, pc⟩ = bb) := hbb
   clear hbb
   obtain ⟨m, rfl⟩ : ∃ m : Nat, n = m := ⟨n.toNat, by have := HDIM.out.1; omega⟩
   have hm64 : m ≤ 64 := by have := HDIM.out.2.2.2 (.inr rfl); omega
   have hclen := HF0.out.cl
   dsimp only at hclen
   cases bb
   ·have HR2 : Hid (false = r) := by show _ = _; rw [← HR.out]; simp
    go_enter Try.func49, Try.ntmps49
    go_wp2_with fail
    refine (plainR_3 ⟨false, c, g, ra, rl, rc, rows, ca, cl, cc, cells, pa, pl, pc⟩ false HO.out _).mono ?_
    rintro e w1 ⟨rfl, hb1⟩
    go_wp2_with fail
    go_ret
    exact ⟨rbool HR2.out, hB.out.trans (hb1.mono hB.out.size)⟩
   have HR3 : Hid ((decide (cl = m) && cells.all (okAt m)) = r) := by
    show _ = _
    rw [← HR.out]
    have e := chkC_iff (cs := cells) (n := (m : Int)) ⟨by omega, by omega⟩
    rw [Int.toNat_natCast, hclen] at e
    simp [e]
    congr 1; rw [Bool.eq_iff_iff, decide_eq_true_eq, decide_eq_true_eq]; omega
   clear HDIM HR
   by_cases hlm : cl = m
   ·subst hlm
    have HRA : Hid (cells.all (okAt cl) = r) := by show _ = _; rw [← HR3.out]; simp
    have HL := Lib.hid hclen
    clear hclen HR3
    go_enter Try.func49, Try.ntmps49
    go_wp2_with fail
    refine (plainR_3 ⟨false, c, g, ra, rl, rc, rows, ca, cl, cc, cells, pa, pl, pc⟩ true HO.out _).mono ?_
    rintro e w1 ⟨rfl, hb1⟩
    obtain ⟨⟨p0, p1, p2⟩, q0, q1, q2, q3, q4, q5⟩ := (HX.out _ hb1).out
    clear x0 x1 x2 y0 y1 y2 y3 y4 y5
    go_wp2_with fail
    clear p0 p1 p2 q0 q1 q2 q3 q4 q5
    go_loopw [5] (fun i wr => ∃ k : Nat, k ≤ cl ∧ i = .int .i64 k ∧ Hid (∀ (i : Nat) x, i < k → cells[i]? = some x → okAt cl x = true) ∧ Below W0.heap.size W0 wr) (fun i _ => cl - (intOf i).toNat)
    case atStart => exact ⟨0, Nat.zero_le _, rfl, fun i x h => by omega, hb1⟩
    case round =>
     obtain ⟨k, hk, rfl, HK, hb⟩ := hrel
     obtain ⟨⟨p0, p1, p2⟩, q0, q1, q2, q3, q4, q5⟩ := (HX.out _ hb).out
     by_cases hlt : k < cl
     ·have hB2 := hB.out.trans (hb.mono hB.out.size)
      obtain ⟨b, off, ⟨cf, ck, cv⟩, rfl, hx, hbl, d0, d1, d2⟩ := (HF0.out.below hB2).cells.at_ (k := k) (by show k < cells.length; rw [HL.out]; exact hlt)
      have hcf : cf < 18446744073709551616 := HF0.out.bits _ (List.mem_of_getElem? hx)
      obtain ⟨ok, hok⟩ : ∃ o, okAt cl ⟨cf, ck, cv⟩ = o := ⟨_, rfl⟩
      have HOK := Lib.hid hok
      have g0 : (0 : Int) ≤ (k : Int) := by omega
      have g1 : (k : Int) < (cl : Int) := by omega
      have HBB2 := Lib.hid hb
      have HSS : Hid (∀ W : World, Below wr.heap.size wr W → (W.cell? ⟨w.heap.size, 1, none⟩ = some (.int .i64 cl) ∧ W.cell? ⟨w.heap.size + 1, 4, none⟩ = some (.slice (some ⟨b, off, none⟩) cl cc) ∧ W.cell? ⟨b, off + k * 3, none⟩ = some (.int .u64 (cf : Int)) ∧ W.cell? ⟨b, off + k * 3 + 1, none⟩ = some (.int .i64 ck) ∧ W.cell? ⟨b, off + k * 3 + 2, none⟩ = some (.int .i64 cv))) := fun W h => ⟨cell_old p1 h, cell_old q4 h, cell_old d0 h, cell_old d1 h, cell_old d2 h⟩
      cases ok
      ·have HRF : Hid (false = r) := by show _ = _; rw [← HRA.out, eq_comm, List.all_eq_false]; exact ⟨_, List.mem_of_getElem? hx, by rw [hok]; simp⟩
       clear hx hok
       go_wp2_with fail
       go_region_held3 (fun w' => w'.cell? ⟨w.heap.size, 1, none⟩ = some (.int .i64 cl) ∧ w'.cell? ⟨w.heap.size + 1, 4, none⟩ = some (.slice (some ⟨b, off, none⟩) cl cc) ∧ w'.cell? ⟨b, off + k * 3, none⟩ = some (.int .u64 (cf : Int)) ∧ w'.cell? ⟨b, off + k * 3 + 1, none⟩ = some (.int .i64 ck) ∧ w'.cell? ⟨b, off + k * 3 + 2, none⟩ = some (.int .i64 cv))
        (first | exact HSS.out _ (Below.refl _ _).drew | exact HSS.out _ (Below.refl _ _) | exact HSS.out _ D1.out | fail)
        (first | (go_at_call 52; refine (cellR_is cl hm64 cf ck cv hcf false HOK.out _).mono ?_; rintro e w3 ⟨rfl, hb3⟩; have D1 : Hid (Below wr.heap.size wr w3) := (Below.refl _ _).drew.trans hb3) | fail)
       all_goals
        go_wp2_with fail
        go_ret
        exact ⟨rbool HRF.out, hB2.trans (D1.out.mono hB2.size)⟩
      ·have HN : Hid (∀ (i : Nat) x, i < k + 1 → cells[i]? = some x → okAt cl x = true) := fun i y hi hy => by
        by_cases e : i = k
        ·subst e; rw [hx] at hy; cases hy; exact hok
        ·exact HK.out i y (by omega) hy
       clear hx hok
       go_wp2_with fail
       go_region_held3 (fun w' => w'.cell? ⟨w.heap.size, 1, none⟩ = some (.int .i64 cl) ∧ w'.cell? ⟨w.heap.size + 1, 4, none⟩ = some (.slice (some ⟨b, off, none⟩) cl cc) ∧ w'.cell? ⟨b, off + k * 3, none⟩ = some (.int .u64 (cf : Int)) ∧ w'.cell? ⟨b, off + k * 3 + 1, none⟩ = some (.int .i64 ck) ∧ w'.cell? ⟨b, off + k * 3 + 2, none⟩ = some (.int .i64 cv))
        (first | exact HSS.out _ (Below.refl _ _).drew | exact HSS.out _ (Below.refl _ _) | exact HSS.out _ D1.out | fail)
        (first | (go_at_call 52; refine (cellR_is cl hm64 cf ck cv hcf true HOK.out _).mono ?_; rintro e w3 ⟨rfl, hb3⟩; have D1 : Hid (Below wr.heap.size wr w3) := (Below.refl _ _).drew.trans hb3) | fail)
       all_goals
        go_wp2_with fail
        go_roundw
        case rel => exact ⟨k + 1, by omega, by go_num, HN, HBB2.out.trans (D1.out.mono HBB2.out.size)⟩
        case measure => simp [intOf]; omega
     ·have HRT : Hid (true = r) := by show _ = _; rw [← HRA.out, all_upto HK.out (by rw [HL.out]; omega)]
      have g1 : (cl : Int) ≤ (k : Int) := by omega
      go_wp2_with fail
      go_ret
      exact ⟨rbool HRT.out, hB.out.trans (hb.mono hB.out.size)⟩
   ·have HR2 : Hid (false = r) := by show _ = _; rw [← HR3.out]; simp [hlm]
    have hne : ((cl : Int) != (m : Int)) = true := by simp; omega
    clear hlm hclen
    go_enter Try.func49, Try.ntmps49
    go_wp2_with fail
    refine (plainR_3 ⟨false, c, g, ra, rl, rc, rows, ca, cl, cc, cells, pa, pl, pc⟩ true HO.out _).mono ?_
    rintro e w1 ⟨rfl, hb1⟩
    obtain ⟨⟨p0, p1, p2⟩, q0, q1, q2, q3, q4, q5⟩ := (HX.out _ hb1).out
    go_wp2_with fail
    go_ret
    exact ⟨rbool HR2.out, hB.out.trans (hb1.mono hB.out.size)⟩
 ·have HO : Hid (onlyB false false false false ⟨true, c, g, ra, rl, rc, rows, ca, cl, cc, cells, pa, pl, pc⟩ = bb) := hbb
  have HR2 : Hid (bb = r) := by show _ = _; rw [← HR.out]; simp
  clear hbb HR ht
  go_enter Try.func49, Try.ntmps49
  go_wp2_with fail
  refine (plainR_0 ⟨true, c, g, ra, rl, rc, rows, ca, cl, cc, cells, pa, pl, pc⟩ bb HO.out _).mono ?_
  rintro e w1 ⟨rfl, hb1⟩
  go_wp2_with fail
  go_ret
  exact ⟨rbool HR2.out, hB.out.trans (hb1.mono hB.out.size)⟩
set_option maxHeartbeats 8000000 in
theorem isR_pairY (d : Nat) (sa : Option Addr) (sc : Nat) (p q : SV) (g : WF) (qs : List WV) (w : World) (hsp : SIn w (d + 1) (.mk ⟨5, 0, sa, 2, sc⟩ [p, q])) (hp : p.pl = true) (hq : q.pl = true) (e : Nat) (hw : WIn w (e + 1) (.mk g qs)) (hs : ∀ x ∈ qs, 0 ≤ x.f.rl) (r : Bool) (hr : pairOk p q g qs = r) :
  Calls Try.prog 49 #[.agg #[.int .i64 5, .int .i64 0, .slice sa 2 sc], g.val] w fun e w' => e = .returned (.bool r) ∧ Below w.heap.size w w' := by
 obtain ⟨_, b, off, ha, hb, hp3, hq3, _, _⟩ := hsp.two
 obtain rfl : sa = some ⟨b, off, none⟩ := ha
 obtain ⟨⟨pt, pn, pa, pl, pc⟩, pps⟩ := p
 obtain ⟨⟨qt, qn, qa, ql, qc⟩, qps⟩ := q
 have HP : Hid (plainB pt pn pl = true) := hp; have HQ : Hid (plainB qt qn ql = true) := hq; have HP3 := Lib.hid hp3; have HQ3 := Lib.hid hq3
 obtain ⟨gz, gc, gg, gra, grl, grc, grows, gca, gcl, gcc, gcells, gpa, gpl, gpc⟩ := g
 show Calls Try.prog 49 #[.agg #[.int .i64 5, .int .i64 0, .slice (some ⟨b, off, none⟩) 2 sc], .agg #[.bool gz, .int .i64 gc, .int .u64 (gg : Int), .slice gra grl grc, .slice gca gcl gcc, .slice gpa gpl gpc]] w _
 have hgl : qs.length = gpl := hw.2.1
 obtain ⟨bb, hbb⟩ : ∃ b, bareB 5 ⟨gz, gc, gg, gra, grl, grc, grows, gca, gcl, gcc, gcells, gpa, gpl, gpc⟩ = b := ⟨_, rfl⟩
 have HBB := Lib.hid hbb
 have hB := Lib.hid (wbox w #[.int .i64 5, .int .i64 0, .slice (some ⟨b, off, none⟩) 2 sc] #[.bool gz, .int .i64 gc, .int .u64 (gg : Int), .slice gra grl grc, .slice gca gcl gcc, .slice gpa gpl gpc] 35 67)
 obtain ⟨t0, t1⟩ := two_boxes2 w #[.int .i64 5, .int .i64 0, .slice (some ⟨b, off, none⟩) 2 sc] #[.bool gz, .int .i64 gc, .int .u64 (gg : Int), .slice gra grl grc, .slice gca gcl gcc, .slice gpa gpl gpc] 35 67
 have T0 := Lib.hid t0; have T1 := Lib.hid t1
 obtain ⟨W0, hW0⟩ : ∃ W, (w.alloc (.cells #[.int .i64 5, .int .i64 0, .slice (some ⟨b, off, none⟩) 2 sc] 35)).alloc (.cells #[.bool gz, .int .i64 gc, .int .u64 (gg : Int), .slice gra grl grc, .slice gca gcl gcc, .slice gpa gpl gpc] 67) = W := ⟨_, rfl⟩
 rw [hW0] at hB T0 T1
 obtain ⟨x0, x1, x2⟩ := tri_cells T0.out
 obtain ⟨y0, y1, y2, y3, y4, y5⟩ := six_cells T1.out
 have HR := Lib.hid hr
 cases gz
 rotate_left
 ·have HF : Hid (false = r) := by show _ = _; rw [← HR.out, pairOk]; simp
  clear hr hbb hsp hw hs hp hq hp3 hq3
  go_enter Try.func49, Try.ntmps49
  go_wp2_with fail
  go_ret
  exact ⟨rbool HF.out, hB.out⟩
 have HO : Hid (onlyB false false false true ⟨false, gc, gg, gra, grl, grc, grows, gca, gcl, gcc, gcells, gpa, gpl, gpc⟩ = bb) := hbb
 cases bb
 ·have hzz := True.intro
  have HF : Hid (false = r) := by show _ = _; rw [← HR.out, pairOk, HBB.out]; rfl
  clear hr hbb hsp hw hs hp hq hp3 hq3
  go_enter Try.func49, Try.ntmps49
  go_wp2_with fail
  have EN : Hid (∀ W : World, Below W0.heap.size W0 W → W.cell? ⟨w.heap.size, 0, none⟩ = some (.int .i64 5) ∧ W.cell? ⟨w.heap.size, 1, none⟩ = some (.int .i64 0) ∧ W.cell? ⟨w.heap.size, 2, none⟩ = some (.slice (some ⟨b, off, none⟩) 2 sc) ∧ W.cell? ⟨w.heap.size + 1, 0, none⟩ = some (.bool false) ∧ W.cell? ⟨w.heap.size + 1, 1, none⟩ = some (.int .i64 gc) ∧ W.cell? ⟨w.heap.size + 1, 2, none⟩ = some (.int .u64 (gg : Int)) ∧ W.cell? ⟨w.heap.size + 1, 3, none⟩ = some (.slice gra grl grc) ∧ W.cell? ⟨w.heap.size + 1, 4, none⟩ = some (.slice gca gcl gcc) ∧ W.cell? ⟨w.heap.size + 1, 5, none⟩ = some (.slice gpa gpl gpc)) := fun W h => by obtain ⟨a0, a1, a2⟩ := tri_cells (heap_old (heap_old T0.out (Below.refl _ _)) h); obtain ⟨c0, c1, c2, c3, c4, c5⟩ := six_cells (heap_old (heap_old T1.out (Below.refl _ _)) h); exact ⟨a0, a1, a2, c0, c1, c2, c3, c4, c5⟩
  clear x0 x1 x2 y0 y1 y2 y3 y4 y5
  obtain ⟨m0, m1, m2, m3, m4, m5, m6, m7, m8⟩ := EN.out _ (Below.refl _ _)
  have D0 : Hid (Below W0.heap.size W0 W0.drew) := (Below.refl _ _).drew
  refine wp_region_held_drew (S := (fun w' => w'.cell? ⟨w.heap.size, 0, none⟩ = some (.int .i64 5) ∧ w'.cell? ⟨w.heap.size, 1, none⟩ = some (.int .i64 0) ∧ w'.cell? ⟨w.heap.size, 2, none⟩ = some (.slice (some ⟨b, off, none⟩) 2 sc) ∧ w'.cell? ⟨w.heap.size + 1, 0, none⟩ = some (.bool false) ∧ w'.cell? ⟨w.heap.size + 1, 1, none⟩ = some (.int .i64 gc) ∧ w'.cell? ⟨w.heap.size + 1, 2, none⟩ = some (.int .u64 (gg : Int)) ∧ w'.cell? ⟨w.heap.size + 1, 3, none⟩ = some (.slice gra grl grc) ∧ w'.cell? ⟨w.heap.size + 1, 4, none⟩ = some (.slice gca gcl gcc) ∧ w'.cell? ⟨w.heap.size + 1, 5, none⟩ = some (.slice gpa gpl gpc))) (by kernel_rfl) (by with_reducible exact EN.out _ D0.out) (fun hHeld => ?_)
  refine wpAnyH_take (i := 0) (oi := { dst := some 78, op := Op.load 67 (Operand.tmp 3), type := 67, pos := "ref.go:88", after := #[], guard := none }) (v := ?v0x3) rfl (by kernel_rfl) (by kernel_rfl) (by kernel_rfl) (fun _ _ _ h => h) (Or.inl ⟨by rfl, ?hy0x3⟩) (by assumption) ?rest0x3
  case hy0x3 => (intro w hSw; (try dsimp only at hSw); go_simp; try with_reducible rfl)
  try simp only [Act.put, List.setIfInBounds_toArray, List.set_cons_zero, List.set_cons_succ]
  refine wpAnyH_ready (rs := [1]) (by kernel_rfl) (by simp) (AllReadyH.cons (o := { dst := some 79, op := Op.call { callee := Callee.value (Operand.func 50), args := #[Operand.tmp 78, Operand.const (Value.bool false), Operand.const (Value.bool false), Operand.const (Value.bool false), Operand.const (Value.bool true)], argTypes := #[67, 4, 4, 4, 4] }, type := 4, pos := "ref.go:88", after := #[{ on := 0, ground := Ground.data }], guard := none }) rfl (fun K hK => ?_) AllReadyH.nil)
  go_simp
  go_at_call 50
  refine (plainR_4 ⟨false, gc, gg, gra, grl, grc, grows, gca, gcl, gcc, gcells, gpa, gpl, gpc⟩ false HO.out _).mono ?_
  rintro e w2 ⟨rfl, hb2⟩
  have D1 : Hid (Below W0.heap.size W0 w2) := Lib.hid (D0.out.trans (hb2.mono D0.out.size))
  dsimp only
  refine hK.out _ _ (by with_reducible exact EN.out _ D1.out) (fun hHeld1 => ?_)
  clear hK K
  try simp only [Act.put, List.setIfInBounds_toArray, List.set_cons_zero, List.set_cons_succ]
  refine wpAnyH_take (i := 2) (oi := { dst := some 80, op := Op.move (Operand.tmp 79), type := 4, pos := "ref.go:88", after := #[{ on := 1, ground := Ground.data }, { on := 1, ground := Ground.chain }], guard := none }) (v := ?v2x3) rfl (by kernel_rfl) (by kernel_rfl) (by kernel_rfl) (fun _ _ _ h => h) (Or.inl ⟨by rfl, ?hy2x3⟩) (by assumption) ?rest2x3
  case hy2x3 => (intro w hSw; (try dsimp only at hSw); go_simp; try with_reducible rfl)
  try simp only [Act.put, List.setIfInBounds_toArray, List.set_cons_zero, List.set_cons_succ]
  refine wpAnyH_take (i := 3) (oi := { dst := some 81, op := Op.fieldAddr 67 (Operand.tmp 3) 4, type := 0, pos := "ref.go:88", after := #[{ on := 2, ground := Ground.guard }], guard := some (2, true) }) (v := undef) rfl (by kernel_rfl) (by kernel_rfl) (by kernel_rfl) (fun _ _ _ h => h) (Or.inr ⟨by rfl, rfl⟩) (by assumption) ?rest3x3
  try simp only [Act.put, List.setIfInBounds_toArray, List.set_cons_zero, List.set_cons_succ]
  refine wpAnyH_take (i := 4) (oi := { dst := some 82, op := Op.load 65 (Operand.tmp 81), type := 65, pos := "ref.go:88", after := #[{ on := 3, ground := Ground.data }, { on := 2, ground := Ground.guard }], guard := some (2, true) }) (v := undef) rfl (by kernel_rfl) (by kernel_rfl) (by kernel_rfl) (fun _ _ _ h => h) (Or.inr ⟨by rfl, rfl⟩) (by assumption) ?rest4x3
  try simp only [Act.put, List.setIfInBounds_toArray, List.set_cons_zero, List.set_cons_succ]
  refine wpAnyH_take (i := 5) (oi := { dst := some 83, op := Op.call { callee := Callee.builtin Builtin.len, args := #[Operand.tmp 82], argTypes := #[65] }, type := 3, pos := "ref.go:88", after := #[{ on := 4, ground := Ground.data }, { on := 2, ground := Ground.guard }], guard := some (2, true) }) (v := undef) rfl (by kernel_rfl) (by kernel_rfl) (by kernel_rfl) (fun _ _ _ h => h) (Or.inr ⟨by rfl, rfl⟩) (by assumption) ?rest5x3
  try simp only [Act.put, List.setIfInBounds_toArray, List.set_cons_zero, List.set_cons_succ]
  refine wpAnyH_take (i := 6) (oi := { dst := some 84, op := Op.binOp BinOp.eql 3 (Operand.tmp 83) (Operand.const (Value.int IntKind.i64 2)) 3, type := 4, pos := "ref.go:88", after := #[{ on := 5, ground := Ground.data }, { on := 2, ground := Ground.guard }], guard := some (2, true) }) (v := undef) rfl (by kernel_rfl) (by kernel_rfl) (by kernel_rfl) (fun _ _ _ h => h) (Or.inr ⟨by rfl, rfl⟩) (by assumption) ?rest6x3
  try simp only [Act.put, List.setIfInBounds_toArray, List.set_cons_zero, List.set_cons_succ]
  refine wpAnyH_take (i := 7) (oi := { dst := some 85, op := Op.pick (Operand.tmp 80) (Operand.tmp 84) (Operand.const (Value.bool false)), type := 4, pos := "ref.go:88", after := #[{ on := 2, ground := Ground.data }, { on := 6, ground := Ground.data }], guard := none }) (v := ?v7x3) rfl (by kernel_rfl) (by kernel_rfl) (by kernel_rfl) (fun _ _ _ h => h) (Or.inl ⟨by rfl, ?hy7x3⟩) (by assumption) ?rest7x3
  case hy7x3 => (intro w hSw; (try dsimp only at hSw); go_simp; try with_reducible rfl)
  try simp only [Act.put, List.setIfInBounds_toArray, List.set_cons_zero, List.set_cons_succ]
  refine wpAnyH_take (i := 8) (oi := { dst := some 86, op := Op.move (Operand.tmp 85), type := 4, pos := "ref.go:88", after := #[{ on := 7, ground := Ground.data }, { on := 2, ground := Ground.chain }], guard := none }) (v := ?v8x3) rfl (by kernel_rfl) (by kernel_rfl) (by kernel_rfl) (fun _ _ _ h => h) (Or.inl ⟨by rfl, ?hy8x3⟩) (by assumption) ?rest8x3
  case hy8x3 => (intro w hSw; (try dsimp only at hSw); go_simp; try with_reducible rfl)
  try simp only [Act.put, List.setIfInBounds_toArray, List.set_cons_zero, List.set_cons_succ]
  refine wpAnyH_take (i := 9) (oi := { dst := some 87, op := Op.fieldAddr 35 (Operand.tmp 2) 2, type := 0, pos := "ref.go:88", after := #[{ on := 8, ground := Ground.guard }], guard := some (8, true) }) (v := undef) rfl (by kernel_rfl) (by kernel_rfl) (by kernel_rfl) (fun _ _ _ h => h) (Or.inr ⟨by rfl, rfl⟩) (by assumption) ?rest9x3
  try simp only [Act.put, List.setIfInBounds_toArray, List.set_cons_zero, List.set_cons_succ]
  refine wpAnyH_take (i := 10) (oi := { dst := some 88, op := Op.load 33 (Operand.tmp 87), type := 33, pos := "ref.go:88", after := #[{ on := 9, ground := Ground.data }, { on := 8, ground := Ground.guard }], guard := some (8, true) }) (v := undef) rfl (by kernel_rfl) (by kernel_rfl) (by kernel_rfl) (fun _ _ _ h => h) (Or.inr ⟨by rfl, rfl⟩) (by assumption) ?rest10x3
  try simp only [Act.put, List.setIfInBounds_toArray, List.set_cons_zero, List.set_cons_succ]
  refine wpAnyH_take (i := 11) (oi := { dst := some 89, op := Op.indexAddr 33 (Operand.tmp 88) (Operand.const (Value.int IntKind.i64 0)), type := 0, pos := "ref.go:88", after := #[{ on := 10, ground := Ground.data }, { on := 8, ground := Ground.guard }], guard := some (8, true) }) (v := undef) rfl (by kernel_rfl) (by kernel_rfl) (by kernel_rfl) (fun _ _ _ h => h) (Or.inr ⟨by rfl, rfl⟩) (by assumption) ?rest11x3
  try simp only [Act.put, List.setIfInBounds_toArray, List.set_cons_zero, List.set_cons_succ]
  refine wpAnyH_take (i := 12) (oi := { dst := some 90, op := Op.load 35 (Operand.tmp 89), type := 35, pos := "ref.go:88", after := #[{ on := 11, ground := Ground.data }, { on := 8, ground := Ground.guard }], guard := some (8, true) }) (v := undef) rfl (by kernel_rfl) (by kernel_rfl) (by kernel_rfl) (fun _ _ _ h => h) (Or.inr ⟨by rfl, rfl⟩) (by assumption) ?rest12x3
  try simp only [Act.put, List.setIfInBounds_toArray, List.set_cons_zero, List.set_cons_succ]
  refine wpAnyH_take (i := 13) (oi := { dst := some 91, op := Op.fieldAddr 67 (Operand.tmp 3) 4, type := 0, pos := "ref.go:88", after := #[{ on := 8, ground := Ground.guard }], guard := some (8, true) }) (v := undef) rfl (by kernel_rfl) (by kernel_rfl) (by kernel_rfl) (fun _ _ _ h => h) (Or.inr ⟨by rfl, rfl⟩) (by assumption) ?rest13x3
  try simp only [Act.put, List.setIfInBounds_toArray, List.set_cons_zero, List.set_cons_succ]
  refine wpAnyH_take (i := 14) (oi := { dst := some 92, op := Op.load 65 (Operand.tmp 91), type := 65, pos := "ref.go:88", after := #[{ on := 13, ground := Ground.data }, { on := 8, ground := Ground.guard }], guard := some (8, true) }) (v := undef) rfl (by kernel_rfl) (by kernel_rfl) (by kernel_rfl) (fun _ _ _ h => h) (Or.inr ⟨by rfl, rfl⟩) (by assumption) ?rest14x3
  try simp only [Act.put, List.setIfInBounds_toArray, List.set_cons_zero, List.set_cons_succ]
  refine wpAnyH_take (i := 15) (oi := { dst := some 93, op := Op.indexAddr 65 (Operand.tmp 92) (Operand.const (Value.int IntKind.i64 0)), type := 0, pos := "ref.go:88", after := #[{ on := 14, ground := Ground.data }, { on := 8, ground := Ground.guard }], guard := some (8, true) }) (v := undef) rfl (by kernel_rfl) (by kernel_rfl) (by kernel_rfl) (fun _ _ _ h => h) (Or.inr ⟨by rfl, rfl⟩) (by assumption) ?rest15x3
  try simp only [Act.put, List.setIfInBounds_toArray, List.set_cons_zero, List.set_cons_succ]
  refine wpAnyH_take (i := 16) (oi := { dst := some 94, op := Op.load 67 (Operand.tmp 93), type := 67, pos := "ref.go:88", after := #[{ on := 15, ground := Ground.data }, { on := 8, ground := Ground.guard }], guard := some (8, true) }) (v := undef) rfl (by kernel_rfl) (by kernel_rfl) (by kernel_rfl) (fun _ _ _ h => h) (Or.inr ⟨by rfl, rfl⟩) (by assumption) ?rest16x3
  try simp only [Act.put, List.setIfInBounds_toArray, List.set_cons_zero, List.set_cons_succ]
  refine wpAnyH_take (i := 17) (oi := { dst := some 95, op := Op.call { callee := Callee.value (Operand.func 49), args := #[Operand.tmp 90, Operand.tmp 94], argTypes := #[35, 67] }, type := 4, pos := "ref.go:88", after := #[{ on := 12, ground := Ground.data }, { on := 16, ground := Ground.data }, { on := 8, ground := Ground.chain }, { on := 8, ground := Ground.guard }], guard := some (8, true) }) (v := undef) rfl (by kernel_rfl) (by kernel_rfl) (by kernel_rfl) (fun _ _ _ h => h) (Or.inr ⟨by rfl, rfl⟩) (by assumption) ?rest17x3
  try simp only [Act.put, List.setIfInBounds_toArray, List.set_cons_zero, List.set_cons_succ]
  refine wpAnyH_take (i := 18) (oi := { dst := some 96, op := Op.pick (Operand.tmp 86) (Operand.tmp 95) (Operand.const (Value.bool false)), type := 4, pos := "ref.go:88", after := #[{ on := 8, ground := Ground.data }, { on := 17, ground := Ground.data }], guard := none }) (v := ?v18x3) rfl (by kernel_rfl) (by kernel_rfl) (by kernel_rfl) (fun _ _ _ h => h) (Or.inl ⟨by rfl, ?hy18x3⟩) (by assumption) ?rest18x3
  case hy18x3 => (intro w hSw; (try dsimp only at hSw); go_simp; try with_reducible rfl)
  try simp only [Act.put, List.setIfInBounds_toArray, List.set_cons_zero, List.set_cons_succ]
  refine wpAnyH_take (i := 19) (oi := { dst := some 97, op := Op.move (Operand.tmp 96), type := 4, pos := "ref.go:88", after := #[{ on := 18, ground := Ground.data }, { on := 17, ground := Ground.chain }], guard := none }) (v := ?v19x3) rfl (by kernel_rfl) (by kernel_rfl) (by kernel_rfl) (fun _ _ _ h => h) (Or.inl ⟨by rfl, ?hy19x3⟩) (by assumption) ?rest19x3
  case hy19x3 => (intro w hSw; (try dsimp only at hSw); go_simp; try with_reducible rfl)
  try simp only [Act.put, List.setIfInBounds_toArray, List.set_cons_zero, List.set_cons_succ]
  refine wpAnyH_take (i := 20) (oi := { dst := some 98, op := Op.fieldAddr 35 (Operand.tmp 2) 2, type := 0, pos := "ref.go:88", after := #[{ on := 19, ground := Ground.guard }], guard := some (19, true) }) (v := undef) rfl (by kernel_rfl) (by kernel_rfl) (by kernel_rfl) (fun _ _ _ h => h) (Or.inr ⟨by rfl, rfl⟩) (by assumption) ?rest20x3
  try simp only [Act.put, List.setIfInBounds_toArray, List.set_cons_zero, List.set_cons_succ]
  refine wpAnyH_take (i := 21) (oi := { dst := some 99, op := Op.load 33 (Operand.tmp 98), type := 33, pos := "ref.go:88", after := #[{ on := 20, ground := Ground.data }, { on := 19, ground := Ground.guard }], guard := some (19, true) }) (v := undef) rfl (by kernel_rfl) (by kernel_rfl) (by kernel_rfl) (fun _ _ _ h => h) (Or.inr ⟨by rfl, rfl⟩) (by assumption) ?rest21x3
  try simp only [Act.put, List.setIfInBounds_toArray, List.set_cons_zero, List.set_cons_succ]
  refine wpAnyH_take (i := 22) (oi := { dst := some 100, op := Op.indexAddr 33 (Operand.tmp 99) (Operand.const (Value.int IntKind.i64 1)), type := 0, pos := "ref.go:88", after := #[{ on := 21, ground := Ground.data }, { on := 19, ground := Ground.guard }], guard := some (19, true) }) (v := undef) rfl (by kernel_rfl) (by kernel_rfl) (by kernel_rfl) (fun _ _ _ h => h) (Or.inr ⟨by rfl, rfl⟩) (by assumption) ?rest22x3
  try simp only [Act.put, List.setIfInBounds_toArray, List.set_cons_zero, List.set_cons_succ]
  refine wpAnyH_take (i := 23) (oi := { dst := some 101, op := Op.load 35 (Operand.tmp 100), type := 35, pos := "ref.go:88", after := #[{ on := 22, ground := Ground.data }, { on := 19, ground := Ground.guard }], guard := some (19, true) }) (v := undef) rfl (by kernel_rfl) (by kernel_rfl) (by kernel_rfl) (fun _ _ _ h => h) (Or.inr ⟨by rfl, rfl⟩) (by assumption) ?rest23x3
  try simp only [Act.put, List.setIfInBounds_toArray, List.set_cons_zero, List.set_cons_succ]
  refine wpAnyH_take (i := 24) (oi := { dst := some 102, op := Op.fieldAddr 67 (Operand.tmp 3) 4, type := 0, pos := "ref.go:88", after := #[{ on := 19, ground := Ground.guard }], guard := some (19, true) }) (v := undef) rfl (by kernel_rfl) (by kernel_rfl) (by kernel_rfl) (fun _ _ _ h => h) (Or.inr ⟨by rfl, rfl⟩) (by assumption) ?rest24x3
  try simp only [Act.put, List.setIfInBounds_toArray, List.set_cons_zero, List.set_cons_succ]
  refine wpAnyH_take (i := 25) (oi := { dst := some 103, op := Op.load 65 (Operand.tmp 102), type := 65, pos := "ref.go:88", after := #[{ on := 24, ground := Ground.data }, { on := 19, ground := Ground.guard }], guard := some (19, true) }) (v := undef) rfl (by kernel_rfl) (by kernel_rfl) (by kernel_rfl) (fun _ _ _ h => h) (Or.inr ⟨by rfl, rfl⟩) (by assumption) ?rest25x3
  try simp only [Act.put, List.setIfInBounds_toArray, List.set_cons_zero, List.set_cons_succ]
  refine wpAnyH_take (i := 26) (oi := { dst := some 104, op := Op.indexAddr 65 (Operand.tmp 103) (Operand.const (Value.int IntKind.i64 1)), type := 0, pos := "ref.go:88", after := #[{ on := 25, ground := Ground.data }, { on := 19, ground := Ground.guard }], guard := some (19, true) }) (v := undef) rfl (by kernel_rfl) (by kernel_rfl) (by kernel_rfl) (fun _ _ _ h => h) (Or.inr ⟨by rfl, rfl⟩) (by assumption) ?rest26x3
  try simp only [Act.put, List.setIfInBounds_toArray, List.set_cons_zero, List.set_cons_succ]
  refine wpAnyH_take (i := 27) (oi := { dst := some 105, op := Op.load 67 (Operand.tmp 104), type := 67, pos := "ref.go:88", after := #[{ on := 26, ground := Ground.data }, { on := 19, ground := Ground.guard }], guard := some (19, true) }) (v := undef) rfl (by kernel_rfl) (by kernel_rfl) (by kernel_rfl) (fun _ _ _ h => h) (Or.inr ⟨by rfl, rfl⟩) (by assumption) ?rest27x3
  try simp only [Act.put, List.setIfInBounds_toArray, List.set_cons_zero, List.set_cons_succ]
  refine wpAnyH_take (i := 28) (oi := { dst := some 106, op := Op.call { callee := Callee.value (Operand.func 49), args := #[Operand.tmp 101, Operand.tmp 105], argTypes := #[35, 67] }, type := 4, pos := "ref.go:88", after := #[{ on := 23, ground := Ground.data }, { on := 27, ground := Ground.data }, { on := 19, ground := Ground.chain }, { on := 19, ground := Ground.guard }], guard := some (19, true) }) (v := undef) rfl (by kernel_rfl) (by kernel_rfl) (by kernel_rfl) (fun _ _ _ h => h) (Or.inr ⟨by rfl, rfl⟩) (by assumption) ?rest28x3
  try simp only [Act.put, List.setIfInBounds_toArray, List.set_cons_zero, List.set_cons_succ]
  refine wpAnyH_take (i := 29) (oi := { dst := some 107, op := Op.pick (Operand.tmp 97) (Operand.tmp 106) (Operand.const (Value.bool false)), type := 4, pos := "ref.go:88", after := #[{ on := 19, ground := Ground.data }, { on := 28, ground := Ground.data }], guard := none }) (v := ?v29x3) rfl (by kernel_rfl) (by kernel_rfl) (by kernel_rfl) (fun _ _ _ h => h) (Or.inl ⟨by rfl, ?hy29x3⟩) (by assumption) ?rest29x3
  case hy29x3 => (intro w hSw; (try dsimp only at hSw); go_simp; try with_reducible rfl)
  try simp only [Act.put, List.setIfInBounds_toArray, List.set_cons_zero, List.set_cons_succ]
  refine wpAnyH_take (i := 30) (oi := { dst := some 4, op := Op.assign (Operand.tmp 107), type := 4, pos := "ref.go:88", after := #[{ on := 29, ground := Ground.data }, { on := 28, ground := Ground.chain }, { on := 0, ground := Ground.phase }, { on := 1, ground := Ground.phase }, { on := 2, ground := Ground.phase }, { on := 3, ground := Ground.phase }, { on := 4, ground := Ground.phase }, { on := 5, ground := Ground.phase }, { on := 6, ground := Ground.phase }, { on := 7, ground := Ground.phase }, { on := 8, ground := Ground.phase }, { on := 9, ground := Ground.phase }, { on := 10, ground := Ground.phase }, { on := 11, ground := Ground.phase }, { on := 12, ground := Ground.phase }, { on := 13, ground := Ground.phase }, { on := 14, ground := Ground.phase }, { on := 15, ground := Ground.phase }, { on := 16, ground := Ground.phase }, { on := 17, ground := Ground.phase }, { on := 18, ground := Ground.phase }, { on := 19, ground := Ground.phase }, { on := 20, ground := Ground.phase }, { on := 21, ground := Ground.phase }, { on := 22, ground := Ground.phase }, { on := 23, ground := Ground.phase }, { on := 24, ground := Ground.phase }, { on := 25, ground := Ground.phase }, { on := 26, ground := Ground.phase }, { on := 27, ground := Ground.phase }, { on := 28, ground := Ground.phase }, { on := 29, ground := Ground.phase }], guard := none }) (v := ?v30x3) rfl (by kernel_rfl) (by kernel_rfl) (by kernel_rfl) (fun _ _ _ h => h) (Or.inl ⟨by rfl, ?hy30x3⟩) (by assumption) ?rest30x3
  case hy30x3 => (intro w hSw; (try dsimp only at hSw); go_simp; try with_reducible rfl)
  try simp only [Act.put, List.setIfInBounds_toArray, List.set_cons_zero, List.set_cons_succ]
  refine wpAnyH_done (by kernel_rfl) ?_ _
  all_goals (go_wp2_with fail; go_ret; exact ⟨rbool HF.out, hB.out.trans (D1.out.mono hB.out.size)⟩)
 by_cases hl2 : gpl = 2
 rotate_left
 ·have hne : ((gpl : Int) == 2) = false := by simp; omega
  have HF : Hid (false = r) := by show _ = _; rw [← HR.out, pairOk, decide_eq_false (by omega)]; simp
  clear hr hbb hsp hw hs hp hq hp3 hq3
  go_enter Try.func49, Try.ntmps49
  go_wp2_with fail
  have EN : Hid (∀ W : World, Below W0.heap.size W0 W → W.cell? ⟨w.heap.size, 0, none⟩ = some (.int .i64 5) ∧ W.cell? ⟨w.heap.size, 1, none⟩ = some (.int .i64 0) ∧ W.cell? ⟨w.heap.size, 2, none⟩ = some (.slice (some ⟨b, off, none⟩) 2 sc) ∧ W.cell? ⟨w.heap.size + 1, 0, none⟩ = some (.bool false) ∧ W.cell? ⟨w.heap.size + 1, 1, none⟩ = some (.int .i64 gc) ∧ W.cell? ⟨w.heap.size + 1, 2, none⟩ = some (.int .u64 (gg : Int)) ∧ W.cell? ⟨w.heap.size + 1, 3, none⟩ = some (.slice gra grl grc) ∧ W.cell? ⟨w.heap.size + 1, 4, none⟩ = some (.slice gca gcl gcc) ∧ W.cell? ⟨w.heap.size + 1, 5, none⟩ = some (.slice gpa gpl gpc)) := fun W h => by obtain ⟨a0, a1, a2⟩ := tri_cells (heap_old (heap_old T0.out (Below.refl _ _)) h); obtain ⟨c0, c1, c2, c3, c4, c5⟩ := six_cells (heap_old (heap_old T1.out (Below.refl _ _)) h); exact ⟨a0, a1, a2, c0, c1, c2, c3, c4, c5⟩
  clear x0 x1 x2 y0 y1 y2 y3 y4 y5
  obtain ⟨m0, m1, m2, m3, m4, m5, m6, m7, m8⟩ := EN.out _ (Below.refl _ _)
  have D0 : Hid (Below W0.heap.size W0 W0.drew) := (Below.refl _ _).drew
  refine wp_region_held_drew (S := (fun w' => w'.cell? ⟨w.heap.size, 0, none⟩ = some (.int .i64 5) ∧ w'.cell? ⟨w.heap.size, 1, none⟩ = some (.int .i64 0) ∧ w'.cell? ⟨w.heap.size, 2, none⟩ = some (.slice (some ⟨b, off, none⟩) 2 sc) ∧ w'.cell? ⟨w.heap.size + 1, 0, none⟩ = some (.bool false) ∧ w'.cell? ⟨w.heap.size + 1, 1, none⟩ = some (.int .i64 gc) ∧ w'.cell? ⟨w.heap.size + 1, 2, none⟩ = some (.int .u64 (gg : Int)) ∧ w'.cell? ⟨w.heap.size + 1, 3, none⟩ = some (.slice gra grl grc) ∧ w'.cell? ⟨w.heap.size + 1, 4, none⟩ = some (.slice gca gcl gcc) ∧ w'.cell? ⟨w.heap.size + 1, 5, none⟩ = some (.slice gpa gpl gpc))) (by kernel_rfl) (by with_reducible exact EN.out _ D0.out) (fun hHeld => ?_)
  refine wpAnyH_take (i := 0) (oi := { dst := some 78, op := Op.load 67 (Operand.tmp 3), type := 67, pos := "ref.go:88", after := #[], guard := none }) (v := ?v0x4) rfl (by kernel_rfl) (by kernel_rfl) (by kernel_rfl) (fun _ _ _ h => h) (Or.inl ⟨by rfl, ?hy0x4⟩) (by assumption) ?rest0x4
  case hy0x4 => (intro w hSw; (try dsimp only at hSw); go_simp; try with_reducible rfl)
  try simp only [Act.put, List.setIfInBounds_toArray, List.set_cons_zero, List.set_cons_succ]
  refine wpAnyH_ready (rs := [1]) (by kernel_rfl) (by simp) (AllReadyH.cons (o := { dst := some 79, op := Op.call { callee := Callee.value (Operand.func 50), args := #[Operand.tmp 78, Operand.const (Value.bool false), Operand.const (Value.bool false), Operand.const (Value.bool false), Operand.const (Value.bool true)], argTypes := #[67, 4, 4, 4, 4] }, type := 4, pos := "ref.go:88", after := #[{ on := 0, ground := Ground.data }], guard := none }) rfl (fun K hK => ?_) AllReadyH.nil)
  go_simp
  go_at_call 50
  refine (plainR_4 ⟨false, gc, gg, gra, grl, grc, grows, gca, gcl, gcc, gcells, gpa, gpl, gpc⟩ true HO.out _).mono ?_
  rintro e w2 ⟨rfl, hb2⟩
  have D1 : Hid (Below W0.heap.size W0 w2) := Lib.hid (D0.out.trans (hb2.mono D0.out.size))
  dsimp only
  refine hK.out _ _ (by with_reducible exact EN.out _ D1.out) (fun hHeld1 => ?_)
  clear hK K
  try simp only [Act.put, List.setIfInBounds_toArray, List.set_cons_zero, List.set_cons_succ]
  refine wpAnyH_take (i := 2) (oi := { dst := some 80, op := Op.move (Operand.tmp 79), type := 4, pos := "ref.go:88", after := #[{ on := 1, ground := Ground.data }, { on := 1, ground := Ground.chain }], guard := none }) (v := ?v2x4) rfl (by kernel_rfl) (by kernel_rfl) (by kernel_rfl) (fun _ _ _ h => h) (Or.inl ⟨by rfl, ?hy2x4⟩) (by assumption) ?rest2x4
  case hy2x4 => (intro w hSw; (try dsimp only at hSw); go_simp; try with_reducible rfl)
  try simp only [Act.put, List.setIfInBounds_toArray, List.set_cons_zero, List.set_cons_succ]
  refine wpAnyH_take (i := 3) (oi := { dst := some 81, op := Op.fieldAddr 67 (Operand.tmp 3) 4, type := 0, pos := "ref.go:88", after := #[{ on := 2, ground := Ground.guard }], guard := some (2, true) }) (v := ?v3x4) rfl (by kernel_rfl) (by kernel_rfl) (by kernel_rfl) (fun _ _ _ h => h) (Or.inl ⟨by rfl, ?hy3x4⟩) (by assumption) ?rest3x4
  case hy3x4 => (intro w hSw; (try dsimp only at hSw); go_simp; try with_reducible rfl)
  try simp only [Act.put, List.setIfInBounds_toArray, List.set_cons_zero, List.set_cons_succ]
  refine wpAnyH_take (i := 4) (oi := { dst := some 82, op := Op.load 65 (Operand.tmp 81), type := 65, pos := "ref.go:88", after := #[{ on := 3, ground := Ground.data }, { on := 2, ground := Ground.guard }], guard := some (2, true) }) (v := ?v4x4) rfl (by kernel_rfl) (by kernel_rfl) (by kernel_rfl) (fun _ _ _ h => h) (Or.inl ⟨by rfl, ?hy4x4⟩) (by assumption) ?rest4x4
  case hy4x4 => (intro w hSw; (try dsimp only at hSw); go_simp; try with_reducible rfl)
  try simp only [Act.put, List.setIfInBounds_toArray, List.set_cons_zero, List.set_cons_succ]
  refine wpAnyH_take (i := 5) (oi := { dst := some 83, op := Op.call { callee := Callee.builtin Builtin.len, args := #[Operand.tmp 82], argTypes := #[65] }, type := 3, pos := "ref.go:88", after := #[{ on := 4, ground := Ground.data }, { on := 2, ground := Ground.guard }], guard := some (2, true) }) (v := ?v5x4) rfl (by kernel_rfl) (by kernel_rfl) (by kernel_rfl) (fun _ _ _ h => h) (Or.inl ⟨by rfl, ?hy5x4⟩) (by assumption) ?rest5x4
  case hy5x4 => (intro w hSw; (try dsimp only at hSw); go_simp; try with_reducible rfl)
  try simp only [Act.put, List.setIfInBounds_toArray, List.set_cons_zero, List.set_cons_succ]
  refine wpAnyH_take (i := 6) (oi := { dst := some 84, op := Op.binOp BinOp.eql 3 (Operand.tmp 83) (Operand.const (Value.int IntKind.i64 2)) 3, type := 4, pos := "ref.go:88", after := #[{ on := 5, ground := Ground.data }, { on := 2, ground := Ground.guard }], guard := some (2, true) }) (v := ?v6x4) rfl (by kernel_rfl) (by kernel_rfl) (by kernel_rfl) (fun _ _ _ h => h) (Or.inl ⟨by rfl, ?hy6x4⟩) (by assumption) ?rest6x4
  case hy6x4 => (intro w hSw; (try dsimp only at hSw); go_simp; try with_reducible rfl)
  try simp only [Act.put, List.setIfInBounds_toArray, List.set_cons_zero, List.set_cons_succ]
  refine wpAnyH_take (i := 7) (oi := { dst := some 85, op := Op.pick (Operand.tmp 80) (Operand.tmp 84) (Operand.const (Value.bool false)), type := 4, pos := "ref.go:88", after := #[{ on := 2, ground := Ground.data }, { on := 6, ground := Ground.data }], guard := none }) (v := ?v7x4) rfl (by kernel_rfl) (by kernel_rfl) (by kernel_rfl) (fun _ _ _ h => h) (Or.inl ⟨by rfl, ?hy7x4⟩) (by assumption) ?rest7x4
  case hy7x4 => (intro w hSw; (try dsimp only at hSw); go_simp; try with_reducible rfl)
  try simp only [Act.put, List.setIfInBounds_toArray, List.set_cons_zero, List.set_cons_succ]
  refine wpAnyH_take (i := 8) (oi := { dst := some 86, op := Op.move (Operand.tmp 85), type := 4, pos := "ref.go:88", after := #[{ on := 7, ground := Ground.data }, { on := 2, ground := Ground.chain }], guard := none }) (v := ?v8x4) rfl (by kernel_rfl) (by kernel_rfl) (by kernel_rfl) (fun _ _ _ h => h) (Or.inl ⟨by rfl, ?hy8x4⟩) (by assumption) ?rest8x4
  case hy8x4 => (intro w hSw; (try dsimp only at hSw); go_simp; try with_reducible rfl)
  try simp only [Act.put, List.setIfInBounds_toArray, List.set_cons_zero, List.set_cons_succ]
  refine wpAnyH_take (i := 9) (oi := { dst := some 87, op := Op.fieldAddr 35 (Operand.tmp 2) 2, type := 0, pos := "ref.go:88", after := #[{ on := 8, ground := Ground.guard }], guard := some (8, true) }) (v := undef) rfl (by kernel_rfl) (by kernel_rfl) (by kernel_rfl) (fun _ _ _ h => h) (Or.inr ⟨by rfl, rfl⟩) (by assumption) ?rest9x4
  try simp only [Act.put, List.setIfInBounds_toArray, List.set_cons_zero, List.set_cons_succ]
  refine wpAnyH_take (i := 10) (oi := { dst := some 88, op := Op.load 33 (Operand.tmp 87), type := 33, pos := "ref.go:88", after := #[{ on := 9, ground := Ground.data }, { on := 8, ground := Ground.guard }], guard := some (8, true) }) (v := undef) rfl (by kernel_rfl) (by kernel_rfl) (by kernel_rfl) (fun _ _ _ h => h) (Or.inr ⟨by rfl, rfl⟩) (by assumption) ?rest10x4
  try simp only [Act.put, List.setIfInBounds_toArray, List.set_cons_zero, List.set_cons_succ]
  refine wpAnyH_take (i := 11) (oi := { dst := some 89, op := Op.indexAddr 33 (Operand.tmp 88) (Operand.const (Value.int IntKind.i64 0)), type := 0, pos := "ref.go:88", after := #[{ on := 10, ground := Ground.data }, { on := 8, ground := Ground.guard }], guard := some (8, true) }) (v := undef) rfl (by kernel_rfl) (by kernel_rfl) (by kernel_rfl) (fun _ _ _ h => h) (Or.inr ⟨by rfl, rfl⟩) (by assumption) ?rest11x4
  try simp only [Act.put, List.setIfInBounds_toArray, List.set_cons_zero, List.set_cons_succ]
  refine wpAnyH_take (i := 12) (oi := { dst := some 90, op := Op.load 35 (Operand.tmp 89), type := 35, pos := "ref.go:88", after := #[{ on := 11, ground := Ground.data }, { on := 8, ground := Ground.guard }], guard := some (8, true) }) (v := undef) rfl (by kernel_rfl) (by kernel_rfl) (by kernel_rfl) (fun _ _ _ h => h) (Or.inr ⟨by rfl, rfl⟩) (by assumption) ?rest12x4
  try simp only [Act.put, List.setIfInBounds_toArray, List.set_cons_zero, List.set_cons_succ]
  refine wpAnyH_take (i := 13) (oi := { dst := some 91, op := Op.fieldAddr 67 (Operand.tmp 3) 4, type := 0, pos := "ref.go:88", after := #[{ on := 8, ground := Ground.guard }], guard := some (8, true) }) (v := undef) rfl (by kernel_rfl) (by kernel_rfl) (by kernel_rfl) (fun _ _ _ h => h) (Or.inr ⟨by rfl, rfl⟩) (by assumption) ?rest13x4
  try simp only [Act.put, List.setIfInBounds_toArray, List.set_cons_zero, List.set_cons_succ]
  refine wpAnyH_take (i := 14) (oi := { dst := some 92, op := Op.load 65 (Operand.tmp 91), type := 65, pos := "ref.go:88", after := #[{ on := 13, ground := Ground.data }, { on := 8, ground := Ground.guard }], guard := some (8, true) }) (v := undef) rfl (by kernel_rfl) (by kernel_rfl) (by kernel_rfl) (fun _ _ _ h => h) (Or.inr ⟨by rfl, rfl⟩) (by assumption) ?rest14x4
  try simp only [Act.put, List.setIfInBounds_toArray, List.set_cons_zero, List.set_cons_succ]
  refine wpAnyH_take (i := 15) (oi := { dst := some 93, op := Op.indexAddr 65 (Operand.tmp 92) (Operand.const (Value.int IntKind.i64 0)), type := 0, pos := "ref.go:88", after := #[{ on := 14, ground := Ground.data }, { on := 8, ground := Ground.guard }], guard := some (8, true) }) (v := undef) rfl (by kernel_rfl) (by kernel_rfl) (by kernel_rfl) (fun _ _ _ h => h) (Or.inr ⟨by rfl, rfl⟩) (by assumption) ?rest15x4
  try simp only [Act.put, List.setIfInBounds_toArray, List.set_cons_zero, List.set_cons_succ]
  refine wpAnyH_take (i := 16) (oi := { dst := some 94, op := Op.load 67 (Operand.tmp 93), type := 67, pos := "ref.go:88", after := #[{ on := 15, ground := Ground.data }, { on := 8, ground := Ground.guard }], guard := some (8, true) }) (v := undef) rfl (by kernel_rfl) (by kernel_rfl) (by kernel_rfl) (fun _ _ _ h => h) (Or.inr ⟨by rfl, rfl⟩) (by assumption) ?rest16x4
  try simp only [Act.put, List.setIfInBounds_toArray, List.set_cons_zero, List.set_cons_succ]
  refine wpAnyH_take (i := 17) (oi := { dst := some 95, op := Op.call { callee := Callee.value (Operand.func 49), args := #[Operand.tmp 90, Operand.tmp 94], argTypes := #[35, 67] }, type := 4, pos := "ref.go:88", after := #[{ on := 12, ground := Ground.data }, { on := 16, ground := Ground.data }, { on := 8, ground := Ground.chain }, { on := 8, ground := Ground.guard }], guard := some (8, true) }) (v := undef) rfl (by kernel_rfl) (by kernel_rfl) (by kernel_rfl) (fun _ _ _ h => h) (Or.inr ⟨by rfl, rfl⟩) (by assumption) ?rest17x4
  try simp only [Act.put, List.setIfInBounds_toArray, List.set_cons_zero, List.set_cons_succ]
  refine wpAnyH_take (i := 18) (oi := { dst := some 96, op := Op.pick (Operand.tmp 86) (Operand.tmp 95) (Operand.const (Value.bool false)), type := 4, pos := "ref.go:88", after := #[{ on := 8, ground := Ground.data }, { on := 17, ground := Ground.data }], guard := none }) (v := ?v18x4) rfl (by kernel_rfl) (by kernel_rfl) (by kernel_rfl) (fun _ _ _ h => h) (Or.inl ⟨by rfl, ?hy18x4⟩) (by assumption) ?rest18x4
  case hy18x4 => (intro w hSw; (try dsimp only at hSw); go_simp; try with_reducible rfl)
  try simp only [Act.put, List.setIfInBounds_toArray, List.set_cons_zero, List.set_cons_succ]
  refine wpAnyH_take (i := 19) (oi := { dst := some 97, op := Op.move (Operand.tmp 96), type := 4, pos := "ref.go:88", after := #[{ on := 18, ground := Ground.data }, { on := 17, ground := Ground.chain }], guard := none }) (v := ?v19x4) rfl (by kernel_rfl) (by kernel_rfl) (by kernel_rfl) (fun _ _ _ h => h) (Or.inl ⟨by rfl, ?hy19x4⟩) (by assumption) ?rest19x4
  case hy19x4 => (intro w hSw; (try dsimp only at hSw); go_simp; try with_reducible rfl)
  try simp only [Act.put, List.setIfInBounds_toArray, List.set_cons_zero, List.set_cons_succ]
  refine wpAnyH_take (i := 20) (oi := { dst := some 98, op := Op.fieldAddr 35 (Operand.tmp 2) 2, type := 0, pos := "ref.go:88", after := #[{ on := 19, ground := Ground.guard }], guard := some (19, true) }) (v := undef) rfl (by kernel_rfl) (by kernel_rfl) (by kernel_rfl) (fun _ _ _ h => h) (Or.inr ⟨by rfl, rfl⟩) (by assumption) ?rest20x4
  try simp only [Act.put, List.setIfInBounds_toArray, List.set_cons_zero, List.set_cons_succ]
  refine wpAnyH_take (i := 21) (oi := { dst := some 99, op := Op.load 33 (Operand.tmp 98), type := 33, pos := "ref.go:88", after := #[{ on := 20, ground := Ground.data }, { on := 19, ground := Ground.guard }], guard := some (19, true) }) (v := undef) rfl (by kernel_rfl) (by kernel_rfl) (by kernel_rfl) (fun _ _ _ h => h) (Or.inr ⟨by rfl, rfl⟩) (by assumption) ?rest21x4
  try simp only [Act.put, List.setIfInBounds_toArray, List.set_cons_zero, List.set_cons_succ]
  refine wpAnyH_take (i := 22) (oi := { dst := some 100, op := Op.indexAddr 33 (Operand.tmp 99) (Operand.const (Value.int IntKind.i64 1)), type := 0, pos := "ref.go:88", after := #[{ on := 21, ground := Ground.data }, { on := 19, ground := Ground.guard }], guard := some (19, true) }) (v := undef) rfl (by kernel_rfl) (by kernel_rfl) (by kernel_rfl) (fun _ _ _ h => h) (Or.inr ⟨by rfl, rfl⟩) (by assumption) ?rest22x4
  try simp only [Act.put, List.setIfInBounds_toArray, List.set_cons_zero, List.set_cons_succ]
  refine wpAnyH_take (i := 23) (oi := { dst := some 101, op := Op.load 35 (Operand.tmp 100), type := 35, pos := "ref.go:88", after := #[{ on := 22, ground := Ground.data }, { on := 19, ground := Ground.guard }], guard := some (19, true) }) (v := undef) rfl (by kernel_rfl) (by kernel_rfl) (by kernel_rfl) (fun _ _ _ h => h) (Or.inr ⟨by rfl, rfl⟩) (by assumption) ?rest23x4
  try simp only [Act.put, List.setIfInBounds_toArray, List.set_cons_zero, List.set_cons_succ]
  refine wpAnyH_take (i := 24) (oi := { dst := some 102, op := Op.fieldAddr 67 (Operand.tmp 3) 4, type := 0, pos := "ref.go:88", after := #[{ on := 19, ground := Ground.guard }], guard := some (19, true) }) (v := undef) rfl (by kernel_rfl) (by kernel_rfl) (by kernel_rfl) (fun _ _ _ h => h) (Or.inr ⟨by rfl, rfl⟩) (by assumption) ?rest24x4
  try simp only [Act.put, List.setIfInBounds_toArray, List.set_cons_zero, List.set_cons_succ]
  refine wpAnyH_take (i := 25) (oi := { dst := some 103, op := Op.load 65 (Operand.tmp 102), type := 65, pos := "ref.go:88", after := #[{ on := 24, ground := Ground.data }, { on := 19, ground := Ground.guard }], guard := some (19, true) }) (v := undef) rfl (by kernel_rfl) (by kernel_rfl) (by kernel_rfl) (fun _ _ _ h => h) (Or.inr ⟨by rfl, rfl⟩) (by assumption) ?rest25x4
  try simp only [Act.put, List.setIfInBounds_toArray, List.set_cons_zero, List.set_cons_succ]
  refine wpAnyH_take (i := 26) (oi := { dst := some 104, op := Op.indexAddr 65 (Operand.tmp 103) (Operand.const (Value.int IntKind.i64 1)), type := 0, pos := "ref.go:88", after := #[{ on := 25, ground := Ground.data }, { on := 19, ground := Ground.guard }], guard := some (19, true) }) (v := undef) rfl (by kernel_rfl) (by kernel_rfl) (by kernel_rfl) (fun _ _ _ h => h) (Or.inr ⟨by rfl, rfl⟩) (by assumption) ?rest26x4
  try simp only [Act.put, List.setIfInBounds_toArray, List.set_cons_zero, List.set_cons_succ]
  refine wpAnyH_take (i := 27) (oi := { dst := some 105, op := Op.load 67 (Operand.tmp 104), type := 67, pos := "ref.go:88", after := #[{ on := 26, ground := Ground.data }, { on := 19, ground := Ground.guard }], guard := some (19, true) }) (v := undef) rfl (by kernel_rfl) (by kernel_rfl) (by kernel_rfl) (fun _ _ _ h => h) (Or.inr ⟨by rfl, rfl⟩) (by assumption) ?rest27x4
  try simp only [Act.put, List.setIfInBounds_toArray, List.set_cons_zero, List.set_cons_succ]
  refine wpAnyH_take (i := 28) (oi := { dst := some 106, op := Op.call { callee := Callee.value (Operand.func 49), args := #[Operand.tmp 101, Operand.tmp 105], argTypes := #[35, 67] }, type := 4, pos := "ref.go:88", after := #[{ on := 23, ground := Ground.data }, { on := 27, ground := Ground.data }, { on := 19, ground := Ground.chain }, { on := 19, ground := Ground.guard }], guard := some (19, true) }) (v := undef) rfl (by kernel_rfl) (by kernel_rfl) (by kernel_rfl) (fun _ _ _ h => h) (Or.inr ⟨by rfl, rfl⟩) (by assumption) ?rest28x4
  try simp only [Act.put, List.setIfInBounds_toArray, List.set_cons_zero, List.set_cons_succ]
  refine wpAnyH_take (i := 29) (oi := { dst := some 107, op := Op.pick (Operand.tmp 97) (Operand.tmp 106) (Operand.const (Value.bool false)), type := 4, pos := "ref.go:88", after := #[{ on := 19, ground := Ground.data }, { on := 28, ground := Ground.data }], guard := none }) (v := ?v29x4) rfl (by kernel_rfl) (by kernel_rfl) (by kernel_rfl) (fun _ _ _ h => h) (Or.inl ⟨by rfl, ?hy29x4⟩) (by assumption) ?rest29x4
  case hy29x4 => (intro w hSw; (try dsimp only at hSw); go_simp; try with_reducible rfl)
  try simp only [Act.put, List.setIfInBounds_toArray, List.set_cons_zero, List.set_cons_succ]
  refine wpAnyH_take (i := 30) (oi := { dst := some 4, op := Op.assign (Operand.tmp 107), type := 4, pos := "ref.go:88", after := #[{ on := 29, ground := Ground.data }, { on := 28, ground := Ground.chain }, { on := 0, ground := Ground.phase }, { on := 1, ground := Ground.phase }, { on := 2, ground := Ground.phase }, { on := 3, ground := Ground.phase }, { on := 4, ground := Ground.phase }, { on := 5, ground := Ground.phase }, { on := 6, ground := Ground.phase }, { on := 7, ground := Ground.phase }, { on := 8, ground := Ground.phase }, { on := 9, ground := Ground.phase }, { on := 10, ground := Ground.phase }, { on := 11, ground := Ground.phase }, { on := 12, ground := Ground.phase }, { on := 13, ground := Ground.phase }, { on := 14, ground := Ground.phase }, { on := 15, ground := Ground.phase }, { on := 16, ground := Ground.phase }, { on := 17, ground := Ground.phase }, { on := 18, ground := Ground.phase }, { on := 19, ground := Ground.phase }, { on := 20, ground := Ground.phase }, { on := 21, ground := Ground.phase }, { on := 22, ground := Ground.phase }, { on := 23, ground := Ground.phase }, { on := 24, ground := Ground.phase }, { on := 25, ground := Ground.phase }, { on := 26, ground := Ground.phase }, { on := 27, ground := Ground.phase }, { on := 28, ground := Ground.phase }, { on := 29, ground := Ground.phase }], guard := none }) (v := ?v30x4) rfl (by kernel_rfl) (by kernel_rfl) (by kernel_rfl) (fun _ _ _ h => h) (Or.inl ⟨by rfl, ?hy30x4⟩) (by assumption) ?rest30x4
  case hy30x4 => (intro w hSw; (try dsimp only at hSw); go_simp; try with_reducible rfl)
  try simp only [Act.put, List.setIfInBounds_toArray, List.set_cons_zero, List.set_cons_succ]
  refine wpAnyH_done (by kernel_rfl) ?_ _
  all_goals (go_wp2_with fail; go_ret; exact ⟨rbool HF.out, hB.out.trans (D1.out.mono hB.out.size)⟩)
 subst hl2
 obtain ⟨x, y, rfl⟩ := two_of hgl
 obtain ⟨_, b2, of2, ha2, hb2l, hx6, hy6, hxi, hyi⟩ := hw.two
 dsimp only at ha2
 subst ha2
 have XA := Lib.hid hxi.at_; have YA := Lib.hid hyi.at_
 have XS := Lib.hid (hs x (by simp)); have YS := Lib.hid (hs y (by simp))
 obtain ⟨⟨xz, xc, xg, xra, xrl, xrc, xrows, xca, xcl, xcc, xcells, xpa, xpl, xpc⟩, xps⟩ := x
 obtain ⟨⟨yz, yc, yg, yra, yrl, yrc, yrows, yca, ycl, ycc, ycells, ypa, ypl, ypc⟩, yps⟩ := y
 have HX6 := Lib.hid hx6; have HY6 := Lib.hid hy6
 have XSS : Hid (0 ≤ xrl) := XS.out; have YSS : Hid (0 ≤ yrl) := YS.out
 have XAA : Hid (WF.At w ⟨xz, xc, xg, xra, xrl, xrc, xrows, xca, xcl, xcc, xcells, xpa, xpl, xpc⟩) := XA.out; have YAA : Hid (WF.At w ⟨yz, yc, yg, yra, yrl, yrc, yrows, yca, ycl, ycc, ycells, ypa, ypl, ypc⟩) := YA.out
 clear XS YS XA YA
 obtain ⟨r1, hr1⟩ : ∃ o, pwOk pt pn ⟨xz, xc, xg, xra, xrl, xrc, xrows, xca, xcl, xcc, xcells, xpa, xpl, xpc⟩ = o := ⟨_, rfl⟩
 obtain ⟨r2, hr2⟩ : ∃ o, pwOk qt qn ⟨yz, yc, yg, yra, yrl, yrc, yrows, yca, ycl, ycc, ycells, ypa, ypl, ypc⟩ = o := ⟨_, rfl⟩
 have HR1 := Lib.hid hr1; have HR2 := Lib.hid hr2
 have HRR : Hid ((r1 && r2) = r) := by show _ = _; rw [← HR.out, pairOk, HBB.out]; simp [pwAt, SV.f, WV.f, hr1, hr2]
 clear hr hbb hsp hw hs hp hq hp3 hq3 hx6 hy6 hxi hyi hr1 hr2 hgl HR
 cases r1
 ·have HF : Hid (false = r) := by show _ = _; rw [← HRR.out]; simp
  go_enter Try.func49, Try.ntmps49
  go_wp2_with fail
  have EN : Hid (∀ W : World, Below W0.heap.size W0 W → W.cell? ⟨w.heap.size, 0, none⟩ = some (.int .i64 5) ∧ W.cell? ⟨w.heap.size, 1, none⟩ = some (.int .i64 0) ∧ W.cell? ⟨w.heap.size, 2, none⟩ = some (.slice (some ⟨b, off, none⟩) 2 sc) ∧ W.cell? ⟨w.heap.size + 1, 0, none⟩ = some (.bool false) ∧ W.cell? ⟨w.heap.size + 1, 1, none⟩ = some (.int .i64 gc) ∧ W.cell? ⟨w.heap.size + 1, 2, none⟩ = some (.int .u64 (gg : Int)) ∧ W.cell? ⟨w.heap.size + 1, 3, none⟩ = some (.slice gra grl grc) ∧ W.cell? ⟨w.heap.size + 1, 4, none⟩ = some (.slice gca gcl gcc) ∧ W.cell? ⟨w.heap.size + 1, 5, none⟩ = some (.slice (some ⟨b2, of2, none⟩) 2 gpc) ∧ W.cell? ⟨b, off, none⟩ = some (.int .i64 pt) ∧ W.cell? ⟨b, off + 1, none⟩ = some (.int .i64 pn) ∧ W.cell? ⟨b, off + 2, none⟩ = some (.slice pa pl pc) ∧ W.cell? ⟨b, off + 3, none⟩ = some (.int .i64 qt) ∧ W.cell? ⟨b, off + 4, none⟩ = some (.int .i64 qn) ∧ W.cell? ⟨b, off + 5, none⟩ = some (.slice qa ql qc) ∧ W.cell? ⟨b2, of2, none⟩ = some (.bool xz) ∧ W.cell? ⟨b2, of2 + 1, none⟩ = some (.int .i64 xc) ∧ W.cell? ⟨b2, of2 + 2, none⟩ = some (.int .u64 (xg : Int)) ∧ W.cell? ⟨b2, of2 + 3, none⟩ = some (.slice xra xrl xrc) ∧ W.cell? ⟨b2, of2 + 4, none⟩ = some (.slice xca xcl xcc) ∧ W.cell? ⟨b2, of2 + 5, none⟩ = some (.slice xpa xpl xpc) ∧ W.cell? ⟨b2, of2 + 6, none⟩ = some (.bool yz) ∧ W.cell? ⟨b2, of2 + 7, none⟩ = some (.int .i64 yc) ∧ W.cell? ⟨b2, of2 + 8, none⟩ = some (.int .u64 (yg : Int)) ∧ W.cell? ⟨b2, of2 + 9, none⟩ = some (.slice yra yrl yrc) ∧ W.cell? ⟨b2, of2 + 10, none⟩ = some (.slice yca ycl ycc) ∧ W.cell? ⟨b2, of2 + 11, none⟩ = some (.slice ypa ypl ypc)) := fun W h => by
   obtain ⟨a0, a1, a2⟩ := tri_cells (heap_old (heap_old T0.out (Below.refl _ _)) h); obtain ⟨c0, c1, c2, c3, c4, c5⟩ := six_cells (heap_old (heap_old T1.out (Below.refl _ _)) h)
   have hww : Below w.heap.size w W := hB.out.trans (h.mono hB.out.size)
   obtain ⟨d0, d1, d2⟩ := HP3.out.below hww; obtain ⟨e0, e1, e2⟩ := HQ3.out.below hww; obtain ⟨f0, f1, f2, f3, f4, f5⟩ := HX6.out.below hww; obtain ⟨g0, g1, g2, g3, g4, g5⟩ := HY6.out.below hww
   exact ⟨a0, a1, a2, c0, c1, c2, c3, c4, c5, d0, d1, d2, e0, e1, e2, f0, f1, f2, f3, f4, f5, g0, g1, g2, g3, g4, g5⟩
  clear x0 x1 x2 y0 y1 y2 y3 y4 y5
  obtain ⟨m0, m1, m2, m3, m4, m5, m6, m7, m8, m9, m10, m11, m12, m13, m14, m15, m16, m17, m18, m19, m20, m21, m22, m23, m24, m25, m26⟩ := EN.out _ (Below.refl _ _)
  have D0 : Hid (Below W0.heap.size W0 W0.drew) := (Below.refl _ _).drew
  refine wp_region_held_drew (S := (fun w' => w'.cell? ⟨w.heap.size, 0, none⟩ = some (.int .i64 5) ∧ w'.cell? ⟨w.heap.size, 1, none⟩ = some (.int .i64 0) ∧ w'.cell? ⟨w.heap.size, 2, none⟩ = some (.slice (some ⟨b, off, none⟩) 2 sc) ∧ w'.cell? ⟨w.heap.size + 1, 0, none⟩ = some (.bool false) ∧ w'.cell? ⟨w.heap.size + 1, 1, none⟩ = some (.int .i64 gc) ∧ w'.cell? ⟨w.heap.size + 1, 2, none⟩ = some (.int .u64 (gg : Int)) ∧ w'.cell? ⟨w.heap.size + 1, 3, none⟩ = some (.slice gra grl grc) ∧ w'.cell? ⟨w.heap.size + 1, 4, none⟩ = some (.slice gca gcl gcc) ∧ w'.cell? ⟨w.heap.size + 1, 5, none⟩ = some (.slice (some ⟨b2, of2, none⟩) 2 gpc) ∧ w'.cell? ⟨b, off, none⟩ = some (.int .i64 pt) ∧ w'.cell? ⟨b, off + 1, none⟩ = some (.int .i64 pn) ∧ w'.cell? ⟨b, off + 2, none⟩ = some (.slice pa pl pc) ∧ w'.cell? ⟨b, off + 3, none⟩ = some (.int .i64 qt) ∧ w'.cell? ⟨b, off + 4, none⟩ = some (.int .i64 qn) ∧ w'.cell? ⟨b, off + 5, none⟩ = some (.slice qa ql qc) ∧ w'.cell? ⟨b2, of2, none⟩ = some (.bool xz) ∧ w'.cell? ⟨b2, of2 + 1, none⟩ = some (.int .i64 xc) ∧ w'.cell? ⟨b2, of2 + 2, none⟩ = some (.int .u64 (xg : Int)) ∧ w'.cell? ⟨b2, of2 + 3, none⟩ = some (.slice xra xrl xrc) ∧ w'.cell? ⟨b2, of2 + 4, none⟩ = some (.slice xca xcl xcc) ∧ w'.cell? ⟨b2, of2 + 5, none⟩ = some (.slice xpa xpl xpc) ∧ w'.cell? ⟨b2, of2 + 6, none⟩ = some (.bool yz) ∧ w'.cell? ⟨b2, of2 + 7, none⟩ = some (.int .i64 yc) ∧ w'.cell? ⟨b2, of2 + 8, none⟩ = some (.int .u64 (yg : Int)) ∧ w'.cell? ⟨b2, of2 + 9, none⟩ = some (.slice yra yrl yrc) ∧ w'.cell? ⟨b2, of2 + 10, none⟩ = some (.slice yca ycl ycc) ∧ w'.cell? ⟨b2, of2 + 11, none⟩ = some (.slice ypa ypl ypc))) (by kernel_rfl) (by with_reducible exact EN.out _ D0.out) (fun hHeld => ?_)
  refine wpAnyH_take (i := 0) (oi := { dst := some 78, op := Op.load 67 (Operand.tmp 3), type := 67, pos := "ref.go:88", after := #[], guard := none }) (v := ?v0x5) rfl (by kernel_rfl) (by kernel_rfl) (by kernel_rfl) (fun _ _ _ h => h) (Or.inl ⟨by rfl, ?hy0x5⟩) (by assumption) ?rest0x5
  case hy0x5 => (intro w hSw; (try dsimp only at hSw); go_simp; try with_reducible rfl)
  try simp only [Act.put, List.setIfInBounds_toArray, List.set_cons_zero, List.set_cons_succ]
  refine wpAnyH_ready (rs := [1]) (by kernel_rfl) (by simp) (AllReadyH.cons (o := { dst := some 79, op := Op.call { callee := Callee.value (Operand.func 50), args := #[Operand.tmp 78, Operand.const (Value.bool false), Operand.const (Value.bool false), Operand.const (Value.bool false), Operand.const (Value.bool true)], argTypes := #[67, 4, 4, 4, 4] }, type := 4, pos := "ref.go:88", after := #[{ on := 0, ground := Ground.data }], guard := none }) rfl (fun K hK => ?_) AllReadyH.nil)
  go_simp
  go_at_call 50
  refine (plainR_4 ⟨false, gc, gg, gra, grl, grc, grows, gca, gcl, gcc, gcells, (some ⟨b2, of2, none⟩), 2, gpc⟩ true HO.out _).mono ?_
  rintro e z1 ⟨rfl, hz1⟩
  have D1 : Hid (Below W0.heap.size W0 z1) := Lib.hid (D0.out.trans (hz1.mono D0.out.size))
  dsimp only
  refine hK.out _ _ (by with_reducible exact EN.out _ D1.out) (fun hHeld1 => ?_)
  clear hK K
  try simp only [Act.put, List.setIfInBounds_toArray, List.set_cons_zero, List.set_cons_succ]
  refine wpAnyH_take (i := 2) (oi := { dst := some 80, op := Op.move (Operand.tmp 79), type := 4, pos := "ref.go:88", after := #[{ on := 1, ground := Ground.data }, { on := 1, ground := Ground.chain }], guard := none }) (v := ?v2x5) rfl (by kernel_rfl) (by kernel_rfl) (by kernel_rfl) (fun _ _ _ h => h) (Or.inl ⟨by rfl, ?hy2x5⟩) (by assumption) ?rest2x5
  case hy2x5 => (intro w hSw; (try dsimp only at hSw); go_simp; try with_reducible rfl)
  try simp only [Act.put, List.setIfInBounds_toArray, List.set_cons_zero, List.set_cons_succ]
  refine wpAnyH_take (i := 3) (oi := { dst := some 81, op := Op.fieldAddr 67 (Operand.tmp 3) 4, type := 0, pos := "ref.go:88", after := #[{ on := 2, ground := Ground.guard }], guard := some (2, true) }) (v := ?v3x5) rfl (by kernel_rfl) (by kernel_rfl) (by kernel_rfl) (fun _ _ _ h => h) (Or.inl ⟨by rfl, ?hy3x5⟩) (by assumption) ?rest3x5
  case hy3x5 => (intro w hSw; (try dsimp only at hSw); go_simp; try with_reducible rfl)
  try simp only [Act.put, List.setIfInBounds_toArray, List.set_cons_zero, List.set_cons_succ]
  refine wpAnyH_take (i := 4) (oi := { dst := some 82, op := Op.load 65 (Operand.tmp 81), type := 65, pos := "ref.go:88", after := #[{ on := 3, ground := Ground.data }, { on := 2, ground := Ground.guard }], guard := some (2, true) }) (v := ?v4x5) rfl (by kernel_rfl) (by kernel_rfl) (by kernel_rfl) (fun _ _ _ h => h) (Or.inl ⟨by rfl, ?hy4x5⟩) (by assumption) ?rest4x5
  case hy4x5 => (intro w hSw; (try dsimp only at hSw); go_simp; try with_reducible rfl)
  try simp only [Act.put, List.setIfInBounds_toArray, List.set_cons_zero, List.set_cons_succ]
  refine wpAnyH_take (i := 5) (oi := { dst := some 83, op := Op.call { callee := Callee.builtin Builtin.len, args := #[Operand.tmp 82], argTypes := #[65] }, type := 3, pos := "ref.go:88", after := #[{ on := 4, ground := Ground.data }, { on := 2, ground := Ground.guard }], guard := some (2, true) }) (v := ?v5x5) rfl (by kernel_rfl) (by kernel_rfl) (by kernel_rfl) (fun _ _ _ h => h) (Or.inl ⟨by rfl, ?hy5x5⟩) (by assumption) ?rest5x5
  case hy5x5 => (intro w hSw; (try dsimp only at hSw); go_simp; try with_reducible rfl)
  try simp only [Act.put, List.setIfInBounds_toArray, List.set_cons_zero, List.set_cons_succ]
  refine wpAnyH_take (i := 6) (oi := { dst := some 84, op := Op.binOp BinOp.eql 3 (Operand.tmp 83) (Operand.const (Value.int IntKind.i64 2)) 3, type := 4, pos := "ref.go:88", after := #[{ on := 5, ground := Ground.data }, { on := 2, ground := Ground.guard }], guard := some (2, true) }) (v := ?v6x5) rfl (by kernel_rfl) (by kernel_rfl) (by kernel_rfl) (fun _ _ _ h => h) (Or.inl ⟨by rfl, ?hy6x5⟩) (by assumption) ?rest6x5
  case hy6x5 => (intro w hSw; (try dsimp only at hSw); go_simp; try with_reducible rfl)
  try simp only [Act.put, List.setIfInBounds_toArray, List.set_cons_zero, List.set_cons_succ]
  refine wpAnyH_take (i := 7) (oi := { dst := some 85, op := Op.pick (Operand.tmp 80) (Operand.tmp 84) (Operand.const (Value.bool false)), type := 4, pos := "ref.go:88", after := #[{ on := 2, ground := Ground.data }, { on := 6, ground := Ground.data }], guard := none }) (v := ?v7x5) rfl (by kernel_rfl) (by kernel_rfl) (by kernel_rfl) (fun _ _ _ h => h) (Or.inl ⟨by rfl, ?hy7x5⟩) (by assumption) ?rest7x5
  case hy7x5 => (intro w hSw; (try dsimp only at hSw); go_simp; try with_reducible rfl)
  try simp only [Act.put, List.setIfInBounds_toArray, List.set_cons_zero, List.set_cons_succ]
  refine wpAnyH_take (i := 8) (oi := { dst := some 86, op := Op.move (Operand.tmp 85), type := 4, pos := "ref.go:88", after := #[{ on := 7, ground := Ground.data }, { on := 2, ground := Ground.chain }], guard := none }) (v := ?v8x5) rfl (by kernel_rfl) (by kernel_rfl) (by kernel_rfl) (fun _ _ _ h => h) (Or.inl ⟨by rfl, ?hy8x5⟩) (by assumption) ?rest8x5
  case hy8x5 => (intro w hSw; (try dsimp only at hSw); go_simp; try with_reducible rfl)
  try simp only [Act.put, List.setIfInBounds_toArray, List.set_cons_zero, List.set_cons_succ]
  refine wpAnyH_take (i := 9) (oi := { dst := some 87, op := Op.fieldAddr 35 (Operand.tmp 2) 2, type := 0, pos := "ref.go:88", after := #[{ on := 8, ground := Ground.guard }], guard := some (8, true) }) (v := ?v9x5) rfl (by kernel_rfl) (by kernel_rfl) (by kernel_rfl) (fun _ _ _ h => h) (Or.inl ⟨by rfl, ?hy9x5⟩) (by assumption) ?rest9x5
  case hy9x5 => (intro w hSw; (try dsimp only at hSw); go_simp; try with_reducible rfl)
  try simp only [Act.put, List.setIfInBounds_toArray, List.set_cons_zero, List.set_cons_succ]
  refine wpAnyH_take (i := 10) (oi := { dst := some 88, op := Op.load 33 (Operand.tmp 87), type := 33, pos := "ref.go:88", after := #[{ on := 9, ground := Ground.data }, { on := 8, ground := Ground.guard }], guard := some (8, true) }) (v := ?v10x5) rfl (by kernel_rfl) (by kernel_rfl) (by kernel_rfl) (fun _ _ _ h => h) (Or.inl ⟨by rfl, ?hy10x5⟩) (by assumption) ?rest10x5
  case hy10x5 => (intro w hSw; (try dsimp only at hSw); go_simp; try with_reducible rfl)
  try simp only [Act.put, List.setIfInBounds_toArray, List.set_cons_zero, List.set_cons_succ]
  refine wpAnyH_take (i := 11) (oi := { dst := some 89, op := Op.indexAddr 33 (Operand.tmp 88) (Operand.const (Value.int IntKind.i64 0)), type := 0, pos := "ref.go:88", after := #[{ on := 10, ground := Ground.data }, { on := 8, ground := Ground.guard }], guard := some (8, true) }) (v := ?v11x5) rfl (by kernel_rfl) (by kernel_rfl) (by kernel_rfl) (fun _ _ _ h => h) (Or.inl ⟨by rfl, ?hy11x5⟩) (by assumption) ?rest11x5
  case hy11x5 => (intro w hSw; (try dsimp only at hSw); go_simp; try with_reducible rfl)
  try simp only [Act.put, List.setIfInBounds_toArray, List.set_cons_zero, List.set_cons_succ]
  refine wpAnyH_take (i := 12) (oi := { dst := some 90, op := Op.load 35 (Operand.tmp 89), type := 35, pos := "ref.go:88", after := #[{ on := 11, ground := Ground.data }, { on := 8, ground := Ground.guard }], guard := some (8, true) }) (v := ?v12x5) rfl (by kernel_rfl) (by kernel_rfl) (by kernel_rfl) (fun _ _ _ h => h) (Or.inl ⟨by rfl, ?hy12x5⟩) (by assumption) ?rest12x5
  case hy12x5 => (intro w hSw; (try dsimp only at hSw); go_simp; try with_reducible rfl)
  try simp only [Act.put, List.setIfInBounds_toArray, List.set_cons_zero, List.set_cons_succ]
  refine wpAnyH_take (i := 13) (oi := { dst := some 91, op := Op.fieldAddr 67 (Operand.tmp 3) 4, type := 0, pos := "ref.go:88", after := #[{ on := 8, ground := Ground.guard }], guard := some (8, true) }) (v := ?v13x5) rfl (by kernel_rfl) (by kernel_rfl) (by kernel_rfl) (fun _ _ _ h => h) (Or.inl ⟨by rfl, ?hy13x5⟩) (by assumption) ?rest13x5
  case hy13x5 => (intro w hSw; (try dsimp only at hSw); go_simp; try with_reducible rfl)
  try simp only [Act.put, List.setIfInBounds_toArray, List.set_cons_zero, List.set_cons_succ]
  refine wpAnyH_take (i := 14) (oi := { dst := some 92, op := Op.load 65 (Operand.tmp 91), type := 65, pos := "ref.go:88", after := #[{ on := 13, ground := Ground.data }, { on := 8, ground := Ground.guard }], guard := some (8, true) }) (v := ?v14x5) rfl (by kernel_rfl) (by kernel_rfl) (by kernel_rfl) (fun _ _ _ h => h) (Or.inl ⟨by rfl, ?hy14x5⟩) (by assumption) ?rest14x5
  case hy14x5 => (intro w hSw; (try dsimp only at hSw); go_simp; try with_reducible rfl)
  try simp only [Act.put, List.setIfInBounds_toArray, List.set_cons_zero, List.set_cons_succ]
  refine wpAnyH_take (i := 15) (oi := { dst := some 93, op := Op.indexAddr 65 (Operand.tmp 92) (Operand.const (Value.int IntKind.i64 0)), type := 0, pos := "ref.go:88", after := #[{ on := 14, ground := Ground.data }, { on := 8, ground := Ground.guard }], guard := some (8, true) }) (v := ?v15x5) rfl (by kernel_rfl) (by kernel_rfl) (by kernel_rfl) (fun _ _ _ h => h) (Or.inl ⟨by rfl, ?hy15x5⟩) (by assumption) ?rest15x5
  case hy15x5 => (intro w hSw; (try dsimp only at hSw); go_simp; try with_reducible rfl)
  try simp only [Act.put, List.setIfInBounds_toArray, List.set_cons_zero, List.set_cons_succ]
  refine wpAnyH_take (i := 16) (oi := { dst := some 94, op := Op.load 67 (Operand.tmp 93), type := 67, pos := "ref.go:88", after := #[{ on := 15, ground := Ground.data }, { on := 8, ground := Ground.guard }], guard := some (8, true) }) (v := ?v16x5) rfl (by kernel_rfl) (by kernel_rfl) (by kernel_rfl) (fun _ _ _ h => h) (Or.inl ⟨by rfl, ?hy16x5⟩) (by assumption) ?rest16x5
  case hy16x5 => (intro w hSw; (try dsimp only at hSw); go_simp; try with_reducible rfl)
  try simp only [Act.put, List.setIfInBounds_toArray, List.set_cons_zero, List.set_cons_succ]
  refine wpAnyH_ready (rs := [17]) (by kernel_rfl) (by simp) (AllReadyH.cons (o := { dst := some 95, op := Op.call { callee := Callee.value (Operand.func 49), args := #[Operand.tmp 90, Operand.tmp 94], argTypes := #[35, 67] }, type := 4, pos := "ref.go:88", after := #[{ on := 12, ground := Ground.data }, { on := 16, ground := Ground.data }, { on := 8, ground := Ground.chain }, { on := 8, ground := Ground.guard }], guard := some (8, true) }) rfl (fun K hK => ?_) AllReadyH.nil)
  go_simp
  go_at_call 49
  with_reducible refine (isR_plainY pt pn pa pl pc ⟨xz, xc, xg, xra, xrl, xrc, xrows, xca, xcl, xcc, xcells, xpa, xpl, xpc⟩ HP.out XSS.out _ (XAA.out.below (hB.out.trans ((D1.out).mono hB.out.size))) false HR1.out).mono ?_
  rintro e z2 ⟨rfl, hz2⟩
  have D2 : Hid (Below W0.heap.size W0 z2) := Lib.hid (D1.out.trans (hz2.mono D1.out.size))
  dsimp only
  refine hK.out _ _ (by with_reducible exact EN.out _ D2.out) (fun hHeld2 => ?_)
  clear hK K
  try simp only [Act.put, List.setIfInBounds_toArray, List.set_cons_zero, List.set_cons_succ]
  refine wpAnyH_take (i := 18) (oi := { dst := some 96, op := Op.pick (Operand.tmp 86) (Operand.tmp 95) (Operand.const (Value.bool false)), type := 4, pos := "ref.go:88", after := #[{ on := 8, ground := Ground.data }, { on := 17, ground := Ground.data }], guard := none }) (v := ?v18x5) rfl (by kernel_rfl) (by kernel_rfl) (by kernel_rfl) (fun _ _ _ h => h) (Or.inl ⟨by rfl, ?hy18x5⟩) (by assumption) ?rest18x5
  case hy18x5 => (intro w hSw; (try dsimp only at hSw); go_simp; try with_reducible rfl)
  try simp only [Act.put, List.setIfInBounds_toArray, List.set_cons_zero, List.set_cons_succ]
  refine wpAnyH_take (i := 19) (oi := { dst := some 97, op := Op.move (Operand.tmp 96), type := 4, pos := "ref.go:88", after := #[{ on := 18, ground := Ground.data }, { on := 17, ground := Ground.chain }], guard := none }) (v := ?v19x5) rfl (by kernel_rfl) (by kernel_rfl) (by kernel_rfl) (fun _ _ _ h => h) (Or.inl ⟨by rfl, ?hy19x5⟩) (by assumption) ?rest19x5
  case hy19x5 => (intro w hSw; (try dsimp only at hSw); go_simp; try with_reducible rfl)
  try simp only [Act.put, List.setIfInBounds_toArray, List.set_cons_zero, List.set_cons_succ]
  refine wpAnyH_take (i := 20) (oi := { dst := some 98, op := Op.fieldAddr 35 (Operand.tmp 2) 2, type := 0, pos := "ref.go:88", after := #[{ on := 19, ground := Ground.guard }], guard := some (19, true) }) (v := undef) rfl (by kernel_rfl) (by kernel_rfl) (by kernel_rfl) (fun _ _ _ h => h) (Or.inr ⟨by rfl, rfl⟩) (by assumption) ?rest20x5
  try simp only [Act.put, List.setIfInBounds_toArray, List.set_cons_zero, List.set_cons_succ]
  refine wpAnyH_take (i := 21) (oi := { dst := some 99, op := Op.load 33 (Operand.tmp 98), type := 33, pos := "ref.go:88", after := #[{ on := 20, ground := Ground.data }, { on := 19, ground := Ground.guard }], guard := some (19, true) }) (v := undef) rfl (by kernel_rfl) (by kernel_rfl) (by kernel_rfl) (fun _ _ _ h => h) (Or.inr ⟨by rfl, rfl⟩) (by assumption) ?rest21x5
  try simp only [Act.put, List.setIfInBounds_toArray, List.set_cons_zero, List.set_cons_succ]
  refine wpAnyH_take (i := 22) (oi := { dst := some 100, op := Op.indexAddr 33 (Operand.tmp 99) (Operand.const (Value.int IntKind.i64 1)), type := 0, pos := "ref.go:88", after := #[{ on := 21, ground := Ground.data }, { on := 19, ground := Ground.guard }], guard := some (19, true) }) (v := undef) rfl (by kernel_rfl) (by kernel_rfl) (by kernel_rfl) (fun _ _ _ h => h) (Or.inr ⟨by rfl, rfl⟩) (by assumption) ?rest22x5
  try simp only [Act.put, List.setIfInBounds_toArray, List.set_cons_zero, List.set_cons_succ]
  refine wpAnyH_take (i := 23) (oi := { dst := some 101, op := Op.load 35 (Operand.tmp 100), type := 35, pos := "ref.go:88", after := #[{ on := 22, ground := Ground.data }, { on := 19, ground := Ground.guard }], guard := some (19, true) }) (v := undef) rfl (by kernel_rfl) (by kernel_rfl) (by kernel_rfl) (fun _ _ _ h => h) (Or.inr ⟨by rfl, rfl⟩) (by assumption) ?rest23x5
  try simp only [Act.put, List.setIfInBounds_toArray, List.set_cons_zero, List.set_cons_succ]
  refine wpAnyH_take (i := 24) (oi := { dst := some 102, op := Op.fieldAddr 67 (Operand.tmp 3) 4, type := 0, pos := "ref.go:88", after := #[{ on := 19, ground := Ground.guard }], guard := some (19, true) }) (v := undef) rfl (by kernel_rfl) (by kernel_rfl) (by kernel_rfl) (fun _ _ _ h => h) (Or.inr ⟨by rfl, rfl⟩) (by assumption) ?rest24x5
  try simp only [Act.put, List.setIfInBounds_toArray, List.set_cons_zero, List.set_cons_succ]
  refine wpAnyH_take (i := 25) (oi := { dst := some 103, op := Op.load 65 (Operand.tmp 102), type := 65, pos := "ref.go:88", after := #[{ on := 24, ground := Ground.data }, { on := 19, ground := Ground.guard }], guard := some (19, true) }) (v := undef) rfl (by kernel_rfl) (by kernel_rfl) (by kernel_rfl) (fun _ _ _ h => h) (Or.inr ⟨by rfl, rfl⟩) (by assumption) ?rest25x5
  try simp only [Act.put, List.setIfInBounds_toArray, List.set_cons_zero, List.set_cons_succ]
  refine wpAnyH_take (i := 26) (oi := { dst := some 104, op := Op.indexAddr 65 (Operand.tmp 103) (Operand.const (Value.int IntKind.i64 1)), type := 0, pos := "ref.go:88", after := #[{ on := 25, ground := Ground.data }, { on := 19, ground := Ground.guard }], guard := some (19, true) }) (v := undef) rfl (by kernel_rfl) (by kernel_rfl) (by kernel_rfl) (fun _ _ _ h => h) (Or.inr ⟨by rfl, rfl⟩) (by assumption) ?rest26x5
  try simp only [Act.put, List.setIfInBounds_toArray, List.set_cons_zero, List.set_cons_succ]
  refine wpAnyH_take (i := 27) (oi := { dst := some 105, op := Op.load 67 (Operand.tmp 104), type := 67, pos := "ref.go:88", after := #[{ on := 26, ground := Ground.data }, { on := 19, ground := Ground.guard }], guard := some (19, true) }) (v := undef) rfl (by kernel_rfl) (by kernel_rfl) (by kernel_rfl) (fun _ _ _ h => h) (Or.inr ⟨by rfl, rfl⟩) (by assumption) ?rest27x5
  try simp only [Act.put, List.setIfInBounds_toArray, List.set_cons_zero, List.set_cons_succ]
  refine wpAnyH_take (i := 28) (oi := { dst := some 106, op := Op.call { callee := Callee.value (Operand.func 49), args := #[Operand.tmp 101, Operand.tmp 105], argTypes := #[35, 67] }, type := 4, pos := "ref.go:88", after := #[{ on := 23, ground := Ground.data }, { on := 27, ground := Ground.data }, { on := 19, ground := Ground.chain }, { on := 19, ground := Ground.guard }], guard := some (19, true) }) (v := undef) rfl (by kernel_rfl) (by kernel_rfl) (by kernel_rfl) (fun _ _ _ h => h) (Or.inr ⟨by rfl, rfl⟩) (by assumption) ?rest28x5
  try simp only [Act.put, List.setIfInBounds_toArray, List.set_cons_zero, List.set_cons_succ]
  refine wpAnyH_take (i := 29) (oi := { dst := some 107, op := Op.pick (Operand.tmp 97) (Operand.tmp 106) (Operand.const (Value.bool false)), type := 4, pos := "ref.go:88", after := #[{ on := 19, ground := Ground.data }, { on := 28, ground := Ground.data }], guard := none }) (v := ?v29x5) rfl (by kernel_rfl) (by kernel_rfl) (by kernel_rfl) (fun _ _ _ h => h) (Or.inl ⟨by rfl, ?hy29x5⟩) (by assumption) ?rest29x5
  case hy29x5 => (intro w hSw; (try dsimp only at hSw); go_simp; try with_reducible rfl)
  try simp only [Act.put, List.setIfInBounds_toArray, List.set_cons_zero, List.set_cons_succ]
  refine wpAnyH_take (i := 30) (oi := { dst := some 4, op := Op.assign (Operand.tmp 107), type := 4, pos := "ref.go:88", after := #[{ on := 29, ground := Ground.data }, { on := 28, ground := Ground.chain }, { on := 0, ground := Ground.phase }, { on := 1, ground := Ground.phase }, { on := 2, ground := Ground.phase }, { on := 3, ground := Ground.phase }, { on := 4, ground := Ground.phase }, { on := 5, ground := Ground.phase }, { on := 6, ground := Ground.phase }, { on := 7, ground := Ground.phase }, { on := 8, ground := Ground.phase }, { on := 9, ground := Ground.phase }, { on := 10, ground := Ground.phase }, { on := 11, ground := Ground.phase }, { on := 12, ground := Ground.phase }, { on := 13, ground := Ground.phase }, { on := 14, ground := Ground.phase }, { on := 15, ground := Ground.phase }, { on := 16, ground := Ground.phase }, { on := 17, ground := Ground.phase }, { on := 18, ground := Ground.phase }, { on := 19, ground := Ground.phase }, { on := 20, ground := Ground.phase }, { on := 21, ground := Ground.phase }, { on := 22, ground := Ground.phase }, { on := 23, ground := Ground.phase }, { on := 24, ground := Ground.phase }, { on := 25, ground := Ground.phase }, { on := 26, ground := Ground.phase }, { on := 27, ground := Ground.phase }, { on := 28, ground := Ground.phase }, { on := 29, ground := Ground.phase }], guard := none }) (v := ?v30x5) rfl (by kernel_rfl) (by kernel_rfl) (by kernel_rfl) (fun _ _ _ h => h) (Or.inl ⟨by rfl, ?hy30x5⟩) (by assumption) ?rest30x5
  case hy30x5 => (intro w hSw; (try dsimp only at hSw); go_simp; try with_reducible rfl)
  try simp only [Act.put, List.setIfInBounds_toArray, List.set_cons_zero, List.set_cons_succ]
  refine wpAnyH_done (by kernel_rfl) ?_ _
  all_goals (go_wp2_with fail; go_ret; exact ⟨rbool HF.out, hB.out.trans (D2.out.mono hB.out.size)⟩)
 ·have HF : Hid (r2 = r) := by show _ = _; rw [← HRR.out]; simp
  go_enter Try.func49, Try.ntmps49
  go_wp2_with fail
  have EN : Hid (∀ W : World, Below W0.heap.size W0 W → W.cell? ⟨w.heap.size, 0, none⟩ = some (.int .i64 5) ∧ W.cell? ⟨w.heap.size, 1, none⟩ = some (.int .i64 0) ∧ W.cell? ⟨w.heap.size, 2, none⟩ = some (.slice (some ⟨b, off, none⟩) 2 sc) ∧ W.cell? ⟨w.heap.size + 1, 0, none⟩ = some (.bool false) ∧ W.cell? ⟨w.heap.size + 1, 1, none⟩ = some (.int .i64 gc) ∧ W.cell? ⟨w.heap.size + 1, 2, none⟩ = some (.int .u64 (gg : Int)) ∧ W.cell? ⟨w.heap.size + 1, 3, none⟩ = some (.slice gra grl grc) ∧ W.cell? ⟨w.heap.size + 1, 4, none⟩ = some (.slice gca gcl gcc) ∧ W.cell? ⟨w.heap.size + 1, 5, none⟩ = some (.slice (some ⟨b2, of2, none⟩) 2 gpc) ∧ W.cell? ⟨b, off, none⟩ = some (.int .i64 pt) ∧ W.cell? ⟨b, off + 1, none⟩ = some (.int .i64 pn) ∧ W.cell? ⟨b, off + 2, none⟩ = some (.slice pa pl pc) ∧ W.cell? ⟨b, off + 3, none⟩ = some (.int .i64 qt) ∧ W.cell? ⟨b, off + 4, none⟩ = some (.int .i64 qn) ∧ W.cell? ⟨b, off + 5, none⟩ = some (.slice qa ql qc) ∧ W.cell? ⟨b2, of2, none⟩ = some (.bool xz) ∧ W.cell? ⟨b2, of2 + 1, none⟩ = some (.int .i64 xc) ∧ W.cell? ⟨b2, of2 + 2, none⟩ = some (.int .u64 (xg : Int)) ∧ W.cell? ⟨b2, of2 + 3, none⟩ = some (.slice xra xrl xrc) ∧ W.cell? ⟨b2, of2 + 4, none⟩ = some (.slice xca xcl xcc) ∧ W.cell? ⟨b2, of2 + 5, none⟩ = some (.slice xpa xpl xpc) ∧ W.cell? ⟨b2, of2 + 6, none⟩ = some (.bool yz) ∧ W.cell? ⟨b2, of2 + 7, none⟩ = some (.int .i64 yc) ∧ W.cell? ⟨b2, of2 + 8, none⟩ = some (.int .u64 (yg : Int)) ∧ W.cell? ⟨b2, of2 + 9, none⟩ = some (.slice yra yrl yrc) ∧ W.cell? ⟨b2, of2 + 10, none⟩ = some (.slice yca ycl ycc) ∧ W.cell? ⟨b2, of2 + 11, none⟩ = some (.slice ypa ypl ypc)) := fun W h => by
   obtain ⟨a0, a1, a2⟩ := tri_cells (heap_old (heap_old T0.out (Below.refl _ _)) h); obtain ⟨c0, c1, c2, c3, c4, c5⟩ := six_cells (heap_old (heap_old T1.out (Below.refl _ _)) h)
   have hww : Below w.heap.size w W := hB.out.trans (h.mono hB.out.size)
   obtain ⟨d0, d1, d2⟩ := HP3.out.below hww; obtain ⟨e0, e1, e2⟩ := HQ3.out.below hww; obtain ⟨f0, f1, f2, f3, f4, f5⟩ := HX6.out.below hww; obtain ⟨g0, g1, g2, g3, g4, g5⟩ := HY6.out.below hww
   exact ⟨a0, a1, a2, c0, c1, c2, c3, c4, c5, d0, d1, d2, e0, e1, e2, f0, f1, f2, f3, f4, f5, g0, g1, g2, g3, g4, g5⟩
  clear x0 x1 x2 y0 y1 y2 y3 y4 y5
  obtain ⟨m0, m1, m2, m3, m4, m5, m6, m7, m8, m9, m10, m11, m12, m13, m14, m15, m16, m17, m18, m19, m20, m21, m22, m23, m24, m25, m26⟩ := EN.out _ (Below.refl _ _)
  have D0 : Hid (Below W0.heap.size W0 W0.drew) := (Below.refl _ _).drew
  refine wp_region_held_drew (S := (fun w' => w'.cell? ⟨w.heap.size, 0, none⟩ = some (.int .i64 5) ∧ w'.cell? ⟨w.heap.size, 1, none⟩ = some (.int .i64 0) ∧ w'.cell? ⟨w.heap.size, 2, none⟩ = some (.slice (some ⟨b, off, none⟩) 2 sc) ∧ w'.cell? ⟨w.heap.size + 1, 0, none⟩ = some (.bool false) ∧ w'.cell? ⟨w.heap.size + 1, 1, none⟩ = some (.int .i64 gc) ∧ w'.cell? ⟨w.heap.size + 1, 2, none⟩ = some (.int .u64 (gg : Int)) ∧ w'.cell? ⟨w.heap.size + 1, 3, none⟩ = some (.slice gra grl grc) ∧ w'.cell? ⟨w.heap.size + 1, 4, none⟩ = some (.slice gca gcl gcc) ∧ w'.cell? ⟨w.heap.size + 1, 5, none⟩ = some (.slice (some ⟨b2, of2, none⟩) 2 gpc) ∧ w'.cell? ⟨b, off, none⟩ = some (.int .i64 pt) ∧ w'.cell? ⟨b, off + 1, none⟩ = some (.int .i64 pn) ∧ w'.cell? ⟨b, off + 2, none⟩ = some (.slice pa pl pc) ∧ w'.cell? ⟨b, off + 3, none⟩ = some (.int .i64 qt) ∧ w'.cell? ⟨b, off + 4, none⟩ = some (.int .i64 qn) ∧ w'.cell? ⟨b, off + 5, none⟩ = some (.slice qa ql qc) ∧ w'.cell? ⟨b2, of2, none⟩ = some (.bool xz) ∧ w'.cell? ⟨b2, of2 + 1, none⟩ = some (.int .i64 xc) ∧ w'.cell? ⟨b2, of2 + 2, none⟩ = some (.int .u64 (xg : Int)) ∧ w'.cell? ⟨b2, of2 + 3, none⟩ = some (.slice xra xrl xrc) ∧ w'.cell? ⟨b2, of2 + 4, none⟩ = some (.slice xca xcl xcc) ∧ w'.cell? ⟨b2, of2 + 5, none⟩ = some (.slice xpa xpl xpc) ∧ w'.cell? ⟨b2, of2 + 6, none⟩ = some (.bool yz) ∧ w'.cell? ⟨b2, of2 + 7, none⟩ = some (.int .i64 yc) ∧ w'.cell? ⟨b2, of2 + 8, none⟩ = some (.int .u64 (yg : Int)) ∧ w'.cell? ⟨b2, of2 + 9, none⟩ = some (.slice yra yrl yrc) ∧ w'.cell? ⟨b2, of2 + 10, none⟩ = some (.slice yca ycl ycc) ∧ w'.cell? ⟨b2, of2 + 11, none⟩ = some (.slice ypa ypl ypc))) (by kernel_rfl) (by with_reducible exact EN.out _ D0.out) (fun hHeld => ?_)
  refine wpAnyH_take (i := 0) (oi := { dst := some 78, op := Op.load 67 (Operand.tmp 3), type := 67, pos := "ref.go:88", after := #[], guard := none }) (v := ?v0x6) rfl (by kernel_rfl) (by kernel_rfl) (by kernel_rfl) (fun _ _ _ h => h) (Or.inl ⟨by rfl, ?hy0x6⟩) (by assumption) ?rest0x6
  case hy0x6 => (intro w hSw; (try dsimp only at hSw); go_simp; try with_reducible rfl)
  try simp only [Act.put, List.setIfInBounds_toArray, List.set_cons_zero, List.set_cons_succ]
  refine wpAnyH_ready (rs := [1]) (by kernel_rfl) (by simp) (AllReadyH.cons (o := { dst := some 79, op := Op.call { callee := Callee.value (Operand.func 50), args := #[Operand.tmp 78, Operand.const (Value.bool false), Operand.const (Value.bool false), Operand.const (Value.bool false), Operand.const (Value.bool true)], argTypes := #[67, 4, 4, 4, 4] }, type := 4, pos := "ref.go:88", after := #[{ on := 0, ground := Ground.data }], guard := none }) rfl (fun K hK => ?_) AllReadyH.nil)
  go_simp
  go_at_call 50
  refine (plainR_4 ⟨false, gc, gg, gra, grl, grc, grows, gca, gcl, gcc, gcells, (some ⟨b2, of2, none⟩), 2, gpc⟩ true HO.out _).mono ?_
  rintro e z1 ⟨rfl, hz1⟩
  have D1 : Hid (Below W0.heap.size W0 z1) := Lib.hid (D0.out.trans (hz1.mono D0.out.size))
  dsimp only
  refine hK.out _ _ (by with_reducible exact EN.out _ D1.out) (fun hHeld1 => ?_)
  clear hK K
  try simp only [Act.put, List.setIfInBounds_toArray, List.set_cons_zero, List.set_cons_succ]
  refine wpAnyH_take (i := 2) (oi := { dst := some 80, op := Op.move (Operand.tmp 79), type := 4, pos := "ref.go:88", after := #[{ on := 1, ground := Ground.data }, { on := 1, ground := Ground.chain }], guard := none }) (v := ?v2x6) rfl (by kernel_rfl) (by kernel_rfl) (by kernel_rfl) (fun _ _ _ h => h) (Or.inl ⟨by rfl, ?hy2x6⟩) (by assumption) ?rest2x6
  case hy2x6 => (intro w hSw; (try dsimp only at hSw); go_simp; try with_reducible rfl)
  try simp only [Act.put, List.setIfInBounds_toArray, List.set_cons_zero, List.set_cons_succ]
  refine wpAnyH_take (i := 3) (oi := { dst := some 81, op := Op.fieldAddr 67 (Operand.tmp 3) 4, type := 0, pos := "ref.go:88", after := #[{ on := 2, ground := Ground.guard }], guard := some (2, true) }) (v := ?v3x6) rfl (by kernel_rfl) (by kernel_rfl) (by kernel_rfl) (fun _ _ _ h => h) (Or.inl ⟨by rfl, ?hy3x6⟩) (by assumption) ?rest3x6
  case hy3x6 => (intro w hSw; (try dsimp only at hSw); go_simp; try with_reducible rfl)
  try simp only [Act.put, List.setIfInBounds_toArray, List.set_cons_zero, List.set_cons_succ]
  refine wpAnyH_take (i := 4) (oi := { dst := some 82, op := Op.load 65 (Operand.tmp 81), type := 65, pos := "ref.go:88", after := #[{ on := 3, ground := Ground.data }, { on := 2, ground := Ground.guard }], guard := some (2, true) }) (v := ?v4x6) rfl (by kernel_rfl) (by kernel_rfl) (by kernel_rfl) (fun _ _ _ h => h) (Or.inl ⟨by rfl, ?hy4x6⟩) (by assumption) ?rest4x6
  case hy4x6 => (intro w hSw; (try dsimp only at hSw); go_simp; try with_reducible rfl)
  try simp only [Act.put, List.setIfInBounds_toArray, List.set_cons_zero, List.set_cons_succ]
  refine wpAnyH_take (i := 5) (oi := { dst := some 83, op := Op.call { callee := Callee.builtin Builtin.len, args := #[Operand.tmp 82], argTypes := #[65] }, type := 3, pos := "ref.go:88", after := #[{ on := 4, ground := Ground.data }, { on := 2, ground := Ground.guard }], guard := some (2, true) }) (v := ?v5x6) rfl (by kernel_rfl) (by kernel_rfl) (by kernel_rfl) (fun _ _ _ h => h) (Or.inl ⟨by rfl, ?hy5x6⟩) (by assumption) ?rest5x6
  case hy5x6 => (intro w hSw; (try dsimp only at hSw); go_simp; try with_reducible rfl)
  try simp only [Act.put, List.setIfInBounds_toArray, List.set_cons_zero, List.set_cons_succ]
  refine wpAnyH_take (i := 6) (oi := { dst := some 84, op := Op.binOp BinOp.eql 3 (Operand.tmp 83) (Operand.const (Value.int IntKind.i64 2)) 3, type := 4, pos := "ref.go:88", after := #[{ on := 5, ground := Ground.data }, { on := 2, ground := Ground.guard }], guard := some (2, true) }) (v := ?v6x6) rfl (by kernel_rfl) (by kernel_rfl) (by kernel_rfl) (fun _ _ _ h => h) (Or.inl ⟨by rfl, ?hy6x6⟩) (by assumption) ?rest6x6
  case hy6x6 => (intro w hSw; (try dsimp only at hSw); go_simp; try with_reducible rfl)
  try simp only [Act.put, List.setIfInBounds_toArray, List.set_cons_zero, List.set_cons_succ]
  refine wpAnyH_take (i := 7) (oi := { dst := some 85, op := Op.pick (Operand.tmp 80) (Operand.tmp 84) (Operand.const (Value.bool false)), type := 4, pos := "ref.go:88", after := #[{ on := 2, ground := Ground.data }, { on := 6, ground := Ground.data }], guard := none }) (v := ?v7x6) rfl (by kernel_rfl) (by kernel_rfl) (by kernel_rfl) (fun _ _ _ h => h) (Or.inl ⟨by rfl, ?hy7x6⟩) (by assumption) ?rest7x6
  case hy7x6 => (intro w hSw; (try dsimp only at hSw); go_simp; try with_reducible rfl)
  try simp only [Act.put, List.setIfInBounds_toArray, List.set_cons_zero, List.set_cons_succ]
  refine wpAnyH_take (i := 8) (oi := { dst := some 86, op := Op.move (Operand.tmp 85), type := 4, pos := "ref.go:88", after := #[{ on := 7, ground := Ground.data }, { on := 2, ground := Ground.chain }], guard := none }) (v := ?v8x6) rfl (by kernel_rfl) (by kernel_rfl) (by kernel_rfl) (fun _ _ _ h => h) (Or.inl ⟨by rfl, ?hy8x6⟩) (by assumption) ?rest8x6
  case hy8x6 => (intro w hSw; (try dsimp only at hSw); go_simp; try with_reducible rfl)
  try simp only [Act.put, List.setIfInBounds_toArray, List.set_cons_zero, List.set_cons_succ]
  refine wpAnyH_take (i := 9) (oi := { dst := some 87, op := Op.fieldAddr 35 (Operand.tmp 2) 2, type := 0, pos := "ref.go:88", after := #[{ on := 8, ground := Ground.guard }], guard := some (8, true) }) (v := ?v9x6) rfl (by kernel_rfl) (by kernel_rfl) (by kernel_rfl) (fun _ _ _ h => h) (Or.inl ⟨by rfl, ?hy9x6⟩) (by assumption) ?rest9x6
  case hy9x6 => (intro w hSw; (try dsimp only at hSw); go_simp; try with_reducible rfl)
  try simp only [Act.put, List.setIfInBounds_toArray, List.set_cons_zero, List.set_cons_succ]
  refine wpAnyH_take (i := 10) (oi := { dst := some 88, op := Op.load 33 (Operand.tmp 87), type := 33, pos := "ref.go:88", after := #[{ on := 9, ground := Ground.data }, { on := 8, ground := Ground.guard }], guard := some (8, true) }) (v := ?v10x6) rfl (by kernel_rfl) (by kernel_rfl) (by kernel_rfl) (fun _ _ _ h => h) (Or.inl ⟨by rfl, ?hy10x6⟩) (by assumption) ?rest10x6
  case hy10x6 => (intro w hSw; (try dsimp only at hSw); go_simp; try with_reducible rfl)
  try simp only [Act.put, List.setIfInBounds_toArray, List.set_cons_zero, List.set_cons_succ]
  refine wpAnyH_take (i := 11) (oi := { dst := some 89, op := Op.indexAddr 33 (Operand.tmp 88) (Operand.const (Value.int IntKind.i64 0)), type := 0, pos := "ref.go:88", after := #[{ on := 10, ground := Ground.data }, { on := 8, ground := Ground.guard }], guard := some (8, true) }) (v := ?v11x6) rfl (by kernel_rfl) (by kernel_rfl) (by kernel_rfl) (fun _ _ _ h => h) (Or.inl ⟨by rfl, ?hy11x6⟩) (by assumption) ?rest11x6
  case hy11x6 => (intro w hSw; (try dsimp only at hSw); go_simp; try with_reducible rfl)
  try simp only [Act.put, List.setIfInBounds_toArray, List.set_cons_zero, List.set_cons_succ]
  refine wpAnyH_take (i := 12) (oi := { dst := some 90, op := Op.load 35 (Operand.tmp 89), type := 35, pos := "ref.go:88", after := #[{ on := 11, ground := Ground.data }, { on := 8, ground := Ground.guard }], guard := some (8, true) }) (v := ?v12x6) rfl (by kernel_rfl) (by kernel_rfl) (by kernel_rfl) (fun _ _ _ h => h) (Or.inl ⟨by rfl, ?hy12x6⟩) (by assumption) ?rest12x6
  case hy12x6 => (intro w hSw; (try dsimp only at hSw); go_simp; try with_reducible rfl)
  try simp only [Act.put, List.setIfInBounds_toArray, List.set_cons_zero, List.set_cons_succ]
  refine wpAnyH_take (i := 13) (oi := { dst := some 91, op := Op.fieldAddr 67 (Operand.tmp 3) 4, type := 0, pos := "ref.go:88", after := #[{ on := 8, ground := Ground.guard }], guard := some (8, true) }) (v := ?v13x6) rfl (by kernel_rfl) (by kernel_rfl) (by kernel_rfl) (fun _ _ _ h => h) (Or.inl ⟨by rfl, ?hy13x6⟩) (by assumption) ?rest13x6
  case hy13x6 => (intro w hSw; (try dsimp only at hSw); go_simp; try with_reducible rfl)
  try simp only [Act.put, List.setIfInBounds_toArray, List.set_cons_zero, List.set_cons_succ]
  refine wpAnyH_take (i := 14) (oi := { dst := some 92, op := Op.load 65 (Operand.tmp 91), type := 65, pos := "ref.go:88", after := #[{ on := 13, ground := Ground.data }, { on := 8, ground := Ground.guard }], guard := some (8, true) }) (v := ?v14x6) rfl (by kernel_rfl) (by kernel_rfl) (by kernel_rfl) (fun _ _ _ h => h) (Or.inl ⟨by rfl, ?hy14x6⟩) (by assumption) ?rest14x6
  case hy14x6 => (intro w hSw; (try dsimp only at hSw); go_simp; try with_reducible rfl)
  try simp only [Act.put, List.setIfInBounds_toArray, List.set_cons_zero, List.set_cons_succ]
  refine wpAnyH_take (i := 15) (oi := { dst := some 93, op := Op.indexAddr 65 (Operand.tmp 92) (Operand.const (Value.int IntKind.i64 0)), type := 0, pos := "ref.go:88", after := #[{ on := 14, ground := Ground.data }, { on := 8, ground := Ground.guard }], guard := some (8, true) }) (v := ?v15x6) rfl (by kernel_rfl) (by kernel_rfl) (by kernel_rfl) (fun _ _ _ h => h) (Or.inl ⟨by rfl, ?hy15x6⟩) (by assumption) ?rest15x6
  case hy15x6 => (intro w hSw; (try dsimp only at hSw); go_simp; try with_reducible rfl)
  try simp only [Act.put, List.setIfInBounds_toArray, List.set_cons_zero, List.set_cons_succ]
  refine wpAnyH_take (i := 16) (oi := { dst := some 94, op := Op.load 67 (Operand.tmp 93), type := 67, pos := "ref.go:88", after := #[{ on := 15, ground := Ground.data }, { on := 8, ground := Ground.guard }], guard := some (8, true) }) (v := ?v16x6) rfl (by kernel_rfl) (by kernel_rfl) (by kernel_rfl) (fun _ _ _ h => h) (Or.inl ⟨by rfl, ?hy16x6⟩) (by assumption) ?rest16x6
  case hy16x6 => (intro w hSw; (try dsimp only at hSw); go_simp; try with_reducible rfl)
  try simp only [Act.put, List.setIfInBounds_toArray, List.set_cons_zero, List.set_cons_succ]
  refine wpAnyH_ready (rs := [17]) (by kernel_rfl) (by simp) (AllReadyH.cons (o := { dst := some 95, op := Op.call { callee := Callee.value (Operand.func 49), args := #[Operand.tmp 90, Operand.tmp 94], argTypes := #[35, 67] }, type := 4, pos := "ref.go:88", after := #[{ on := 12, ground := Ground.data }, { on := 16, ground := Ground.data }, { on := 8, ground := Ground.chain }, { on := 8, ground := Ground.guard }], guard := some (8, true) }) rfl (fun K hK => ?_) AllReadyH.nil)
  go_simp
  go_at_call 49
  with_reducible refine (isR_plainY pt pn pa pl pc ⟨xz, xc, xg, xra, xrl, xrc, xrows, xca, xcl, xcc, xcells, xpa, xpl, xpc⟩ HP.out XSS.out _ (XAA.out.below (hB.out.trans ((D1.out).mono hB.out.size))) true HR1.out).mono ?_
  rintro e z2 ⟨rfl, hz2⟩
  have D2 : Hid (Below W0.heap.size W0 z2) := Lib.hid (D1.out.trans (hz2.mono D1.out.size))
  dsimp only
  refine hK.out _ _ (by with_reducible exact EN.out _ D2.out) (fun hHeld2 => ?_)
  clear hK K
  try simp only [Act.put, List.setIfInBounds_toArray, List.set_cons_zero, List.set_cons_succ]
  refine wpAnyH_take (i := 18) (oi := { dst := some 96, op := Op.pick (Operand.tmp 86) (Operand.tmp 95) (Operand.const (Value.bool false)), type := 4, pos := "ref.go:88", after := #[{ on := 8, ground := Ground.data }, { on := 17, ground := Ground.data }], guard := none }) (v := ?v18x6) rfl (by kernel_rfl) (by kernel_rfl) (by kernel_rfl) (fun _ _ _ h => h) (Or.inl ⟨by rfl, ?hy18x6⟩) (by assumption) ?rest18x6
  case hy18x6 => (intro w hSw; (try dsimp only at hSw); go_simp; try with_reducible rfl)
  try simp only [Act.put, List.setIfInBounds_toArray, List.set_cons_zero, List.set_cons_succ]
  refine wpAnyH_take (i := 19) (oi := { dst := some 97, op := Op.move (Operand.tmp 96), type := 4, pos := "ref.go:88", after := #[{ on := 18, ground := Ground.data }, { on := 17, ground := Ground.chain }], guard := none }) (v := ?v19x6) rfl (by kernel_rfl) (by kernel_rfl) (by kernel_rfl) (fun _ _ _ h => h) (Or.inl ⟨by rfl, ?hy19x6⟩) (by assumption) ?rest19x6
  case hy19x6 => (intro w hSw; (try dsimp only at hSw); go_simp; try with_reducible rfl)
  try simp only [Act.put, List.setIfInBounds_toArray, List.set_cons_zero, List.set_cons_succ]
  refine wpAnyH_take (i := 20) (oi := { dst := some 98, op := Op.fieldAddr 35 (Operand.tmp 2) 2, type := 0, pos := "ref.go:88", after := #[{ on := 19, ground := Ground.guard }], guard := some (19, true) }) (v := ?v20x6) rfl (by kernel_rfl) (by kernel_rfl) (by kernel_rfl) (fun _ _ _ h => h) (Or.inl ⟨by rfl, ?hy20x6⟩) (by assumption) ?rest20x6
  case hy20x6 => (intro w hSw; (try dsimp only at hSw); go_simp; try with_reducible rfl)
  try simp only [Act.put, List.setIfInBounds_toArray, List.set_cons_zero, List.set_cons_succ]
  refine wpAnyH_take (i := 21) (oi := { dst := some 99, op := Op.load 33 (Operand.tmp 98), type := 33, pos := "ref.go:88", after := #[{ on := 20, ground := Ground.data }, { on := 19, ground := Ground.guard }], guard := some (19, true) }) (v := ?v21x6) rfl (by kernel_rfl) (by kernel_rfl) (by kernel_rfl) (fun _ _ _ h => h) (Or.inl ⟨by rfl, ?hy21x6⟩) (by assumption) ?rest21x6
  case hy21x6 => (intro w hSw; (try dsimp only at hSw); go_simp; try with_reducible rfl)
  try simp only [Act.put, List.setIfInBounds_toArray, List.set_cons_zero, List.set_cons_succ]
  refine wpAnyH_take (i := 22) (oi := { dst := some 100, op := Op.indexAddr 33 (Operand.tmp 99) (Operand.const (Value.int IntKind.i64 1)), type := 0, pos := "ref.go:88", after := #[{ on := 21, ground := Ground.data }, { on := 19, ground := Ground.guard }], guard := some (19, true) }) (v := ?v22x6) rfl (by kernel_rfl) (by kernel_rfl) (by kernel_rfl) (fun _ _ _ h => h) (Or.inl ⟨by rfl, ?hy22x6⟩) (by assumption) ?rest22x6
  case hy22x6 => (intro w hSw; (try dsimp only at hSw); go_simp; try with_reducible rfl)
  try simp only [Act.put, List.setIfInBounds_toArray, List.set_cons_zero, List.set_cons_succ]
  refine wpAnyH_take (i := 23) (oi := { dst := some 101, op := Op.load 35 (Operand.tmp 100), type := 35, pos := "ref.go:88", after := #[{ on := 22, ground := Ground.data }, { on := 19, ground := Ground.guard }], guard := some (19, true) }) (v := ?v23x6) rfl (by kernel_rfl) (by kernel_rfl) (by kernel_rfl) (fun _ _ _ h => h) (Or.inl ⟨by rfl, ?hy23x6⟩) (by assumption) ?rest23x6
  case hy23x6 => (intro w hSw; (try dsimp only at hSw); go_simp; try with_reducible rfl)
  try simp only [Act.put, List.setIfInBounds_toArray, List.set_cons_zero, List.set_cons_succ]
  refine wpAnyH_take (i := 24) (oi := { dst := some 102, op := Op.fieldAddr 67 (Operand.tmp 3) 4, type := 0, pos := "ref.go:88", after := #[{ on := 19, ground := Ground.guard }], guard := some (19, true) }) (v := ?v24x6) rfl (by kernel_rfl) (by kernel_rfl) (by kernel_rfl) (fun _ _ _ h => h) (Or.inl ⟨by rfl, ?hy24x6⟩) (by assumption) ?rest24x6
  case hy24x6 => (intro w hSw; (try dsimp only at hSw); go_simp; try with_reducible rfl)
  try simp only [Act.put, List.setIfInBounds_toArray, List.set_cons_zero, List.set_cons_succ]
  refine wpAnyH_take (i := 25) (oi := { dst := some 103, op := Op.load 65 (Operand.tmp 102), type := 65, pos := "ref.go:88", after := #[{ on := 24, ground := Ground.data }, { on := 19, ground := Ground.guard }], guard := some (19, true) }) (v := ?v25x6) rfl (by kernel_rfl) (by kernel_rfl) (by kernel_rfl) (fun _ _ _ h => h) (Or.inl ⟨by rfl, ?hy25x6⟩) (by assumption) ?rest25x6
  case hy25x6 => (intro w hSw; (try dsimp only at hSw); go_simp; try with_reducible rfl)
  try simp only [Act.put, List.setIfInBounds_toArray, List.set_cons_zero, List.set_cons_succ]
  refine wpAnyH_take (i := 26) (oi := { dst := some 104, op := Op.indexAddr 65 (Operand.tmp 103) (Operand.const (Value.int IntKind.i64 1)), type := 0, pos := "ref.go:88", after := #[{ on := 25, ground := Ground.data }, { on := 19, ground := Ground.guard }], guard := some (19, true) }) (v := ?v26x6) rfl (by kernel_rfl) (by kernel_rfl) (by kernel_rfl) (fun _ _ _ h => h) (Or.inl ⟨by rfl, ?hy26x6⟩) (by assumption) ?rest26x6
  case hy26x6 => (intro w hSw; (try dsimp only at hSw); go_simp; try with_reducible rfl)
  try simp only [Act.put, List.setIfInBounds_toArray, List.set_cons_zero, List.set_cons_succ]
  refine wpAnyH_take (i := 27) (oi := { dst := some 105, op := Op.load 67 (Operand.tmp 104), type := 67, pos := "ref.go:88", after := #[{ on := 26, ground := Ground.data }, { on := 19, ground := Ground.guard }], guard := some (19, true) }) (v := ?v27x6) rfl (by kernel_rfl) (by kernel_rfl) (by kernel_rfl) (fun _ _ _ h => h) (Or.inl ⟨by rfl, ?hy27x6⟩) (by assumption) ?rest27x6
  case hy27x6 => (intro w hSw; (try dsimp only at hSw); go_simp; try with_reducible rfl)
  try simp only [Act.put, List.setIfInBounds_toArray, List.set_cons_zero, List.set_cons_succ]
  refine wpAnyH_ready (rs := [28]) (by kernel_rfl) (by simp) (AllReadyH.cons (o := { dst := some 106, op := Op.call { callee := Callee.value (Operand.func 49), args := #[Operand.tmp 101, Operand.tmp 105], argTypes := #[35, 67] }, type := 4, pos := "ref.go:88", after := #[{ on := 23, ground := Ground.data }, { on := 27, ground := Ground.data }, { on := 19, ground := Ground.chain }, { on := 19, ground := Ground.guard }], guard := some (19, true) }) rfl (fun K hK => ?_) AllReadyH.nil)
  go_simp
  go_at_call 49
  with_reducible refine (isR_plainY qt qn qa ql qc ⟨yz, yc, yg, yra, yrl, yrc, yrows, yca, ycl, ycc, ycells, ypa, ypl, ypc⟩ HQ.out YSS.out _ (YAA.out.below (hB.out.trans ((D2.out).mono hB.out.size))) r2 HR2.out).mono ?_
  rintro e z3 ⟨rfl, hz3⟩
  have D3 : Hid (Below W0.heap.size W0 z3) := Lib.hid (D2.out.trans (hz3.mono D2.out.size))
  dsimp only
  refine hK.out _ _ (by with_reducible exact EN.out _ D3.out) (fun hHeld3 => ?_)
  clear hK K
  try simp only [Act.put, List.setIfInBounds_toArray, List.set_cons_zero, List.set_cons_succ]
  refine wpAnyH_take (i := 29) (oi := { dst := some 107, op := Op.pick (Operand.tmp 97) (Operand.tmp 106) (Operand.const (Value.bool false)), type := 4, pos := "ref.go:88", after := #[{ on := 19, ground := Ground.data }, { on := 28, ground := Ground.data }], guard := none }) (v := ?v29x6) rfl (by kernel_rfl) (by kernel_rfl) (by kernel_rfl) (fun _ _ _ h => h) (Or.inl ⟨by rfl, ?hy29x6⟩) (by assumption) ?rest29x6
  case hy29x6 => (intro w hSw; (try dsimp only at hSw); go_simp; try with_reducible rfl)
  try simp only [Act.put, List.setIfInBounds_toArray, List.set_cons_zero, List.set_cons_succ]
  refine wpAnyH_take (i := 30) (oi := { dst := some 4, op := Op.assign (Operand.tmp 107), type := 4, pos := "ref.go:88", after := #[{ on := 29, ground := Ground.data }, { on := 28, ground := Ground.chain }, { on := 0, ground := Ground.phase }, { on := 1, ground := Ground.phase }, { on := 2, ground := Ground.phase }, { on := 3, ground := Ground.phase }, { on := 4, ground := Ground.phase }, { on := 5, ground := Ground.phase }, { on := 6, ground := Ground.phase }, { on := 7, ground := Ground.phase }, { on := 8, ground := Ground.phase }, { on := 9, ground := Ground.phase }, { on := 10, ground := Ground.phase }, { on := 11, ground := Ground.phase }, { on := 12, ground := Ground.phase }, { on := 13, ground := Ground.phase }, { on := 14, ground := Ground.phase }, { on := 15, ground := Ground.phase }, { on := 16, ground := Ground.phase }, { on := 17, ground := Ground.phase }, { on := 18, ground := Ground.phase }, { on := 19, ground := Ground.phase }, { on := 20, ground := Ground.phase }, { on := 21, ground := Ground.phase }, { on := 22, ground := Ground.phase }, { on := 23, ground := Ground.phase }, { on := 24, ground := Ground.phase }, { on := 25, ground := Ground.phase }, { on := 26, ground := Ground.phase }, { on := 27, ground := Ground.phase }, { on := 28, ground := Ground.phase }, { on := 29, ground := Ground.phase }], guard := none }) (v := ?v30x6) rfl (by kernel_rfl) (by kernel_rfl) (by kernel_rfl) (fun _ _ _ h => h) (Or.inl ⟨by rfl, ?hy30x6⟩) (by assumption) ?rest30x6
  case hy30x6 => (intro w hSw; (try dsimp only at hSw); go_simp; try with_reducible rfl)
  try simp only [Act.put, List.setIfInBounds_toArray, List.set_cons_zero, List.set_cons_succ]
  refine wpAnyH_done (by kernel_rfl) ?_ _
  all_goals (go_wp2_with fail; go_ret; exact ⟨rbool HF.out, hB.out.trans (D3.out.mono hB.out.size)⟩)
end Go.Proofs.Ythepjghlipdcoaa
namespace Go.Proofs.Ythepjghlipdcoaa
open Go.RowKit
def z0 : Cl := ⟨0, 0, 0⟩
end Go.Proofs.Ythepjghlipdcoaa
namespace Go.Proofs.Ythepjghlipdcoaa
open Go.RowKit
structure PF where
 z : Bool
 c : Int
 g : Nat
 rows : List Nat
 cells : List Cl
section
variable {t n : Int} {l : Nat} {a b c : PF}
end
inductive PS where
 | one (t n : Int)
 | two (t n u m : Int)
inductive PX where
 | one (a : PF)
 | two (a b : PF)
section
variable {S : PS} {x y v : PX}
end
end Go.Proofs.Ythepjghlipdcoaa
namespace Go.Proofs.Ythepjghlipdcoaa
open Go.RowKit
set_option maxHeartbeats 2000000 in
theorem spaceR_is (d : Nat) (s : SV) (e0 : Int) (w : World) (hs : SIn w d s) (he : spaceE s = e0) :
  Calls Try.prog 42 #[s.f.val] w fun e w' => e = .returned (.int .i64 e0) ∧ Below w.heap.size w w' := by
 match d, s, hs with
 | d + 1, .mk ⟨t, n, a, l, c⟩ ps, hs =>
 show Calls Try.prog 42 #[.agg #[.int .i64 t, .int .i64 n, .slice a l c]] w _
 have hl : ps.length = l := hs.1
 by_cases ht : t = 5
 ·subst ht
  have hB := Lib.hid (sbox w #[.int .i64 5, .int .i64 n, .slice a l c] 35)
  have BX := Lib.hid (heapV_new w (.cells #[.int .i64 5, .int .i64 n, .slice a l c] 35))
  have hpl : plainB 5 n l = false := by simp [plainB]
  by_cases h0 : n = 0 ∧ l = 2
  ·obtain ⟨rfl, rfl⟩ := h0
   obtain ⟨p, q, rfl⟩ := two_of hl
   obtain ⟨_, b, off, ha, hb, hp, hq, _, _⟩ := hs.two
   obtain rfl : a = some ⟨b, off, none⟩ := ha
   obtain ⟨⟨pt, pn, pa, pl, pc⟩, pps⟩ := p
   obtain ⟨⟨qt, qn, qa, ql, qc⟩, qps⟩ := q
   have HP := Lib.hid (hp.below hB.out); have HQ := Lib.hid (hq.below hB.out)
   obtain ⟨r1, hr1⟩ : ∃ r, plainB pt pn pl = r := ⟨_, rfl⟩
   obtain ⟨r2, hr2⟩ : ∃ r, plainB qt qn ql = r := ⟨_, rfl⟩
   have HR1 := Lib.hid hr1; have HR2 := Lib.hid hr2
   have HE : Hid ((if r1 = true ∧ r2 = true then (0 : Int) else 50) = e0) := by
    show _ = _
    rw [← he]; simp [spaceE, hpl, SV.pl, SV.f, hr1, hr2]
   obtain ⟨W0, hW0⟩ : ∃ W, w.alloc (.cells #[.int .i64 5, .int .i64 0, .slice (some ⟨b, off, none⟩) 2 c] 35) = W := ⟨_, rfl⟩
   rw [hW0] at BX HP HQ hB
   clear hs hl hp hq hr1 hr2 he hpl
   have NX : ∀ W : World, Below W0.heap.size W0 W → Hid (W.cell? ⟨w.heap.size, 0, none⟩ = some (.int .i64 5) ∧ W.cell? ⟨w.heap.size, 1, none⟩ = some (.int .i64 0) ∧ W.cell? ⟨w.heap.size, 2, none⟩ = some (.slice (some ⟨b, off, none⟩) 2 c)) := fun _ h => tri_cells (heap_old BX.out h)
   have NNX := Lib.hid NX
   clear NX
   obtain ⟨z0, z1, z2⟩ := (NNX.out _ (Below.refl _ _)).out
   go_enter Try.func42, Try.ntmps42
   go_wp2_with fail
   clear z0 z1 z2
   go_loopw [3, 4] (fun o i wr => Below W0.heap.size W0 wr ∧ ((i = .int .i64 0 ∧ o = .bool true) ∨ (i = .int .i64 1 ∧ o = .bool r1) ∨ (i = .int .i64 2 ∧ r1 = true ∧ o = .bool r2))) (fun _ i _ => 2 - (intOf i).toNat)
   case atStart => exact ⟨Below.refl _ _, .inl ⟨rfl, rfl⟩⟩
   case round =>
    obtain ⟨hb1, hrel⟩ := hrel
    obtain ⟨x0, x1, x2⟩ := (NNX.out _ hb1).out
    obtain ⟨y0, y1, y2⟩ := HP.out.below hb1
    obtain ⟨v0, v1, v2⟩ := HQ.out.below hb1
    dsimp only [SV.f] at y0 y1 y2 v0 v1 v2
    simp only [Nat.add_assoc, Nat.reduceAdd] at v1 v2
    rcases hrel with ⟨rfl, rfl⟩ | ⟨rfl, rfl⟩ | ⟨rfl, hr, rfl⟩
    ·by_cases hp5 : pt = 5
     ·subst hp5
      have HF : Hid (r1 = false) := by show _ = _; rw [← HR1.out]; simp [plainB]
      go_wp2_with fail
      go_roundw
      case rel => exact ⟨hb1, .inr (.inl ⟨rfl, by rw [HF.out]⟩)⟩
      case measure => simp [intOf]
     ·have hp6 : (pt != 5) = true := by simp [hp5]
      go_wp2_with fail
      refine (spaceR_flat pt pn pa pl pc hp5 r1 HR1.out _).mono ?_
      rintro e w3 ⟨rfl, hb3⟩
      cases r1
      all_goals
       simp only [Bool.false_eq_true, if_false, if_true]
       go_wp2_with fail
       go_roundw
       case rel => exact ⟨hb1.trans (hb3.mono hb1.size), .inr (.inl ⟨rfl, rfl⟩)⟩
       case measure => simp [intOf]
    ·cases r1
     ·have HE2 : Hid ((50 : Int) = e0) := by show _ = _; rw [← HE.out]; simp
      go_wp2_with fail
      go_ret
      exact ⟨rint HE2.out, hB.out.trans (hb1.mono hB.out.size)⟩
     ·by_cases hp5 : qt = 5
      ·subst hp5
       have HF : Hid (r2 = false) := by show _ = _; rw [← HR2.out]; simp [plainB]
       go_wp2_with fail
       go_roundw
       case rel => exact ⟨hb1, .inr (.inr ⟨by first | rfl | trivial, by first | rfl | trivial, by first | rfl | (rw [HF.out])⟩)⟩
       case measure => simp [intOf]
      ·have hp6 : (qt != 5) = true := by simp [hp5]
       go_wp2_with fail
       refine (spaceR_flat qt qn qa ql qc hp5 r2 HR2.out _).mono ?_
       rintro e w3 ⟨rfl, hb3⟩
       cases r2
       all_goals
        simp only [Bool.false_eq_true, if_false, if_true]
        go_wp2_with fail
        go_roundw
        case rel => exact ⟨hb1.trans (hb3.mono hb1.size), .inr (.inr ⟨by first | rfl | trivial, by first | rfl | trivial, by first | rfl | trivial⟩)⟩
        case measure => simp [intOf]
    ·have HE2 : Hid ((if r2 = true then (0 : Int) else 50) = e0) := by show _ = _; rw [← HE.out, hr]; simp
     cases r2
     all_goals
      go_wp2_with fail
      go_ret
      exact ⟨rint HE2.out, hB.out.trans (hb1.mono hB.out.size)⟩
  ·have HE : Hid ((50 : Int) = e0) := by
    show _ = _
    rw [← he, spaceE, hpl, if_neg (by simp), if_neg]
    rintro ⟨_, h1, h2, _⟩
    exact h0 ⟨h1, by omega⟩
   obtain ⟨W0, hW0⟩ : ∃ W, w.alloc (.cells #[.int .i64 5, .int .i64 n, .slice a l c] 35) = W := ⟨_, rfl⟩
   rw [hW0] at BX hB
   obtain ⟨x0, x1, x2⟩ := tri_cells BX.out
   clear hs hl he hpl
   have hc : (n = 0 ∧ ((n == 0) = true) ∧ ((l : Int) == 2) = false) ∨ ((n == 0) = false) := by
    by_cases hn : n = 0
    ·exact .inl ⟨hn, by simp [hn], by simp; omega⟩
    ·exact .inr (by simp [hn])
   clear h0
   rcases hc with ⟨rfl, c1, c2⟩ | c1
   all_goals
    go_enter Try.func42, Try.ntmps42
    go_wp2_with fail
    go_loopw [3, 4] (fun o i wr => i = .int .i64 0 ∧ o = .bool false ∧ W0 = wr) (fun _ i _ => 0)
    case atStart => exact ⟨rfl, rfl, rfl⟩
    case round =>
     obtain ⟨rfl, rfl, rfl⟩ := hrel
     by_cases hl0 : 0 < l
     ·have g1 : (0 : Int) < (l : Int) := by omega
      go_wp2_with fail
      go_ret
      exact ⟨rint HE.out, hB.out⟩
     ·obtain rfl : l = 0 := by omega
      go_wp2_with fail
      go_ret
      exact ⟨rint HE.out, hB.out⟩
 ·obtain ⟨r, hr⟩ : ∃ r, plainB t n l = r := ⟨_, rfl⟩
  refine (spaceR_flat t n a l c ht r hr w).mono ?_
  rintro e w1 ⟨rfl, hb⟩
  refine ⟨?_, hb⟩
  rw [← he, spaceE_flat ht, hr]
end Go.Proofs.Ythepjghlipdcoaa
namespace Go.Proofs.Ythepjghlipdcoaa
open Go.RowKit
def Row (w : World) (a : Option Addr) (zs : List Int) : Prop :=
 zs = [] ∨ ∃ b off, a = some ⟨b, off, none⟩ ∧ ∀ i, i < zs.length → w.cell? ⟨b, off + i, none⟩ = some (.int .i64 (zs.getD i 0))
end Go.Proofs.Ythepjghlipdcoaa
namespace Go.Proofs.Ythepjghlipdcoaa
open Go.RowKit
theorem co_cell_lt {w : World} {a : Addr} {v : Value} (h : w.cell? a = some v) : a.block < w.heap.size := by
 rcases Nat.lt_or_ge a.block w.heap.size with h' | h'
 ·exact h'
 ·simp [World.cell?, Array.getElem?_eq_none h'] at h
theorem Row.below {w w' : World} {a : Option Addr} {zs : List Int} (h : Row w a zs) (hb : Below w.heap.size w w') : Row w' a zs := by
 rcases h with h | ⟨b, off, rfl, hc⟩
 ·exact .inl h
 ·refine .inr ⟨b, off, rfl, fun i hi => ?_⟩
  have h1 := hc i hi
  rw [hb.cell]
  ·exact h1
  ·exact co_cell_lt h1
end Go.Proofs.Ythepjghlipdcoaa
namespace Go.Proofs.Ythepjghlipdcoaa
open Go Go.RowKit
theorem all_false_at {α : Type} {l : List α} {q : α → Bool} {i : Nat} {x : α} (h : l[i]? = some x) (hq : q x = false) : l.all q = false := by
 rw [List.all_eq_false]; exact ⟨x, List.mem_of_getElem? h, by rw [hq]; decide⟩
theorem all_take_at {α : Type} {l : List α} {q : α → Bool} {i : Nat} {x : α} (h : l[i]? = some x) (ha : (l.take i).all q = true) (hq : q x = true) : (l.take (i + 1)).all q = true := by
 rw [List.take_add_one, h]; simp [ha, hq]
def okW (s : SV) (x : WV) : Bool := if plainB s.f.tag s.f.dim s.f.len = true then pwOk s.f.tag s.f.dim x.f else match s.ps with | [p, q] => pairOk p q x.f x.ps | _ => false
def chkW (s : SV) (x : WV) : Int := if spaceE s = 0 then (if okW s x = true then 0 else 51) else spaceE s
end Go.Proofs.Ythepjghlipdcoaa
namespace Go.Proofs.Ythepjghlipdcoaa
open Go.RowKit
set_option linter.unusedSimpArgs false
def pc : Nat → Nat → Nat
 | 0, _ => 0
 | n + 1, f => pc n f + (if f.testBit n then 1 else 0)
end Go.Proofs.Ythepjghlipdcoaa
namespace Go.Proofs.Ythepjghlipdcoaa
open Go.RowKit
attribute [local go_sem ↓] Go.wp_at_zero Go.wp_at_succ
theorem isR_genY {w : World} {ds da : Nat} {s : SV} {x : WV} (hs : SIn w ds s) (hse : spaceE s = 0) (hx : WIn w da x) :
  Calls Try.prog 49 #[s.f.val, x.f.val] w fun e w' => e = .returned (.bool (okW s x)) ∧ Below w.heap.size w w' := by
 match ds, da, s, x, hs, hx with
 | ds + 1, da + 1, .mk f ps, .mk g qs, hs, hx =>
  by_cases hp : plainB f.tag f.dim f.len = true
  ·refine isR_plainY f.tag f.dim f.a f.len f.cap g hp (Nat.zero_le _) w hx.1 _ ?_
   unfold okW; exact (if_pos hp).symm
  ·have hse' : (if plainB f.tag f.dim f.len = true then (0 : Int) else if f.tag = 5 ∧ f.dim = 0 ∧ ps.length = 2 ∧ ps.all SV.pl = true then 0 else 50) = 0 := hse
   rw [if_neg hp] at hse'
   split at hse'
   ·rename_i hq
    obtain ⟨h5, h0, h2, hall⟩ := hq
    obtain ⟨t, n, a, l, c⟩ := f
    dsimp only at h5 h0 hp
    subst h5; subst h0
    obtain ⟨p, q, rfl⟩ := two_of h2
    have hl : 2 = l := hs.1
    subst hl
    simp only [List.all_cons, List.all_nil, Bool.and_true, Bool.and_eq_true] at hall
    refine isR_pairY ds a c p q g qs w hs hall.1 hall.2 da hx (fun _ _ => Nat.zero_le _) _ ?_
    unfold okW; exact (if_neg hp).symm
   ·cases hse'
end Go.Proofs.Ythepjghlipdcoaa
namespace Go.Proofs.Ythepjghlipdcoaa
open Go Go.RowKit
structure RV where
 p : Int
 g : Int
 q : Int
 wa : Option Addr
 wl : Nat
 wc : Nat
 ws : List Int
 x : WV
abbrev RV.val (r : RV) : Value := .agg #[.int .i64 r.p, .int .i64 r.g, .int .i64 r.q, .slice r.wa r.wl r.wc, .bool r.x.f.z, .int .i64 r.x.f.c, .int .u64 (r.x.f.g : Int), .slice r.x.f.ra r.x.f.rl r.x.f.rc, .slice r.x.f.ca r.x.f.cl r.x.f.cc, .slice r.x.f.pa r.x.f.pl r.x.f.pc]
abbrev RV.ten (r : RV) : List Value := [.int .i64 r.p, .int .i64 r.g, .int .i64 r.q, .slice r.wa r.wl r.wc, .bool r.x.f.z, .int .i64 r.x.f.c, .int .u64 (r.x.f.g : Int), .slice r.x.f.ra r.x.f.rl r.x.f.rc, .slice r.x.f.ca r.x.f.cl r.x.f.cc, .slice r.x.f.pa r.x.f.pl r.x.f.pc]
structure RIn (w : World) (d : Nat) (r : RV) : Prop where
 row : Row w r.wa r.ws
 len : r.ws.length = r.wl
 x : WIn w d r.x
def RRow (w : World) (a : Option Addr) (rs : List RV) : Prop :=
 rs = [] ∨ ∃ b off, a = some ⟨b, off, none⟩ ∧ ∀ (i : Nat) r, rs[i]? = some r → CellsAt w b (off + i * 10) r.ten
structure PV where
 s : SV
 st : Int
 sy : Int
 ra : Option Addr
 rl : Nat
 rc : Nat
 rs : List RV
abbrev PV.val (p : PV) : Value := .agg #[.int .i64 p.s.f.tag, .int .i64 p.s.f.dim, .slice p.s.f.a p.s.f.len p.s.f.cap, .int .i64 p.st, .int .i64 p.sy, .slice p.ra p.rl p.rc]
abbrev PV.six (p : PV) : List Value := [.int .i64 p.s.f.tag, .int .i64 p.s.f.dim, .slice p.s.f.a p.s.f.len p.s.f.cap, .int .i64 p.st, .int .i64 p.sy, .slice p.ra p.rl p.rc]
structure PvIn (w : World) (ds d : Nat) (p : PV) : Prop where
 s : SIn w ds p.s
 row : RRow w p.ra p.rs
 len : p.rs.length = p.rl
 rin : ∀ r ∈ p.rs, RIn w d r
structure CV where
 p : Int
 wa : Option Addr
 wl : Nat
 wc : Nat
 ws : List Int
abbrev CV.val (c : CV) : Value := .agg #[.int .i64 c.p, .slice c.wa c.wl c.wc]
structure CIn (w : World) (c : CV) : Prop where
 row : Row w c.wa c.ws
 len : c.ws.length = c.wl
theorem RIn.below {w w' : World} {d : Nat} {r : RV} (h : RIn w d r) (hb : Below w.heap.size w w') : RIn w' d r := ⟨h.row.below hb, h.len, WIn.below hb h.x⟩
theorem CIn.below {w w' : World} {c : CV} (h : CIn w c) (hb : Below w.heap.size w w') : CIn w' c := ⟨h.row.below hb, h.len⟩
theorem RRow.at_ {w : World} {a : Option Addr} {rs : List RV} (h : RRow w a rs) {i : Nat} {r : RV} (hi : rs[i]? = some r) : ∃ b off, a = some ⟨b, off, none⟩ ∧ CellsAt w b (off + i * 10) r.ten := by
 rcases h with rfl | ⟨b, off, ha, hc⟩
 ·simp at hi
 ·exact ⟨b, off, ha, hc i r hi⟩
theorem RRow.below {w w' : World} {a : Option Addr} {rs : List RV} (h : RRow w a rs) (hb : Below w.heap.size w w') : RRow w' a rs := by
 rcases h with h | ⟨b, off, rfl, hc⟩
 ·exact .inl h
 ·exact .inr ⟨b, off, rfl, fun i r hi => CellsAt.agree (below_agree hb 0) (Nat.zero_le _) (hc i r hi)⟩
theorem PvIn.below {w w' : World} {ds d : Nat} {p : PV} (h : PvIn w ds d p) (hb : Below w.heap.size w w') : PvIn w' ds d p := ⟨SIn.below hb h.s, h.row.below hb, h.len, fun r hr => (h.rin r hr).below hb⟩
theorem Row.at1 {w : World} {a : Option Addr} {zs : List Int} (h : Row w a zs) {i : Nat} (hi : i < zs.length) : ∃ b off y, a = some ⟨b, off, none⟩ ∧ zs[i]? = some y ∧ w.cell? ⟨b, off + i * 1, none⟩ = some (.int .i64 y) := by
 rcases h with rfl | ⟨b, off, ha, hc⟩
 ·simp at hi
 ·refine ⟨b, off, zs[i], ha, by simp [hi], ?_⟩
  rw [Nat.mul_one]
  have := hc i hi
  rw [this]; simp [List.getD, List.getElem?_eq_getElem hi]
def inQ (x n : Int) : Bool := decide (0 ≤ x) && decide (x < n)
def ruleB (st sy : Int) (r : RV) : Bool := inQ r.p st && (inQ r.q st && (inQ r.g sy && (decide (r.wl ≤ 4096) && r.ws.all (fun y => inQ y sy))))
def wtE (s : SV) : List RV → Int
 | [] => 0
 | r :: rs => if chkW s r.x = 0 then wtE s rs else chkW s r.x
theorem wtE_at {s : SV} : ∀ {rs : List RV} {i : Nat} {r : RV}, rs[i]? = some r → (rs.take i).all (fun r => decide (chkW s r.x = 0)) = true → chkW s r.x ≠ 0 → wtE s rs = chkW s r.x
 | [], _, _, h, _, _ => by simp at h
 | a :: rs, 0, r, h, _, hn => by
  simp at h; subst h
  unfold wtE; rw [if_neg hn]
 | a :: rs, i + 1, r, h, ha, hn => by
  simp only [List.take_succ_cons, List.all_cons, Bool.and_eq_true, decide_eq_true_eq] at ha
  unfold wtE; rw [if_pos ha.1]
  exact wtE_at (by simpa using h) ha.2 hn
theorem wtE_all {s : SV} : ∀ {rs : List RV}, rs.all (fun r => decide (chkW s r.x = 0)) = true → wtE s rs = 0
 | [], _ => rfl
 | a :: rs, h => by
  simp only [List.all_cons, Bool.and_eq_true, decide_eq_true_eq] at h
  unfold wtE; rw [if_pos h.1]
  exact wtE_all h.2
def pdsE (p : PV) : Int :=
 if spaceE p.s ≠ 0 then spaceE p.s else if 16384 < p.rl then 3 else if p.st < 0 ∨ 4096 < p.st ∨ p.sy < 0 ∨ 4096 < p.sy then 110 else if p.rs.all (ruleB p.st p.sy) then wtE p.s p.rs else 110
def confB (p : PV) (c : CV) : Bool := inQ c.p p.st && (decide (c.wl ≤ 4096) && c.ws.all (fun y => inQ y p.sy))
def stepE (p : PV) (c : CV) : Int := if pdsE p ≠ 0 then pdsE p else if confB p c then 0 else 120
end Go.Proofs.Ythepjghlipdcoaa
namespace Go.Proofs.Ythepjghlipdcoaa
open Go Go.RowKit
theorem checkR_genY (ds da : Nat) (s : SV) (x : WV) (w : World) (hs : SIn w ds s) (hx : WIn w da x) :
  Calls Try.prog 44 #[s.f.val, x.f.val] w (fun e w' => e = .returned (.int .i64 (chkW s x)) ∧ Below w.heap.size w w') := by
 refine enterF (args := [s.f.val, x.f.val]) Try.func44 rfl Try.ntmps44 rfl ?_
 have hS := St.start w
 refine seqF (regF ?_)
 refine op_box (cs := [_, _, _]) hS rfl rfl rfl ?_
 clear hS; intro B1 W1 hS
 refine op_box (cs := [_, _, _, _, _, _]) hS rfl rfl rfl ?_
 clear hS; intro B2 W2 hS
 refine op_assign rfl rfl ?_
 refine endF (XF.thenN ?_)
 refine seqF (regF ?_)
 refine op_loadA (vs := [_, _, _]) Try.isAgg35 Try.sizeOf35 rfl (CellsAt.own (j := 0) (m := 3) (hS.at_ 1 rfl) rfl) rfl ?_
 refine op_call (vs := [_]) hS goes_42 rfl (spaceR_is ds s _ _ (SIn.below hS.below hs) rfl) rfl ?_
 rintro e W3 ⟨rfl, hb⟩
 refine ⟨_, rfl, hb, fun hS' => ?_⟩
 clear hS; have hS := hS'; clear hS' hb
 refine op_assign rfl rfl ?_
 refine endF (XF.thenN ?_)
 refine seqF ?_
 refine seqF (regF ?_)
 refine op_move rfl rfl ?_
 refine op_neq rfl rfl rfl ?_
 refine endF (XF.thenN ?_)
 refine condF rfl (fun hc => ?_) (fun hc => ?_)
 ·have hc9 := of_decide_eq_true hc; clear hc
  refine seqF (regF ?_)
  refine op_move rfl rfl ?_
  refine op_assign rfl rfl ?_
  refine endF (XF.thenN ?_)
  refine retF ?_
  refine XF.thenR ?_
  refine XF.res (res1 Try.results44 rfl) ?_
  exact ⟨rint (by unfold chkW; rw [if_neg hc9]), hS.below⟩
 ·have hc9 := of_decide_eq_false hc; clear hc
  have hse : spaceE s = 0 := by omega
  refine skipF ?_
  refine XF.thenN ?_
  refine seqF ?_
  refine seqF (regF ?_)
  refine op_loadA (vs := [_, _, _]) Try.isAgg35 Try.sizeOf35 rfl (CellsAt.own (j := 0) (m := 3) (hS.at_ 1 rfl) rfl) rfl ?_
  refine op_loadA (vs := [_, _, _, _, _, _]) Try.isAgg67 Try.sizeOf67 rfl (CellsAt.own (j := 0) (m := 6) (hS.at_ 0 rfl) rfl) rfl ?_
  refine op_call (vs := [_, _]) hS goes_49 rfl (isR_genY (SIn.below hS.below hs) hse (WIn.below hS.below hx)) rfl ?_
  rintro e W4 ⟨rfl, hb⟩
  refine ⟨_, rfl, hb, fun hS' => ?_⟩
  clear hS; have hS := hS'; clear hS' hb
  refine op_not rfl rfl ?_
  refine endF (XF.thenN ?_)
  refine condF rfl (fun hc => ?_) (fun hc => ?_)
  ·have hc14 := hc; clear hc
   refine seqF (regF ?_)
   refine op_assign rfl rfl ?_
   refine endF (XF.thenN ?_)
   refine retF ?_
   refine XF.thenR ?_
   refine XF.res (res1 Try.results44 rfl) ?_
   exact ⟨rint (by unfold chkW; rw [if_pos hse, if_neg (by simpa using hc14)]), hS.below⟩
  ·have hc14 := hc; clear hc
   refine skipF ?_
   refine XF.thenN ?_
   refine seqF (regF ?_)
   refine op_assign rfl rfl ?_
   refine endF (XF.thenN ?_)
   refine retF ?_
   refine XF.res (res1 Try.results44 rfl) ?_
   exact ⟨rint (by unfold chkW; rw [if_pos hse, if_pos (by simpa using hc14)]), hS.below⟩
theorem inR_is (n m : Int) (w : World) :
  Calls Try.prog 48 #[.int .i64 n, .int .i64 m] w (fun e w' => e = .returned (.bool (inQ n m)) ∧ Below w.heap.size w w') := by
 refine enterF (args := [.int .i64 n, .int .i64 m]) Try.func48 rfl Try.ntmps48 rfl ?_
 have hS := St.start w
 refine seqF (regF ?_)
 refine op_assign rfl rfl ?_
 refine endF (XF.thenN ?_)
 refine seqF (regF ?_)
 refine op_move rfl rfl ?_
 refine op_geq rfl rfl rfl ?_
 refine op_move rfl rfl ?_
 refine op_cases (d := 7) rfl (fun hc => ?_) (fun hc => ?_)
 ·have hg7 := of_decide_eq_true hc; clear hc
  refine op_wantedF (d := 7) rfl rfl ?_
  refine op_move rfl rfl ?_
  refine op_wantedF (d := 7) rfl rfl ?_
  refine op_move rfl rfl ?_
  refine op_wantedF (d := 7) rfl rfl ?_
  refine op_lss rfl rfl rfl ?_
  refine op_pickT rfl rfl rfl ?_
  refine op_assign rfl rfl ?_
  refine endF (XF.thenN ?_)
  refine retF ?_
  refine XF.res (res1 Try.results48 rfl) ?_
  exact ⟨rbool (by simp [inQ, show 0 ≤ n from hg7]), hS.below⟩
 ·have hg7 := of_decide_eq_false hc; clear hc
  refine op_notF (d := 7) rfl rfl rfl rfl ?_
  refine op_notF (d := 7) rfl rfl rfl rfl ?_
  refine op_notF (d := 7) rfl rfl rfl rfl ?_
  refine op_pickF rfl rfl rfl ?_
  refine op_assign rfl rfl ?_
  refine endF (XF.thenN ?_)
  refine retF ?_
  refine XF.res (res1 Try.results48 rfl) ?_
  exact ⟨rbool (by simp [inQ]; omega), hS.below⟩
theorem ruleR_c (P0 : PV) (p g q : Int) (wa : Option Addr) (wl wc : Nat) (ws : List Int) (x : WV) (w : World) (hrow : Row w wa ws) (hlen : ws.length = wl) :
  Calls Try.prog 43 #[P0.val, .agg #[.int .i64 p, .int .i64 g, .int .i64 q, .slice wa wl wc, .bool x.f.z, .int .i64 x.f.c, .int .u64 (x.f.g : Int), .slice x.f.ra x.f.rl x.f.rc, .slice x.f.ca x.f.cl x.f.cc, .slice x.f.pa x.f.pl x.f.pc]] w (fun e w' => e = .returned (.bool (ruleB P0.st P0.sy ⟨p, g, q, wa, wl, wc, ws, x⟩)) ∧ Below w.heap.size w w') := by
 refine enterF (args := [P0.val, .agg #[.int .i64 p, .int .i64 g, .int .i64 q, .slice wa wl wc, .bool x.f.z, .int .i64 x.f.c, .int .u64 (x.f.g : Int), .slice x.f.ra x.f.rl x.f.rc, .slice x.f.ca x.f.cl x.f.cc, .slice x.f.pa x.f.pl x.f.pc]]) Try.func43 rfl Try.ntmps43 rfl ?_
 have hS := St.start w
 refine seqF (regF ?_)
 refine op_box (cs := [_, _, _, _, _, _]) hS rfl rfl rfl ?_
 clear hS; intro B1 W1 hS
 refine op_box (cs := [_, _, _, _, _, _, _, _, _, _]) hS rfl rfl rfl ?_
 clear hS; intro B2 W2 hS
 refine op_assign rfl rfl ?_
 refine endF (XF.thenN ?_)
 refine seqF ?_
 refine seqF (regF ?_)
 refine op_field (o' := 0) fa_69_0 rfl rfl rfl ?_
 refine op_load Try.isAgg3 rfl (cell_own (hS.at_ 0 rfl) rfl) rfl ?_
 refine op_field (o' := 3) fa_38_1 rfl rfl rfl ?_
 refine op_load Try.isAgg3 rfl (cell_own (hS.at_ 1 rfl) rfl) rfl ?_
 refine op_call (vs := [_, _]) hS goes_48 rfl (inR_is p P0.st _) rfl ?_
 rintro e W3 ⟨rfl, hb⟩
 refine ⟨_, rfl, hb, fun hS' => ?_⟩
 clear hS; have hS := hS'; clear hS' hb
 refine op_not rfl rfl ?_
 refine op_move rfl rfl ?_
 refine op_cases (d := 12) rfl (fun hc => ?_) (fun hc => ?_)
 ·have hg12 := hc; clear hc
  have e1 : inQ p P0.st = false := by simpa using hg12
  refine op_notF (d := 12) rfl rfl rfl rfl ?_
  refine op_notF (d := 12) rfl rfl rfl rfl ?_
  refine op_notF (d := 12) rfl rfl rfl rfl ?_
  refine op_notF (d := 12) rfl rfl rfl rfl ?_
  refine op_notF (d := 12) rfl rfl rfl rfl ?_
  refine op_notF (d := 12) rfl rfl rfl rfl ?_
  refine op_pickT rfl rfl rfl ?_
  refine op_move rfl rfl ?_
  refine op_notF (d := 20) rfl rfl rfl rfl ?_
  refine op_notF (d := 20) rfl rfl rfl rfl ?_
  refine op_notF (d := 20) rfl rfl rfl rfl ?_
  refine op_notF (d := 20) rfl rfl rfl rfl ?_
  refine op_notF (d := 20) rfl rfl rfl rfl ?_
  refine op_notF (d := 20) rfl rfl rfl rfl ?_
  refine op_pickT rfl rfl rfl ?_
  refine op_move rfl rfl ?_
  refine op_notF (d := 28) rfl rfl rfl rfl ?_
  refine op_notF (d := 28) rfl rfl rfl rfl ?_
  refine op_notF (d := 28) rfl rfl rfl rfl ?_
  refine op_notF (d := 28) rfl rfl rfl rfl ?_
  refine op_pickT rfl rfl rfl ?_
  refine endF (XF.thenN ?_)
  refine condT rfl ?_
  refine seqF (regF ?_)
  refine op_assign rfl rfl ?_
  refine endF (XF.thenN ?_)
  refine retF ?_
  refine XF.thenR ?_
  refine XF.res (res1 Try.results43 rfl) ?_
  exact ⟨rbool (by simp [ruleB, e1]), hS.below⟩
 ·have hg12 := hc; clear hc
  have e1 : inQ p P0.st = true := by simpa using hg12
  refine op_wantedF (d := 12) rfl rfl ?_
  refine op_field (o' := 2) fa_69_2 rfl rfl rfl ?_
  refine op_wantedF (d := 12) rfl rfl ?_
  refine op_load Try.isAgg3 rfl (cell_own (hS.at_ 0 rfl) rfl) rfl ?_
  refine op_wantedF (d := 12) rfl rfl ?_
  refine op_field (o' := 3) fa_38_1 rfl rfl rfl ?_
  refine op_wantedF (d := 12) rfl rfl ?_
  refine op_load Try.isAgg3 rfl (cell_own (hS.at_ 1 rfl) rfl) rfl ?_
  refine op_wantedF (d := 12) rfl rfl ?_
  refine op_call (vs := [_, _]) hS goes_48 rfl (inR_is q P0.st _) rfl ?_
  rintro e W4 ⟨rfl, hb⟩
  refine ⟨_, rfl, hb, fun hS' => ?_⟩
  clear hS; have hS := hS'; clear hS' hb
  refine op_wantedF (d := 12) rfl rfl ?_
  refine op_not rfl rfl ?_
  refine op_pickF rfl rfl rfl ?_
  refine op_move rfl rfl ?_
  refine op_cases (d := 20) rfl (fun hc => ?_) (fun hc => ?_)
  ·have hg20 := hc; clear hc
   have e2 : inQ q P0.st = false := by simpa using hg20
   refine op_notF (d := 20) rfl rfl rfl rfl ?_
   refine op_notF (d := 20) rfl rfl rfl rfl ?_
   refine op_notF (d := 20) rfl rfl rfl rfl ?_
   refine op_notF (d := 20) rfl rfl rfl rfl ?_
   refine op_notF (d := 20) rfl rfl rfl rfl ?_
   refine op_notF (d := 20) rfl rfl rfl rfl ?_
   refine op_pickT rfl rfl rfl ?_
   refine op_move rfl rfl ?_
   refine op_notF (d := 28) rfl rfl rfl rfl ?_
   refine op_notF (d := 28) rfl rfl rfl rfl ?_
   refine op_notF (d := 28) rfl rfl rfl rfl ?_
   refine op_notF (d := 28) rfl rfl rfl rfl ?_
   refine op_pickT rfl rfl rfl ?_
   refine endF (XF.thenN ?_)
   refine condT rfl ?_
   refine seqF (regF ?_)
   refine op_assign rfl rfl ?_
   refine endF (XF.thenN ?_)
   refine retF ?_
   refine XF.thenR ?_
   refine XF.res (res1 Try.results43 rfl) ?_
   exact ⟨rbool (by simp [ruleB, e1, e2]), hS.below⟩
  ·have hg20 := hc; clear hc
   have e2 : inQ q P0.st = true := by simpa using hg20
   refine op_wantedF (d := 20) rfl rfl ?_
   refine op_field (o' := 1) fa_69_1 rfl rfl rfl ?_
   refine op_wantedF (d := 20) rfl rfl ?_
   refine op_load Try.isAgg3 rfl (cell_own (hS.at_ 0 rfl) rfl) rfl ?_
   refine op_wantedF (d := 20) rfl rfl ?_
   refine op_field (o' := 4) fa_38_2 rfl rfl rfl ?_
   refine op_wantedF (d := 20) rfl rfl ?_
   refine op_load Try.isAgg3 rfl (cell_own (hS.at_ 1 rfl) rfl) rfl ?_
   refine op_wantedF (d := 20) rfl rfl ?_
   refine op_call (vs := [_, _]) hS goes_48 rfl (inR_is g P0.sy _) rfl ?_
   rintro e W5 ⟨rfl, hb⟩
   refine ⟨_, rfl, hb, fun hS' => ?_⟩
   clear hS; have hS := hS'; clear hS' hb
   refine op_wantedF (d := 20) rfl rfl ?_
   refine op_not rfl rfl ?_
   refine op_pickF rfl rfl rfl ?_
   refine op_move rfl rfl ?_
   refine op_cases (d := 28) rfl (fun hc => ?_) (fun hc => ?_)
   ·have hg28 := hc; clear hc
    have e3 : inQ g P0.sy = false := by simpa using hg28
    refine op_notF (d := 28) rfl rfl rfl rfl ?_
    refine op_notF (d := 28) rfl rfl rfl rfl ?_
    refine op_notF (d := 28) rfl rfl rfl rfl ?_
    refine op_notF (d := 28) rfl rfl rfl rfl ?_
    refine op_pickT rfl rfl rfl ?_
    refine endF (XF.thenN ?_)
    refine condT rfl ?_
    refine seqF (regF ?_)
    refine op_assign rfl rfl ?_
    refine endF (XF.thenN ?_)
    refine retF ?_
    refine XF.thenR ?_
    refine XF.res (res1 Try.results43 rfl) ?_
    exact ⟨rbool (by simp [ruleB, e1, e2, e3]), hS.below⟩
   ·have hg28 := hc; clear hc
    have e3 : inQ g P0.sy = true := by simpa using hg28
    refine op_wantedF (d := 28) rfl rfl ?_
    refine op_field (o' := 3) fa_69_3 rfl rfl rfl ?_
    refine op_wantedF (d := 28) rfl rfl ?_
    refine op_load Try.isAgg23 rfl (cell_own (hS.at_ 0 rfl) rfl) rfl ?_
    refine op_wantedF (d := 28) rfl rfl ?_
    refine op_len Try.underlying23 rfl rfl ?_
    refine op_wantedF (d := 28) rfl rfl ?_
    refine op_gtr rfl rfl rfl ?_
    refine op_pickF rfl rfl rfl ?_
    refine endF (XF.thenN ?_)
    refine condF rfl (fun hc => ?_) (fun hc => ?_)
    ·have hc33 := of_decide_eq_true hc; clear hc
     have e4 : decide (wl ≤ 4096) = false := by simp; omega
     refine seqF (regF ?_)
     refine op_assign rfl rfl ?_
     refine endF (XF.thenN ?_)
     refine retF ?_
     refine XF.thenR ?_
     refine XF.res (res1 Try.results43 rfl) ?_
     exact ⟨rbool (by simp [ruleB, e1, e2, e3, e4]), hS.below⟩
    ·have hc33 := of_decide_eq_false hc; clear hc
     have e4 : decide (wl ≤ 4096) = true := by simp; omega
     refine skipF ?_
     refine XF.thenN ?_
     refine seqF ?_
     refine seqF (regF ?_)
     refine op_assign rfl rfl ?_
     refine endF (XF.thenN ?_)
     refine blockF ?_
     refine loopF (fun m l W => ∃ i : Nat, i ≤ wl ∧ m = wl - i ∧ l = [(2, .pointer (some ⟨B1, 0, none⟩)), (3, .pointer (some ⟨B2, 0, none⟩)), (5, .int .i64 (i : Int))] ∧ (ws.take i).all (fun y => inQ y P0.sy) = true ∧ St w [(B2, [.int .i64 p, .int .i64 g, .int .i64 q, .slice wa wl wc, .bool x.f.z, .int .i64 x.f.c, .int .u64 (x.f.g : Int), .slice x.f.ra x.f.rl x.f.rc, .slice x.f.ca x.f.cl x.f.cc, .slice x.f.pa x.f.pl x.f.pc], 69), (B1, P0.six, 38)] [] [] W) (wl - 0) ([(2, _), (3, _), (5, _)]) ⟨rfl, rfl, rfl, trivial⟩ (⟨0, Nat.zero_le _, rfl, rfl, rfl, hS.clear⟩) ?_
     clear hS
     rintro m l W ⟨i, hi, rfl, rfl, hall, hS⟩
     refine seqF ?_
     refine seqF (regF ?_)
     refine op_move rfl rfl ?_
     refine op_field (o' := 3) fa_69_3 rfl rfl rfl ?_
     refine op_load Try.isAgg23 rfl (cell_own (hS.at_ 0 rfl) rfl) rfl ?_
     refine op_len Try.underlying23 rfl rfl ?_
     refine op_lss rfl rfl rfl ?_
     refine endF (XF.thenN ?_)
     refine condF rfl (fun hc => ?_) (fun hc => ?_)
     ·have hc38 := of_decide_eq_true hc; clear hc
      have hk : i < wl := by omega
      obtain ⟨b, off, y, rfl, hy, hyc⟩ := hrow.at1 (show i < ws.length by omega)
      have k1 := hS.old hyc
      refine skipF ?_
      refine XF.thenN ?_
      refine seqF ?_
      refine blockF ?_
      refine seqF ?_
      refine regB (m := 9) followsM hS (by kernel_rfl) (by kernel_rfl) rfl ?_
      refine bl_cons 1 rfl (isV _) (stab_isV _) (rgV (li := [(3, _)]) rfl (w_free rfl) ⟨g_fr (by kernel_rfl) rfl, trivial⟩ (fun w hw => rn_field (o' := 3) fa_69_3 rfl rfl) (at_top rfl)) ?_
      refine bl_cons 2 rfl (isV _) (stab_isV _) (rgV (li := [(41, _)]) rfl (w_free rfl) ⟨g_dep 0 (by kernel_rfl) (at_dep rfl rfl rfl), trivial⟩ (fun w hw => rn_load Try.isAgg23 rfl ((below_agree hw 0).cell (Nat.zero_le _) (cell_own (hS.at_ 0 rfl) rfl))) (at_top rfl)) ?_
      refine bl_cons 3 rfl (isV _) (stab_isV _) (rgV (li := [(5, _)]) rfl (w_free rfl) ⟨g_fr (by kernel_rfl) rfl, trivial⟩ (fun w hw => rn_move rfl) (at_top rfl)) ?_
      refine bl_cons 4 rfl (isV _) (stab_isV _) (rgV (li := [(42, _), (43, _)]) rfl (w_free rfl) ⟨g_dep 1 (by kernel_rfl) (at_dep rfl rfl rfl), g_dep 2 (by kernel_rfl) (at_dep rfl rfl rfl), trivial⟩ (fun w hw => rn_indexA  Try.underlying23 Try.sizeOf3 rfl rfl rfl (by omega) rfl) (at_top rfl)) ?_
      refine bl_cons 5 rfl (isV _) (stab_isV _) (rgV (li := [(44, _)]) rfl (w_free rfl) ⟨g_dep 3 (by kernel_rfl) (at_dep rfl rfl rfl), trivial⟩ (fun w hw => rn_load Try.isAgg3 rfl ((below_agree hw 0).cell (Nat.zero_le _) (by assumption))) (at_top rfl)) ?_
      refine bl_cons 6 rfl (isV _) (stab_isV _) (rgV (li := [(2, _)]) rfl (w_free rfl) ⟨g_fr (by kernel_rfl) rfl, trivial⟩ (fun w hw => rn_field (o' := 4) fa_38_2 rfl rfl) (at_top rfl)) ?_
      refine bl_cons 7 rfl (isV _) (stab_isV _) (rgV (li := [(46, _)]) rfl (w_free rfl) ⟨g_dep 5 (by kernel_rfl) (at_dep rfl rfl rfl), trivial⟩ (fun w hw => rn_load Try.isAgg3 rfl ((below_agree hw 0).cell (Nat.zero_le _) (cell_own (hS.at_ 1 rfl) rfl))) (at_top rfl)) ?_
      refine bl_cons 8 rfl (isV (.bool (inQ y P0.sy))) (stab_isV _) (rg_call [isV _, isV _] rfl goes_48 (w_free rfl) ⟨p_tmp (g_dep 4 (by kernel_rfl) (at_dep rfl rfl rfl)), p_tmp (g_dep 6 (by kernel_rfl) (at_dep rfl rfl rfl)), trivial⟩ (fun vs w' hb hh => by have e := holds_isV (us := [_, _]) hh; subst e; exact (inR_is y P0.sy _).mono fun e w2 h => ⟨_, h.1, rfl, h.2⟩) (at_top rfl)) ?_
      refine bl_cons 9 rfl (isV _) (stab_isV _) (rgV (li := [(48, _)]) rfl (w_free rfl) ⟨g_dep 7 (by kernel_rfl) (at_dep rfl rfl rfl), trivial⟩ (fun w hw => rn_not rfl) (at_top rfl)) ?_
      refine bl_nil ?_
      intro W6 hbR hS'
      clear hS; have hS := hS'; clear hS'
      refine fin_v ?_
      refine fin_v ?_
      refine fin_v ?_
      refine fin_v ?_
      refine fin_v ?_
      refine fin_v ?_
      refine fin_v ?_
      refine fin_v ?_
      refine fin_v ?_
      refine fin_nil ?_
      refine XF.thenN ?_
      refine condF rfl (fun hc => ?_) (fun hc => ?_)
      ·have hc49 := hc; clear hc
       refine seqF (regF ?_)
       refine op_assign rfl rfl ?_
       refine endF (XF.thenN ?_)
       refine retF ?_
       refine XF.blkR ?_
       refine XF.thenR ?_
       refine XF.thenR ?_
       refine XF.blkR ?_
       refine XF.thenR ?_
       refine XF.res (res1 Try.results43 rfl) ?_
       exact ⟨rbool (by simp only [ruleB]; rw [all_false_at hy (by simpa using hc49)]; simp), hS.below⟩
      ·have hc49 := hc; clear hc
       refine skipF ?_
       refine XF.blkN ?_
       refine XF.thenN ?_
       refine regF ?_
       refine op_move rfl rfl ?_
       refine op_add rfl rfl (IntWalk.i64_in _ (by omega)) rfl ?_
       refine op_assign rfl rfl ?_
       refine endF ?_
       exact XF.round (wl - (i + 1)) [(2, _), (3, _), (5, _)] (by omega) ⟨rfl, rfl, rfl, trivial⟩ ⟨i + 1, by omega, rfl, rfl, all_take_at hy hall (by simpa using hc49), hS.clear⟩
     ·have hc38 := of_decide_eq_false hc; clear hc
      refine exitF ?_
      refine XF.thenX ?_
      refine XF.thenX ?_
      refine XF.blkX ?_
      refine XF.thenN ?_
      refine seqF (regF ?_)
      refine op_assign rfl rfl ?_
      refine endF (XF.thenN ?_)
      refine retF ?_
      refine XF.res (res1 Try.results43 rfl) ?_
      rw [List.take_of_length_le (by omega)] at hall
      exact ⟨rbool (by simp [ruleB, e1, e2, e3, e4, hall]), hS.below⟩
theorem ruleR_is {w : World} {d : Nat} (P0 : PV) {r : RV} (h : RIn w d r) : Calls Try.prog 43 #[P0.val, r.val] w (fun e w' => e = .returned (.bool (ruleB P0.st P0.sy r)) ∧ Below w.heap.size w w') := ruleR_c P0 _ _ _ _ _ _ _ _ w h.row h.len
end Go.Proofs.Ythepjghlipdcoaa
namespace Go.Proofs.Ythepjghlipdcoaa
open Go Go.RowKit
theorem pdsR_c (ds d : Nat) (s : SV) (st sy : Int) (ra : Option Addr) (rl rc : Nat) (rs : List RV) (w : World) (hs : SIn w ds s) (hrow : RRow w ra rs) (hlen : rs.length = rl) (hin : ∀ r ∈ rs, RIn w d r) :
  Calls Try.prog 30 #[.agg #[.int .i64 s.f.tag, .int .i64 s.f.dim, .slice s.f.a s.f.len s.f.cap, .int .i64 st, .int .i64 sy, .slice ra rl rc]] w (fun e w' => e = .returned (.int .i64 (pdsE ⟨s, st, sy, ra, rl, rc, rs⟩)) ∧ Below w.heap.size w w') := by
 refine enterF (args := [.agg #[.int .i64 s.f.tag, .int .i64 s.f.dim, .slice s.f.a s.f.len s.f.cap, .int .i64 st, .int .i64 sy, .slice ra rl rc]]) Try.func30 rfl Try.ntmps30 rfl ?_
 have hS := St.start w
 refine seqF (regF ?_)
 refine op_box (cs := [_, _, _, _, _, _]) hS rfl rfl rfl ?_
 clear hS; intro B1 W1 hS
 refine op_assign rfl rfl ?_
 refine endF (XF.thenN ?_)
 refine seqF (regF ?_)
 refine op_field (o' := 0) fa_38_0 rfl rfl rfl ?_
 refine op_loadA (vs := [_, _, _]) Try.isAgg35 Try.sizeOf35 rfl (CellsAt.own (j := 0) (m := 3) (hS.at_ 0 rfl) rfl) rfl ?_
 refine op_call (vs := [_]) hS goes_42 rfl (spaceR_is ds s _ _ (SIn.below hS.below hs) rfl) rfl ?_
 rintro e W2 ⟨rfl, hb⟩
 refine ⟨_, rfl, hb, fun hS' => ?_⟩
 clear hS; have hS := hS'; clear hS' hb
 refine op_assign rfl rfl ?_
 refine endF (XF.thenN ?_)
 refine seqF ?_
 refine seqF (regF ?_)
 refine op_move rfl rfl ?_
 refine op_neq rfl rfl rfl ?_
 refine endF (XF.thenN ?_)
 refine condF rfl (fun hc => ?_) (fun hc => ?_)
 ·have hc11 := of_decide_eq_true hc; clear hc
  refine seqF (regF ?_)
  refine op_move rfl rfl ?_
  refine op_assign rfl rfl ?_
  refine endF (XF.thenN ?_)
  refine retF ?_
  refine XF.thenR ?_
  refine XF.res (res1 Try.results30 rfl) ?_
  exact ⟨rint (by simp only [pdsE]; rw [if_pos hc11]), hS.below⟩
 ·have hc11 := of_decide_eq_false hc; clear hc
  have h0 : ¬ spaceE s ≠ 0 := hc11
  refine skipF ?_
  refine XF.thenN ?_
  refine seqF ?_
  refine seqF (regF ?_)
  refine op_field (o' := 5) fa_38_3 rfl rfl rfl ?_
  refine op_load Try.isAgg36 rfl (cell_own (hS.at_ 0 rfl) rfl) rfl ?_
  refine op_len Try.underlying36 rfl rfl ?_
  refine op_gtr rfl rfl rfl ?_
  refine endF (XF.thenN ?_)
  refine condF rfl (fun hc => ?_) (fun hc => ?_)
  ·have hc16 := of_decide_eq_true hc; clear hc
   refine seqF (regF ?_)
   refine op_assign rfl rfl ?_
   refine endF (XF.thenN ?_)
   refine retF ?_
   refine XF.thenR ?_
   refine XF.res (res1 Try.results30 rfl) ?_
   exact ⟨rint (by simp only [pdsE]; rw [if_neg h0, if_pos (by omega)]), hS.below⟩
  ·have hc16 := of_decide_eq_false hc; clear hc
   have h1 : ¬ 16384 < rl := by omega
   refine skipF ?_
   refine XF.thenN ?_
   refine seqF ?_
   refine seqF (regF ?_)
   refine op_field (o' := 3) fa_38_1 rfl rfl rfl ?_
   refine op_load Try.isAgg3 rfl (cell_own (hS.at_ 0 rfl) rfl) rfl ?_
   refine op_lss rfl rfl rfl ?_
   refine op_move rfl rfl ?_
   refine op_cases (d := 20) rfl (fun hc => ?_) (fun hc => ?_)
   ·have hg20 := of_decide_eq_true hc; clear hc
    refine op_notF (d := 20) rfl rfl rfl rfl ?_
    refine op_notF (d := 20) rfl rfl rfl rfl ?_
    refine op_notF (d := 20) rfl rfl rfl rfl ?_
    refine op_pickT rfl rfl rfl ?_
    refine op_move rfl rfl ?_
    refine op_notF (d := 25) rfl rfl rfl rfl ?_
    refine op_notF (d := 25) rfl rfl rfl rfl ?_
    refine op_notF (d := 25) rfl rfl rfl rfl ?_
    refine op_pickT rfl rfl rfl ?_
    refine op_move rfl rfl ?_
    refine op_notF (d := 30) rfl rfl rfl rfl ?_
    refine op_notF (d := 30) rfl rfl rfl rfl ?_
    refine op_notF (d := 30) rfl rfl rfl rfl ?_
    refine op_pickT rfl rfl rfl ?_
    refine endF (XF.thenN ?_)
    refine condT rfl ?_
    refine seqF (regF ?_)
    refine op_assign rfl rfl ?_
    refine endF (XF.thenN ?_)
    refine retF ?_
    refine XF.thenR ?_
    refine XF.res (res1 Try.results30 rfl) ?_
    exact ⟨rint (by simp only [pdsE]; rw [if_neg h0, if_neg h1, if_pos (by omega)]), hS.below⟩
   ·have hg20 := of_decide_eq_false hc; clear hc
    refine op_wantedF (d := 20) rfl rfl ?_
    refine op_field (o' := 3) fa_38_1 rfl rfl rfl ?_
    refine op_wantedF (d := 20) rfl rfl ?_
    refine op_load Try.isAgg3 rfl (cell_own (hS.at_ 0 rfl) rfl) rfl ?_
    refine op_wantedF (d := 20) rfl rfl ?_
    refine op_gtr rfl rfl rfl ?_
    refine op_pickF rfl rfl rfl ?_
    refine op_move rfl rfl ?_
    refine op_cases (d := 25) rfl (fun hc => ?_) (fun hc => ?_)
    ·have hg25 := of_decide_eq_true hc; clear hc
     refine op_notF (d := 25) rfl rfl rfl rfl ?_
     refine op_notF (d := 25) rfl rfl rfl rfl ?_
     refine op_notF (d := 25) rfl rfl rfl rfl ?_
     refine op_pickT rfl rfl rfl ?_
     refine op_move rfl rfl ?_
     refine op_notF (d := 30) rfl rfl rfl rfl ?_
     refine op_notF (d := 30) rfl rfl rfl rfl ?_
     refine op_notF (d := 30) rfl rfl rfl rfl ?_
     refine op_pickT rfl rfl rfl ?_
     refine endF (XF.thenN ?_)
     refine condT rfl ?_
     refine seqF (regF ?_)
     refine op_assign rfl rfl ?_
     refine endF (XF.thenN ?_)
     refine retF ?_
     refine XF.thenR ?_
     refine XF.res (res1 Try.results30 rfl) ?_
     exact ⟨rint (by simp only [pdsE]; rw [if_neg h0, if_neg h1, if_pos (by omega)]), hS.below⟩
    ·have hg25 := of_decide_eq_false hc; clear hc
     refine op_wantedF (d := 25) rfl rfl ?_
     refine op_field (o' := 4) fa_38_2 rfl rfl rfl ?_
     refine op_wantedF (d := 25) rfl rfl ?_
     refine op_load Try.isAgg3 rfl (cell_own (hS.at_ 0 rfl) rfl) rfl ?_
     refine op_wantedF (d := 25) rfl rfl ?_
     refine op_lss rfl rfl rfl ?_
     refine op_pickF rfl rfl rfl ?_
     refine op_move rfl rfl ?_
     refine op_cases (d := 30) rfl (fun hc => ?_) (fun hc => ?_)
     ·have hg30 := of_decide_eq_true hc; clear hc
      refine op_notF (d := 30) rfl rfl rfl rfl ?_
      refine op_notF (d := 30) rfl rfl rfl rfl ?_
      refine op_notF (d := 30) rfl rfl rfl rfl ?_
      refine op_pickT rfl rfl rfl ?_
      refine endF (XF.thenN ?_)
      refine condT rfl ?_
      refine seqF (regF ?_)
      refine op_assign rfl rfl ?_
      refine endF (XF.thenN ?_)
      refine retF ?_
      refine XF.thenR ?_
      refine XF.res (res1 Try.results30 rfl) ?_
      exact ⟨rint (by simp only [pdsE]; rw [if_neg h0, if_neg h1, if_pos (by omega)]), hS.below⟩
     ·have hg30 := of_decide_eq_false hc; clear hc
      refine op_wantedF (d := 30) rfl rfl ?_
      refine op_field (o' := 4) fa_38_2 rfl rfl rfl ?_
      refine op_wantedF (d := 30) rfl rfl ?_
      refine op_load Try.isAgg3 rfl (cell_own (hS.at_ 0 rfl) rfl) rfl ?_
      refine op_wantedF (d := 30) rfl rfl ?_
      refine op_gtr rfl rfl rfl ?_
      refine op_pickF rfl rfl rfl ?_
      refine endF (XF.thenN ?_)
      refine condF rfl (fun hc => ?_) (fun hc => ?_)
      ·have hc34 := of_decide_eq_true hc; clear hc
       refine seqF (regF ?_)
       refine op_assign rfl rfl ?_
       refine endF (XF.thenN ?_)
       refine retF ?_
       refine XF.thenR ?_
       refine XF.res (res1 Try.results30 rfl) ?_
       exact ⟨rint (by simp only [pdsE]; rw [if_neg h0, if_neg h1, if_pos (by omega)]), hS.below⟩
      ·have hc34 := of_decide_eq_false hc; clear hc
       have h2 : ¬ (st < 0 ∨ 4096 < st ∨ sy < 0 ∨ 4096 < sy) := by omega
       refine skipF ?_
       refine XF.thenN ?_
       refine seqF ?_
       refine seqF (regF ?_)
       refine op_assign rfl rfl ?_
       refine endF (XF.thenN ?_)
       refine blockF ?_
       refine loopF (fun m l W => ∃ i : Nat, i ≤ rl ∧ m = rl - i ∧ l = [(1, .pointer (some ⟨B1, 0, none⟩)), (4, .int .i64 (i : Int))] ∧ (rs.take i).all (ruleB st sy) = true ∧ St w [(B1, [.int .i64 s.f.tag, .int .i64 s.f.dim, .slice s.f.a s.f.len s.f.cap, .int .i64 st, .int .i64 sy, .slice ra rl rc], 38)] [] [] W) (rl - 0) ([(1, _), (4, _)]) ⟨rfl, rfl, trivial⟩ (⟨0, Nat.zero_le _, rfl, rfl, rfl, hS.clear⟩) ?_
       clear hS
       rintro m l W ⟨i, hi, rfl, rfl, hall, hS⟩
       refine seqF ?_
       refine seqF (regF ?_)
       refine op_move rfl rfl ?_
       refine op_field (o' := 5) fa_38_3 rfl rfl rfl ?_
       refine op_load Try.isAgg36 rfl (cell_own (hS.at_ 0 rfl) rfl) rfl ?_
       refine op_len Try.underlying36 rfl rfl ?_
       refine op_lss rfl rfl rfl ?_
       refine endF (XF.thenN ?_)
       refine condF rfl (fun hc => ?_) (fun hc => ?_)
       ·have hc39 := of_decide_eq_true hc; clear hc
        have hk : i < rl := by omega
        obtain ⟨r, hr⟩ : ∃ r, rs[i]? = some r := ⟨rs[i]'(by omega), by simp [show i < rs.length by omega]⟩
        obtain ⟨b, off, rfl, hcs⟩ := hrow.at_ hr
        have k1 := CellsAt.agree hS.agree (Nat.zero_le _) hcs
        have k2 := k1.2.2.2.2
        have hri := hin r (List.mem_of_getElem? hr)
        refine skipF ?_
        refine XF.thenN ?_
        refine seqF ?_
        refine blockF ?_
        refine seqF ?_
        refine regB (m := 8) followsM hS (by kernel_rfl) (by kernel_rfl) rfl ?_
        refine bl_cons 1 rfl (isV _) (stab_isV _) (rgV (li := [(1, _)]) rfl (w_free rfl) ⟨g_fr (by kernel_rfl) rfl, trivial⟩ (fun w hw => rn_loadA (vs := [_, _, _, _, _, _]) Try.isAgg38 Try.sizeOf38 rfl (CellsAt.agree (below_agree hw 0) (Nat.zero_le _) (CellsAt.own (j := 0) (m := 6) (hS.at_ 0 rfl) rfl))) (at_top rfl)) ?_
        refine bl_cons 2 rfl (isV _) (stab_isV _) (rgV (li := [(1, _)]) rfl (w_free rfl) ⟨g_fr (by kernel_rfl) rfl, trivial⟩ (fun w hw => rn_field (o' := 5) fa_38_3 rfl rfl) (at_top rfl)) ?_
        refine bl_cons 3 rfl (isV _) (stab_isV _) (rgV (li := [(43, _)]) rfl (w_free rfl) ⟨g_dep 1 (by kernel_rfl) (at_dep rfl rfl rfl), trivial⟩ (fun w hw => rn_load Try.isAgg36 rfl ((below_agree hw 0).cell (Nat.zero_le _) (cell_own (hS.at_ 0 rfl) rfl))) (at_top rfl)) ?_
        refine bl_cons 4 rfl (isV _) (stab_isV _) (rgV (li := [(4, _)]) rfl (w_free rfl) ⟨g_fr (by kernel_rfl) rfl, trivial⟩ (fun w hw => rn_move rfl) (at_top rfl)) ?_
        refine bl_cons 5 rfl (isV _) (stab_isV _) (rgV (li := [(44, _), (45, _)]) rfl (w_free rfl) ⟨g_dep 2 (by kernel_rfl) (at_dep rfl rfl rfl), g_dep 3 (by kernel_rfl) (at_dep rfl rfl rfl), trivial⟩ (fun w hw => rn_indexA  Try.underlying36 Try.sizeOf69 rfl rfl rfl (by omega) rfl) (at_top rfl)) ?_
        refine bl_cons 6 rfl (isV _) (stab_isV _) (rgV (li := [(46, _)]) rfl (w_free rfl) ⟨g_dep 4 (by kernel_rfl) (at_dep rfl rfl rfl), trivial⟩ (fun w hw => rn_loadA (vs := [_, _, _, _, _, _, _, _, _, _]) Try.isAgg69 Try.sizeOf69 rfl (CellsAt.agree (below_agree hw 0) (Nat.zero_le _) (by assumption))) (at_top rfl)) ?_
        refine bl_cons 7 rfl (isV (.bool (ruleB st sy r))) (stab_isV _) (rg_call [isV _, isV _] rfl goes_43 (w_free rfl) ⟨p_tmp (g_dep 0 (by kernel_rfl) (at_dep rfl rfl rfl)), p_tmp (g_dep 5 (by kernel_rfl) (at_dep rfl rfl rfl)), trivial⟩ (fun vs w' hb hh => by have e := holds_isV (us := [_, _]) hh; subst e; exact (ruleR_is ⟨s, st, sy, _, rl, rc, rs⟩ (hri.below (hS.below.trans (hb.mono hS.below.size)))).mono fun e w2 h => ⟨_, h.1, rfl, h.2⟩) (at_top rfl)) ?_
        refine bl_cons 8 rfl (isV _) (stab_isV _) (rgV (li := [(48, _)]) rfl (w_free rfl) ⟨g_dep 6 (by kernel_rfl) (at_dep rfl rfl rfl), trivial⟩ (fun w hw => rn_not rfl) (at_top rfl)) ?_
        refine bl_nil ?_
        intro W3 hbR hS'
        clear hS; have hS := hS'; clear hS'
        refine fin_v ?_
        refine fin_v ?_
        refine fin_v ?_
        refine fin_v ?_
        refine fin_v ?_
        refine fin_v ?_
        refine fin_v ?_
        refine fin_v ?_
        refine fin_nil ?_
        refine XF.thenN ?_
        refine condF rfl (fun hc => ?_) (fun hc => ?_)
        ·have hc49 := hc; clear hc
         refine seqF (regF ?_)
         refine op_assign rfl rfl ?_
         refine endF (XF.thenN ?_)
         refine retF ?_
         refine XF.blkR ?_
         refine XF.thenR ?_
         refine XF.thenR ?_
         refine XF.blkR ?_
         refine XF.thenR ?_
         refine XF.res (res1 Try.results30 rfl) ?_
         exact ⟨rint (by simp only [pdsE]; rw [if_neg h0, if_neg h1, if_neg h2, if_neg (by rw [all_false_at hr (by simpa using hc49)]; simp)]), hS.below⟩
        ·have hc49 := hc; clear hc
         refine skipF ?_
         refine XF.blkN ?_
         refine XF.thenN ?_
         refine regF ?_
         refine op_move rfl rfl ?_
         refine op_add rfl rfl (IntWalk.i64_in _ (by omega)) rfl ?_
         refine op_assign rfl rfl ?_
         refine endF ?_
         exact XF.round (rl - (i + 1)) [(1, _), (4, _)] (by omega) ⟨rfl, rfl, trivial⟩ ⟨i + 1, by omega, rfl, rfl, all_take_at hr hall (by simpa using hc49), hS.clear⟩
       ·have hc39 := of_decide_eq_false hc; clear hc
        rw [List.take_of_length_le (by omega)] at hall
        refine exitF ?_
        refine XF.thenX ?_
        refine XF.thenX ?_
        refine XF.blkX ?_
        refine XF.thenN ?_
        refine seqF ?_
        refine seqF (regF ?_)
        refine op_assign rfl rfl ?_
        refine endF (XF.thenN ?_)
        refine blockF ?_
        refine loopF (fun m l W => ∃ i : Nat, i ≤ rl ∧ m = rl - i ∧ l = [(1, .pointer (some ⟨B1, 0, none⟩)), (5, .int .i64 (i : Int))] ∧ (rs.take i).all (fun r => decide (chkW s r.x = 0)) = true ∧ St w [(B1, [.int .i64 s.f.tag, .int .i64 s.f.dim, .slice s.f.a s.f.len s.f.cap, .int .i64 st, .int .i64 sy, .slice ra rl rc], 38)] [] [] W) (rl - 0) ([(1, _), (5, _)]) ⟨rfl, rfl, trivial⟩ (⟨0, Nat.zero_le _, rfl, rfl, rfl, hS.clear⟩) ?_
        clear hS
        rintro m l W ⟨i, hi, rfl, rfl, hall2, hS⟩
        refine seqF ?_
        refine seqF (regF ?_)
        refine op_move rfl rfl ?_
        refine op_field (o' := 5) fa_38_3 rfl rfl rfl ?_
        refine op_load Try.isAgg36 rfl (cell_own (hS.at_ 0 rfl) rfl) rfl ?_
        refine op_len Try.underlying36 rfl rfl ?_
        refine op_lss rfl rfl rfl ?_
        refine endF (XF.thenN ?_)
        refine condF rfl (fun hc => ?_) (fun hc => ?_)
        ·have hc54 := of_decide_eq_true hc; clear hc
         have hk : i < rl := by omega
         obtain ⟨r, hr⟩ : ∃ r, rs[i]? = some r := ⟨rs[i]'(by omega), by simp [show i < rs.length by omega]⟩
         obtain ⟨b, off, rfl, hcs⟩ := hrow.at_ hr
         have k1 := CellsAt.agree hS.agree (Nat.zero_le _) hcs
         have k2 := k1.2.2.2.2
         have hri := hin r (List.mem_of_getElem? hr)
         refine skipF ?_
         refine XF.thenN ?_
         refine seqF ?_
         refine blockF ?_
         refine seqF ?_
         refine regB (m := 10) followsM hS (by kernel_rfl) (by kernel_rfl) rfl ?_
         refine bl_cons 1 rfl (isV _) (stab_isV _) (rgV (li := [(1, _)]) rfl (w_free rfl) ⟨g_fr (by kernel_rfl) rfl, trivial⟩ (fun w hw => rn_field (o' := 0) fa_38_0 rfl rfl) (at_top rfl)) ?_
         refine bl_cons 2 rfl (isV _) (stab_isV _) (rgV (li := [(57, _)]) rfl (w_free rfl) ⟨g_dep 0 (by kernel_rfl) (at_dep rfl rfl rfl), trivial⟩ (fun w hw => rn_loadA (vs := [_, _, _]) Try.isAgg35 Try.sizeOf35 rfl (CellsAt.agree (below_agree hw 0) (Nat.zero_le _) (CellsAt.own (j := 0) (m := 3) (hS.at_ 0 rfl) rfl))) (at_top rfl)) ?_
         refine bl_cons 3 rfl (isV _) (stab_isV _) (rgV (li := [(1, _)]) rfl (w_free rfl) ⟨g_fr (by kernel_rfl) rfl, trivial⟩ (fun w hw => rn_field (o' := 5) fa_38_3 rfl rfl) (at_top rfl)) ?_
         refine bl_cons 4 rfl (isV _) (stab_isV _) (rgV (li := [(59, _)]) rfl (w_free rfl) ⟨g_dep 2 (by kernel_rfl) (at_dep rfl rfl rfl), trivial⟩ (fun w hw => rn_load Try.isAgg36 rfl ((below_agree hw 0).cell (Nat.zero_le _) (cell_own (hS.at_ 0 rfl) rfl))) (at_top rfl)) ?_
         refine bl_cons 5 rfl (isV _) (stab_isV _) (rgV (li := [(5, _)]) rfl (w_free rfl) ⟨g_fr (by kernel_rfl) rfl, trivial⟩ (fun w hw => rn_move rfl) (at_top rfl)) ?_
         refine bl_cons 6 rfl (isV _) (stab_isV _) (rgV (li := [(60, _), (61, _)]) rfl (w_free rfl) ⟨g_dep 3 (by kernel_rfl) (at_dep rfl rfl rfl), g_dep 4 (by kernel_rfl) (at_dep rfl rfl rfl), trivial⟩ (fun w hw => rn_indexA  Try.underlying36 Try.sizeOf69 rfl rfl rfl (by omega) rfl) (at_top rfl)) ?_
         refine bl_cons 7 rfl (isV _) (stab_isV _) (rgV (li := [(62, _)]) rfl (w_free rfl) ⟨g_dep 5 (by kernel_rfl) (at_dep rfl rfl rfl), trivial⟩ (fun w hw => rn_field fa_69_4 rfl rfl) (at_top rfl)) ?_
         refine bl_cons 8 rfl (isV _) (stab_isV _) (rgV (li := [(63, _)]) rfl (w_free rfl) ⟨g_dep 6 (by kernel_rfl) (at_dep rfl rfl rfl), trivial⟩ (fun w hw => rn_loadA (vs := [_, _, _, _, _, _]) Try.isAgg67 Try.sizeOf67 rfl (CellsAt.agree (below_agree hw 0) (Nat.zero_le _) (k2))) (at_top rfl)) ?_
         refine bl_cons 9 rfl (isV (.int .i64 (chkW s r.x))) (stab_isV _) (rg_call [isV _, isV _] rfl goes_44 (w_free rfl) ⟨p_tmp (g_dep 1 (by kernel_rfl) (at_dep rfl rfl rfl)), p_tmp (g_dep 7 (by kernel_rfl) (at_dep rfl rfl rfl)), trivial⟩ (fun vs w' hb hh => by have e := holds_isV (us := [_, _]) hh; subst e; exact (checkR_genY ds d s r.x _ (SIn.below (hS.below.trans (hb.mono hS.below.size)) hs) (WIn.below (hS.below.trans (hb.mono hS.below.size)) hri.x)).mono fun e w2 h => ⟨_, h.1, rfl, h.2⟩) (at_top rfl)) ?_
         refine bl_cons 10 rfl (isV _) (stab_isV _) (rgV (li := [(65, _)]) rfl (w_free rfl) ⟨g_dep 8 (by kernel_rfl) (at_dep rfl rfl rfl), trivial⟩ (fun w hw => rn_assign rfl) (at_top rfl)) ?_
         refine bl_nil ?_
         intro W4 hbR hS'
         clear hS; have hS := hS'; clear hS'
         refine fin_v ?_
         refine fin_v ?_
         refine fin_v ?_
         refine fin_v ?_
         refine fin_v ?_
         refine fin_v ?_
         refine fin_v ?_
         refine fin_v ?_
         refine fin_v ?_
         refine fin_v ?_
         refine fin_nil ?_
         refine XF.thenN ?_
         refine seqF (regF ?_)
         refine op_move rfl rfl ?_
         refine op_neq rfl rfl rfl ?_
         refine endF (XF.thenN ?_)
         refine condF rfl (fun hc => ?_) (fun hc => ?_)
         ·have hc67 := of_decide_eq_true hc; clear hc
          refine seqF (regF ?_)
          refine op_move rfl rfl ?_
          refine op_assign rfl rfl ?_
          refine endF (XF.thenN ?_)
          refine retF ?_
          refine XF.blkR ?_
          refine XF.thenR ?_
          refine XF.thenR ?_
          refine XF.blkR ?_
          refine XF.thenR ?_
          refine XF.res (res1 Try.results30 rfl) ?_
          exact ⟨rint (by simp only [pdsE]; rw [if_neg h0, if_neg h1, if_neg h2, if_pos hall, wtE_at hr hall2 hc67]), hS.below⟩
         ·have hc67 := of_decide_eq_false hc; clear hc
          refine skipF ?_
          refine XF.blkN ?_
          refine XF.thenN ?_
          refine regF ?_
          refine op_move rfl rfl ?_
          refine op_add rfl rfl (IntWalk.i64_in _ (by omega)) rfl ?_
          refine op_assign rfl rfl ?_
          refine endF ?_
          exact XF.round (rl - (i + 1)) [(1, _), (5, _)] (by omega) ⟨rfl, rfl, trivial⟩ ⟨i + 1, by omega, rfl, rfl, all_take_at hr hall2 (by simpa using hc67), hS.clear⟩
        ·have hc54 := of_decide_eq_false hc; clear hc
         refine exitF ?_
         refine XF.thenX ?_
         refine XF.thenX ?_
         refine XF.blkX ?_
         refine XF.thenN ?_
         refine seqF (regF ?_)
         refine op_assign rfl rfl ?_
         refine endF (XF.thenN ?_)
         refine retF ?_
         refine XF.res (res1 Try.results30 rfl) ?_
         rw [List.take_of_length_le (by omega)] at hall2
         exact ⟨rint (by simp only [pdsE]; rw [if_neg h0, if_neg h1, if_neg h2, if_pos hall, wtE_all hall2]), hS.below⟩
theorem pdsR_is (ds d : Nat) (p : PV) (w : World) (h : PvIn w ds d p) : Calls Try.prog 30 #[p.val] w (fun e w' => e = .returned (.int .i64 (pdsE p)) ∧ Below w.heap.size w w') := pdsR_c ds d _ _ _ _ _ _ _ w h.s h.row h.len h.rin
end Go.Proofs.Ythepjghlipdcoaa
namespace Go.Proofs.Ythepjghlipdcoaa
open Go Go.RowKit
theorem stepR_c (ds d : Nat) (P0 : PV) (p : Int) (wa : Option Addr) (wl wc : Nat) (ws : List Int) (w : World) (hp : PvIn w ds d P0) (hrow : Row w wa ws) (hlen : ws.length = wl) :
  Calls Try.prog 17 #[P0.val, .agg #[.int .i64 p, .slice wa wl wc]] w (fun e w' => e = .returned (.int .i64 (stepE P0 ⟨p, wa, wl, wc, ws⟩)) ∧ Below w.heap.size w w') := by
 refine enterF (args := [P0.val, .agg #[.int .i64 p, .slice wa wl wc]]) Try.func17 rfl Try.ntmps17 rfl ?_
 have hS := St.start w
 refine seqF (regF ?_)
 refine op_box (cs := [_, _, _, _, _, _]) hS rfl rfl rfl ?_
 clear hS; intro B1 W1 hS
 refine op_box (cs := [_, _]) hS rfl rfl rfl ?_
 clear hS; intro B2 W2 hS
 refine op_assign rfl rfl ?_
 refine endF (XF.thenN ?_)
 refine seqF (regF ?_)
 refine op_loadA (vs := [_, _, _, _, _, _]) Try.isAgg38 Try.sizeOf38 rfl (CellsAt.own (j := 0) (m := 6) (hS.at_ 1 rfl) rfl) rfl ?_
 refine op_call (vs := [_]) hS goes_30 rfl (pdsR_is ds d P0 _ (hp.below hS.below)) rfl ?_
 rintro e W3 ⟨rfl, hb⟩
 refine ⟨_, rfl, hb, fun hS' => ?_⟩
 clear hS; have hS := hS'; clear hS' hb
 refine op_assign rfl rfl ?_
 refine endF (XF.thenN ?_)
 refine seqF ?_
 refine seqF (regF ?_)
 refine op_move rfl rfl ?_
 refine op_neq rfl rfl rfl ?_
 refine endF (XF.thenN ?_)
 refine condF rfl (fun hc => ?_) (fun hc => ?_)
 ·have hc10 := of_decide_eq_true hc; clear hc
  refine seqF (regF ?_)
  refine op_move rfl rfl ?_
  refine op_assign rfl rfl ?_
  refine endF (XF.thenN ?_)
  refine retF ?_
  refine XF.thenR ?_
  refine XF.res (res1 Try.results17 rfl) ?_
  exact ⟨rint (by simp only [stepE]; rw [if_pos hc10]), hS.below⟩
 ·have hc10 := of_decide_eq_false hc; clear hc
  refine skipF ?_
  refine XF.thenN ?_
  refine seqF ?_
  refine seqF (regF ?_)
  refine op_field (o' := 0) fa_44_0 rfl rfl rfl ?_
  refine op_load Try.isAgg3 rfl (cell_own (hS.at_ 0 rfl) rfl) rfl ?_
  refine op_lss rfl rfl rfl ?_
  refine op_move rfl rfl ?_
  refine op_cases (d := 15) rfl (fun hc => ?_) (fun hc => ?_)
  ·have hg15 := of_decide_eq_true hc; clear hc
   have e1 : inQ p P0.st = false := by simp [inQ]; omega
   refine op_notF (d := 15) rfl rfl rfl rfl ?_
   refine op_notF (d := 15) rfl rfl rfl rfl ?_
   refine op_notF (d := 15) rfl rfl rfl rfl ?_
   refine op_notF (d := 15) rfl rfl rfl rfl ?_
   refine op_notF (d := 15) rfl rfl rfl rfl ?_
   refine op_pickT rfl rfl rfl ?_
   refine op_move rfl rfl ?_
   refine op_notF (d := 22) rfl rfl rfl rfl ?_
   refine op_notF (d := 22) rfl rfl rfl rfl ?_
   refine op_notF (d := 22) rfl rfl rfl rfl ?_
   refine op_notF (d := 22) rfl rfl rfl rfl ?_
   refine op_pickT rfl rfl rfl ?_
   refine endF (XF.thenN ?_)
   refine condT rfl ?_
   refine seqF (regF ?_)
   refine op_assign rfl rfl ?_
   refine endF (XF.thenN ?_)
   refine retF ?_
   refine XF.thenR ?_
   refine XF.res (res1 Try.results17 rfl) ?_
   exact ⟨rint (by simp only [stepE]; rw [if_neg hc10, if_neg (by simp [confB, e1])]), hS.below⟩
  ·have hg15 := of_decide_eq_false hc; clear hc
   refine op_wantedF (d := 15) rfl rfl ?_
   refine op_field (o' := 0) fa_44_0 rfl rfl rfl ?_
   refine op_wantedF (d := 15) rfl rfl ?_
   refine op_load Try.isAgg3 rfl (cell_own (hS.at_ 0 rfl) rfl) rfl ?_
   refine op_wantedF (d := 15) rfl rfl ?_
   refine op_field (o' := 3) fa_38_1 rfl rfl rfl ?_
   refine op_wantedF (d := 15) rfl rfl ?_
   refine op_load Try.isAgg3 rfl (cell_own (hS.at_ 1 rfl) rfl) rfl ?_
   refine op_wantedF (d := 15) rfl rfl ?_
   refine op_geq rfl rfl rfl ?_
   refine op_pickF rfl rfl rfl ?_
   refine op_move rfl rfl ?_
   refine op_cases (d := 22) rfl (fun hc => ?_) (fun hc => ?_)
   ·have hg22 := of_decide_eq_true hc; clear hc
    have e1 : inQ p P0.st = false := by simp [inQ]; omega
    refine op_notF (d := 22) rfl rfl rfl rfl ?_
    refine op_notF (d := 22) rfl rfl rfl rfl ?_
    refine op_notF (d := 22) rfl rfl rfl rfl ?_
    refine op_notF (d := 22) rfl rfl rfl rfl ?_
    refine op_pickT rfl rfl rfl ?_
    refine endF (XF.thenN ?_)
    refine condT rfl ?_
    refine seqF (regF ?_)
    refine op_assign rfl rfl ?_
    refine endF (XF.thenN ?_)
    refine retF ?_
    refine XF.thenR ?_
    refine XF.res (res1 Try.results17 rfl) ?_
    exact ⟨rint (by simp only [stepE]; rw [if_neg hc10, if_neg (by simp [confB, e1])]), hS.below⟩
   ·have hg22 := of_decide_eq_false hc; clear hc
    have e1 : inQ p P0.st = true := by simp [inQ]; omega
    refine op_wantedF (d := 22) rfl rfl ?_
    refine op_field (o' := 1) fa_44_1 rfl rfl rfl ?_
    refine op_wantedF (d := 22) rfl rfl ?_
    refine op_load Try.isAgg23 rfl (cell_own (hS.at_ 0 rfl) rfl) rfl ?_
    refine op_wantedF (d := 22) rfl rfl ?_
    refine op_len Try.underlying23 rfl rfl ?_
    refine op_wantedF (d := 22) rfl rfl ?_
    refine op_gtr rfl rfl rfl ?_
    refine op_pickF rfl rfl rfl ?_
    refine endF (XF.thenN ?_)
    refine condF rfl (fun hc => ?_) (fun hc => ?_)
    ·have hc27 := of_decide_eq_true hc; clear hc
     have e4 : decide (wl ≤ 4096) = false := by simp; omega
     refine seqF (regF ?_)
     refine op_assign rfl rfl ?_
     refine endF (XF.thenN ?_)
     refine retF ?_
     refine XF.thenR ?_
     refine XF.res (res1 Try.results17 rfl) ?_
     exact ⟨rint (by simp only [stepE]; rw [if_neg hc10, if_neg (by simp [confB, e4])]), hS.below⟩
    ·have hc27 := of_decide_eq_false hc; clear hc
     have e4 : decide (wl ≤ 4096) = true := by simp; omega
     refine skipF ?_
     refine XF.thenN ?_
     refine seqF ?_
     refine seqF (regF ?_)
     refine op_assign rfl rfl ?_
     refine endF (XF.thenN ?_)
     refine blockF ?_
     refine loopF (fun m l W => ∃ i : Nat, i ≤ wl ∧ m = wl - i ∧ l = [(2, .pointer (some ⟨B1, 0, none⟩)), (3, .pointer (some ⟨B2, 0, none⟩)), (6, .int .i64 (i : Int))] ∧ (ws.take i).all (fun y => inQ y P0.sy) = true ∧ St w [(B2, [.int .i64 p, .slice wa wl wc], 44), (B1, P0.six, 38)] [] [] W) (wl - 0) ([(2, _), (3, _), (6, _)]) ⟨rfl, rfl, rfl, trivial⟩ (⟨0, Nat.zero_le _, rfl, rfl, rfl, hS.clear⟩) ?_
     clear hS
     rintro m l W ⟨i, hi, rfl, rfl, hall, hS⟩
     refine seqF ?_
     refine seqF (regF ?_)
     refine op_move rfl rfl ?_
     refine op_field (o' := 1) fa_44_1 rfl rfl rfl ?_
     refine op_load Try.isAgg23 rfl (cell_own (hS.at_ 0 rfl) rfl) rfl ?_
     refine op_len Try.underlying23 rfl rfl ?_
     refine op_lss rfl rfl rfl ?_
     refine endF (XF.thenN ?_)
     refine condF rfl (fun hc => ?_) (fun hc => ?_)
     ·have hc32 := of_decide_eq_true hc; clear hc
      have hk : i < wl := by omega
      obtain ⟨b, off, y, rfl, hy, hyc⟩ := hrow.at1 (show i < ws.length by omega)
      have k1 := hS.old hyc
      refine skipF ?_
      refine XF.thenN ?_
      refine seqF ?_
      refine blockF ?_
      refine seqF ?_
      by_cases hy0 : y < 0
      ·have e5 : inQ y P0.sy = false := by simp [inQ]; omega
       refine regB (m := 16) followsM hS (by kernel_rfl) (by kernel_rfl) rfl ?_
       refine bl_cons 1 rfl (isV _) (stab_isV _) (rgV (li := [(3, _)]) rfl (w_free rfl) ⟨g_fr (by kernel_rfl) rfl, trivial⟩ (fun w hw => rn_field (o' := 1) fa_44_1 rfl rfl) (at_top rfl)) ?_
       refine bl_cons 2 rfl (isV _) (stab_isV _) (rgV (li := [(35, _)]) rfl (w_free rfl) ⟨g_dep 0 (by kernel_rfl) (at_dep rfl rfl rfl), trivial⟩ (fun w hw => rn_load Try.isAgg23 rfl ((below_agree hw 0).cell (Nat.zero_le _) (cell_own (hS.at_ 0 rfl) rfl))) (at_top rfl)) ?_
       refine bl_cons 3 rfl (isV _) (stab_isV _) (rgV (li := [(6, _)]) rfl (w_free rfl) ⟨g_fr (by kernel_rfl) rfl, trivial⟩ (fun w hw => rn_move rfl) (at_top rfl)) ?_
       refine bl_cons 4 rfl (isV _) (stab_isV _) (rgV (li := [(36, _), (37, _)]) rfl (w_free rfl) ⟨g_dep 1 (by kernel_rfl) (at_dep rfl rfl rfl), g_dep 2 (by kernel_rfl) (at_dep rfl rfl rfl), trivial⟩ (fun w hw => rn_indexA  Try.underlying23 Try.sizeOf3 rfl rfl rfl (by omega) rfl) (at_top rfl)) ?_
       refine bl_cons 5 rfl (isV _) (stab_isV _) (rgV (li := [(38, _)]) rfl (w_free rfl) ⟨g_dep 3 (by kernel_rfl) (at_dep rfl rfl rfl), trivial⟩ (fun w hw => rn_load Try.isAgg3 rfl ((below_agree hw 0).cell (Nat.zero_le _) (by assumption))) (at_top rfl)) ?_
       refine bl_cons 6 rfl (isV (.bool true)) (stab_isV _) (rgVe (li := [(39, _)]) rfl (w_free rfl) ⟨g_dep 4 (by kernel_rfl) (at_dep rfl rfl rfl), trivial⟩ (fun w hw => rn_lss rfl rfl) (by rw [decide_eq_true hy0]) (at_top rfl)) ?_
       refine bl_cons 7 rfl (isV _) (stab_isV _) (rgV (li := [(40, _)]) rfl (w_free rfl) ⟨g_dep 5 (by kernel_rfl) (at_dep rfl rfl rfl), trivial⟩ (fun w hw => rn_move rfl) (at_top rfl)) ?_
       refine bl_cons 8 rfl (isV undef) (stab_isV _) (rg_no rfl (w_no 41 rfl (by kernel_rfl) (by kernel_rfl) (at_dep rfl rfl rfl) rfl) (at_top rfl)) ?_
       refine bl_cons 9 rfl (isV undef) (stab_isV _) (rg_no rfl (w_no 41 rfl (by kernel_rfl) (by kernel_rfl) (at_dep rfl rfl rfl) rfl) (at_top rfl)) ?_
       refine bl_cons 10 rfl (isV undef) (stab_isV _) (rg_no rfl (w_no 41 rfl (by kernel_rfl) (by kernel_rfl) (at_dep rfl rfl rfl) rfl) (at_top rfl)) ?_
       refine bl_cons 11 rfl (isV undef) (stab_isV _) (rg_no rfl (w_no 41 rfl (by kernel_rfl) (by kernel_rfl) (at_dep rfl rfl rfl) rfl) (at_top rfl)) ?_
       refine bl_cons 12 rfl (isV undef) (stab_isV _) (rg_no rfl (w_no 41 rfl (by kernel_rfl) (by kernel_rfl) (at_dep rfl rfl rfl) rfl) (at_top rfl)) ?_
       refine bl_cons 13 rfl (isV undef) (stab_isV _) (rg_no rfl (w_no 41 rfl (by kernel_rfl) (by kernel_rfl) (at_dep rfl rfl rfl) rfl) (at_top rfl)) ?_
       refine bl_cons 14 rfl (isV undef) (stab_isV _) (rg_no rfl (w_no 41 rfl (by kernel_rfl) (by kernel_rfl) (at_dep rfl rfl rfl) rfl) (at_top rfl)) ?_
       refine bl_cons 15 rfl (isV undef) (stab_isV _) (rg_no rfl (w_no 41 rfl (by kernel_rfl) (by kernel_rfl) (at_dep rfl rfl rfl) rfl) (at_top rfl)) ?_
       refine bl_cons 16 rfl (isV _) (stab_isV _) (rgV (li := [(41, _)]) rfl (w_free rfl) ⟨g_dep 6 (by kernel_rfl) (at_dep rfl rfl rfl), trivial⟩ (fun w hw => rn_pickT rfl rfl) (at_top rfl)) ?_
       refine bl_nil ?_
       intro W4 hbR hS'
       clear hS; have hS := hS'; clear hS'
       refine fin_v ?_
       refine fin_v ?_
       refine fin_v ?_
       refine fin_v ?_
       refine fin_v ?_
       refine fin_v ?_
       refine fin_v ?_
       refine fin_v ?_
       refine fin_v ?_
       refine fin_v ?_
       refine fin_v ?_
       refine fin_v ?_
       refine fin_v ?_
       refine fin_v ?_
       refine fin_v ?_
       refine fin_v ?_
       refine fin_nil ?_
       refine XF.thenN ?_
       refine condT rfl ?_
       refine seqF (regF ?_)
       refine op_assign rfl rfl ?_
       refine endF (XF.thenN ?_)
       refine retF ?_
       refine XF.blkR ?_
       refine XF.thenR ?_
       refine XF.thenR ?_
       refine XF.blkR ?_
       refine XF.thenR ?_
       refine XF.res (res1 Try.results17 rfl) ?_
       exact ⟨rint (by simp only [stepE]; rw [if_neg hc10, if_neg (by simp only [confB]; rw [all_false_at hy e5]; simp)]), hS.below⟩
      ·skip
       refine regB (m := 16) followsM hS (by kernel_rfl) (by kernel_rfl) rfl ?_
       refine bl_cons 1 rfl (isV _) (stab_isV _) (rgV (li := [(3, _)]) rfl (w_free rfl) ⟨g_fr (by kernel_rfl) rfl, trivial⟩ (fun w hw => rn_field (o' := 1) fa_44_1 rfl rfl) (at_top rfl)) ?_
       refine bl_cons 2 rfl (isV _) (stab_isV _) (rgV (li := [(35, _)]) rfl (w_free rfl) ⟨g_dep 0 (by kernel_rfl) (at_dep rfl rfl rfl), trivial⟩ (fun w hw => rn_load Try.isAgg23 rfl ((below_agree hw 0).cell (Nat.zero_le _) (cell_own (hS.at_ 0 rfl) rfl))) (at_top rfl)) ?_
       refine bl_cons 3 rfl (isV _) (stab_isV _) (rgV (li := [(6, _)]) rfl (w_free rfl) ⟨g_fr (by kernel_rfl) rfl, trivial⟩ (fun w hw => rn_move rfl) (at_top rfl)) ?_
       refine bl_cons 4 rfl (isV _) (stab_isV _) (rgV (li := [(36, _), (37, _)]) rfl (w_free rfl) ⟨g_dep 1 (by kernel_rfl) (at_dep rfl rfl rfl), g_dep 2 (by kernel_rfl) (at_dep rfl rfl rfl), trivial⟩ (fun w hw => rn_indexA  Try.underlying23 Try.sizeOf3 rfl rfl rfl (by omega) rfl) (at_top rfl)) ?_
       refine bl_cons 5 rfl (isV _) (stab_isV _) (rgV (li := [(38, _)]) rfl (w_free rfl) ⟨g_dep 3 (by kernel_rfl) (at_dep rfl rfl rfl), trivial⟩ (fun w hw => rn_load Try.isAgg3 rfl ((below_agree hw 0).cell (Nat.zero_le _) (by assumption))) (at_top rfl)) ?_
       refine bl_cons 6 rfl (isV (.bool false)) (stab_isV _) (rgVe (li := [(39, _)]) rfl (w_free rfl) ⟨g_dep 4 (by kernel_rfl) (at_dep rfl rfl rfl), trivial⟩ (fun w hw => rn_lss rfl rfl) (by rw [decide_eq_false hy0]) (at_top rfl)) ?_
       refine bl_cons 7 rfl (isV _) (stab_isV _) (rgV (li := [(40, _)]) rfl (w_free rfl) ⟨g_dep 5 (by kernel_rfl) (at_dep rfl rfl rfl), trivial⟩ (fun w hw => rn_move rfl) (at_top rfl)) ?_
       refine bl_cons 8 rfl (isV _) (stab_isV _) (rgV (li := [(3, _)]) rfl (w_yes 41 rfl (by kernel_rfl) (by kernel_rfl) (at_dep rfl rfl rfl)) ⟨g_fr (by kernel_rfl) rfl, trivial⟩ (fun w hw => rn_field (o' := 1) fa_44_1 rfl rfl) (at_top rfl)) ?_
       refine bl_cons 9 rfl (isV _) (stab_isV _) (rgV (li := [(42, _)]) rfl (w_yes 41 rfl (by kernel_rfl) (by kernel_rfl) (at_dep rfl rfl rfl)) ⟨g_dep 7 (by kernel_rfl) (at_dep rfl rfl rfl), trivial⟩ (fun w hw => rn_load Try.isAgg23 rfl ((below_agree hw 0).cell (Nat.zero_le _) (cell_own (hS.at_ 0 rfl) rfl))) (at_top rfl)) ?_
       refine bl_cons 10 rfl (isV _) (stab_isV _) (rgV (li := [(6, _)]) rfl (w_yes 41 rfl (by kernel_rfl) (by kernel_rfl) (at_dep rfl rfl rfl)) ⟨g_fr (by kernel_rfl) rfl, trivial⟩ (fun w hw => rn_move rfl) (at_top rfl)) ?_
       refine bl_cons 11 rfl (isV _) (stab_isV _) (rgV (li := [(43, _), (44, _)]) rfl (w_yes 41 rfl (by kernel_rfl) (by kernel_rfl) (at_dep rfl rfl rfl)) ⟨g_dep 8 (by kernel_rfl) (at_dep rfl rfl rfl), g_dep 9 (by kernel_rfl) (at_dep rfl rfl rfl), trivial⟩ (fun w hw => rn_indexA  Try.underlying23 Try.sizeOf3 rfl rfl rfl (by omega) rfl) (at_top rfl)) ?_
       refine bl_cons 12 rfl (isV _) (stab_isV _) (rgV (li := [(45, _)]) rfl (w_yes 41 rfl (by kernel_rfl) (by kernel_rfl) (at_dep rfl rfl rfl)) ⟨g_dep 10 (by kernel_rfl) (at_dep rfl rfl rfl), trivial⟩ (fun w hw => rn_load Try.isAgg3 rfl ((below_agree hw 0).cell (Nat.zero_le _) (by assumption))) (at_top rfl)) ?_
       refine bl_cons 13 rfl (isV _) (stab_isV _) (rgV (li := [(2, _)]) rfl (w_yes 41 rfl (by kernel_rfl) (by kernel_rfl) (at_dep rfl rfl rfl)) ⟨g_fr (by kernel_rfl) rfl, trivial⟩ (fun w hw => rn_field (o' := 4) fa_38_2 rfl rfl) (at_top rfl)) ?_
       refine bl_cons 14 rfl (isV _) (stab_isV _) (rgV (li := [(47, _)]) rfl (w_yes 41 rfl (by kernel_rfl) (by kernel_rfl) (at_dep rfl rfl rfl)) ⟨g_dep 12 (by kernel_rfl) (at_dep rfl rfl rfl), trivial⟩ (fun w hw => rn_load Try.isAgg3 rfl ((below_agree hw 0).cell (Nat.zero_le _) (cell_own (hS.at_ 1 rfl) rfl))) (at_top rfl)) ?_
       refine bl_cons 15 rfl (isV _) (stab_isV _) (rgV (li := [(46, _), (48, _)]) rfl (w_yes 41 rfl (by kernel_rfl) (by kernel_rfl) (at_dep rfl rfl rfl)) ⟨g_dep 11 (by kernel_rfl) (at_dep rfl rfl rfl), g_dep 13 (by kernel_rfl) (at_dep rfl rfl rfl), trivial⟩ (fun w hw => rn_geq rfl rfl) (at_top rfl)) ?_
       refine bl_cons 16 rfl (isV _) (stab_isV _) (rgV (li := [(41, _), (49, _)]) rfl (w_free rfl) ⟨g_dep 6 (by kernel_rfl) (at_dep rfl rfl rfl), g_dep 14 (by kernel_rfl) (at_dep rfl rfl rfl), trivial⟩ (fun w hw => rn_pickF rfl rfl) (at_top rfl)) ?_
       refine bl_nil ?_
       intro W5 hbR hS'
       clear hS; have hS := hS'; clear hS'
       refine fin_v ?_
       refine fin_v ?_
       refine fin_v ?_
       refine fin_v ?_
       refine fin_v ?_
       refine fin_v ?_
       refine fin_v ?_
       refine fin_v ?_
       refine fin_v ?_
       refine fin_v ?_
       refine fin_v ?_
       refine fin_v ?_
       refine fin_v ?_
       refine fin_v ?_
       refine fin_v ?_
       refine fin_v ?_
       refine fin_nil ?_
       refine XF.thenN ?_
       refine condF rfl (fun hc => ?_) (fun hc => ?_)
       ·have hc50 := hc; clear hc
        have e5 : inQ y P0.sy = false := by have := of_decide_eq_true hc50; simp [inQ]; omega
        refine seqF (regF ?_)
        refine op_assign rfl rfl ?_
        refine endF (XF.thenN ?_)
        refine retF ?_
        refine XF.blkR ?_
        refine XF.thenR ?_
        refine XF.thenR ?_
        refine XF.blkR ?_
        refine XF.thenR ?_
        refine XF.res (res1 Try.results17 rfl) ?_
        exact ⟨rint (by simp only [stepE]; rw [if_neg hc10, if_neg (by simp only [confB]; rw [all_false_at hy e5]; simp)]), hS.below⟩
       ·have hc50 := hc; clear hc
        have e5 : inQ y P0.sy = true := by have := of_decide_eq_false hc50; simp [inQ]; omega
        refine skipF ?_
        refine XF.blkN ?_
        refine XF.thenN ?_
        refine regF ?_
        refine op_move rfl rfl ?_
        refine op_add rfl rfl (IntWalk.i64_in _ (by omega)) rfl ?_
        refine op_assign rfl rfl ?_
        refine endF ?_
        exact XF.round (wl - (i + 1)) [(2, _), (3, _), (6, _)] (by omega) ⟨rfl, rfl, rfl, trivial⟩ ⟨i + 1, by omega, rfl, rfl, all_take_at hy hall e5, hS.clear⟩
     ·have hc32 := of_decide_eq_false hc; clear hc
      refine exitF ?_
      refine XF.thenX ?_
      refine XF.thenX ?_
      refine XF.blkX ?_
      refine XF.thenN ?_
      refine seqF (regF ?_)
      refine op_assign rfl rfl ?_
      refine endF (XF.thenN ?_)
      refine retF ?_
      refine XF.res (res1 Try.results17 rfl) ?_
      rw [List.take_of_length_le (by omega)] at hall
      exact ⟨rint (by simp only [stepE]; rw [if_neg hc10, if_pos (by simp [confB, e1, e4, hall])]), hS.below⟩
theorem stepR_is (ds d : Nat) (p : PV) (c : CV) (w : World) (hp : PvIn w ds d p) (h : CIn w c) : Calls Try.prog 17 #[p.val, c.val] w (fun e w' => e = .returned (.int .i64 (stepE p c)) ∧ Below w.heap.size w w') := stepR_c ds d p _ _ _ _ _ w hp h.row h.len
end Go.Proofs.Ythepjghlipdcoaa
namespace Go.Proofs.Ythepjghlipdcoaa
open Go Go.RowKit
def appB (r : RV) (p : Int) (ws : List Int) : Bool := decide (r.p = p) && (match ws[0]? with | some y => decide (y = r.g) | none => false)
theorem long_is (c : CV) (w : World) :
  Calls Try.prog 20 #[c.val] w (fun e w' => e = .returned (.bool (decide (4096 < c.wl))) ∧ Below w.heap.size w w') := by
 refine enterF (args := [c.val]) Try.func20 rfl Try.ntmps20 rfl ?_
 have hS := St.start w
 refine seqF (regF ?_)
 refine op_box (cs := [_, _]) hS rfl rfl rfl ?_
 clear hS; intro B1 W1 hS
 refine op_assign rfl rfl ?_
 refine endF (XF.thenN ?_)
 refine seqF (regF ?_)
 refine op_field (o' := 1) fa_44_1 rfl rfl rfl ?_
 refine op_load Try.isAgg23 rfl (cell_own (hS.at_ 0 rfl) rfl) rfl ?_
 refine op_len Try.underlying23 rfl rfl ?_
 refine op_gtr rfl rfl rfl ?_
 refine op_assign rfl rfl ?_
 refine endF (XF.thenN ?_)
 refine retF ?_
 refine XF.res (res1 Try.results20 rfl) ?_
 exact ⟨rbool (by rw [decide_eq_decide]; omega), hS.below⟩
theorem applies_c (r0 : RV) (p : Int) (wa : Option Addr) (wl wc : Nat) (ws : List Int) (w : World) (hrow : Row w wa ws) (hlen : ws.length = wl) :
  Calls Try.prog 18 #[r0.val, .agg #[.int .i64 p, .slice wa wl wc]] w (fun e w' => e = .returned (.bool (appB r0 p ws)) ∧ Below w.heap.size w w') := by
 refine enterF (args := [r0.val, .agg #[.int .i64 p, .slice wa wl wc]]) Try.func18 rfl Try.ntmps18 rfl ?_
 have hS := St.start w
 refine seqF (regF ?_)
 refine op_box (cs := [_, _, _, _, _, _, _, _, _, _]) hS rfl rfl rfl ?_
 clear hS; intro B1 W1 hS
 refine op_box (cs := [_, _]) hS rfl rfl rfl ?_
 clear hS; intro B2 W2 hS
 refine op_assign rfl rfl ?_
 refine endF (XF.thenN ?_)
 refine seqF ?_
 rcases (show r0.p ≠ p ∨ (r0.p = p ∧ wl = 0) ∨ (r0.p = p ∧ 0 < wl) by omega) with h1 | ⟨h1, h2⟩ | ⟨h1, h2⟩
 ·skip
  refine regB (m := 21) followsM hS (by kernel_rfl) (by kernel_rfl) rfl ?_
  refine bl_cons 1 rfl (isV _) (stab_isV _) (rgV (li := [(2, _)]) rfl (w_free rfl) ⟨g_fr (by kernel_rfl) rfl, trivial⟩ (fun w hw => rn_field (o' := 0) fa_69_0 rfl rfl) (at_top rfl)) ?_
  refine bl_cons 2 rfl (isV _) (stab_isV _) (rgV (li := [(5, _)]) rfl (w_free rfl) ⟨g_dep 0 (by kernel_rfl) (at_dep rfl rfl rfl), trivial⟩ (fun w hw => rn_load Try.isAgg3 rfl ((below_agree hw 0).cell (Nat.zero_le _) (cell_own (hS.at_ 1 rfl) rfl))) (at_top rfl)) ?_
  refine bl_cons 3 rfl (isV _) (stab_isV _) (rgV (li := [(3, _)]) rfl (w_free rfl) ⟨g_fr (by kernel_rfl) rfl, trivial⟩ (fun w hw => rn_field (o' := 0) fa_44_0 rfl rfl) (at_top rfl)) ?_
  refine bl_cons 4 rfl (isV _) (stab_isV _) (rgV (li := [(7, _)]) rfl (w_free rfl) ⟨g_dep 2 (by kernel_rfl) (at_dep rfl rfl rfl), trivial⟩ (fun w hw => rn_load Try.isAgg3 rfl ((below_agree hw 0).cell (Nat.zero_le _) (cell_own (hS.at_ 0 rfl) rfl))) (at_top rfl)) ?_
  refine bl_cons 5 rfl (isV (.bool false)) (stab_isV _) (rgVe (li := [(6, _), (8, _)]) rfl (w_free rfl) ⟨g_dep 1 (by kernel_rfl) (at_dep rfl rfl rfl), g_dep 3 (by kernel_rfl) (at_dep rfl rfl rfl), trivial⟩ (fun w hw => rn_eql rfl rfl) (by rw [decide_eq_false h1]) (at_top rfl)) ?_
  refine bl_cons 6 rfl (isV _) (stab_isV _) (rgV (li := [(9, _)]) rfl (w_free rfl) ⟨g_dep 4 (by kernel_rfl) (at_dep rfl rfl rfl), trivial⟩ (fun w hw => rn_move rfl) (at_top rfl)) ?_
  refine bl_cons 7 rfl (isV undef) (stab_isV _) (rg_no rfl (w_no 10 rfl (by kernel_rfl) (by kernel_rfl) (at_dep rfl rfl rfl) rfl) (at_top rfl)) ?_
  refine bl_cons 8 rfl (isV undef) (stab_isV _) (rg_no rfl (w_no 10 rfl (by kernel_rfl) (by kernel_rfl) (at_dep rfl rfl rfl) rfl) (at_top rfl)) ?_
  refine bl_cons 9 rfl (isV undef) (stab_isV _) (rg_no rfl (w_no 10 rfl (by kernel_rfl) (by kernel_rfl) (at_dep rfl rfl rfl) rfl) (at_top rfl)) ?_
  refine bl_cons 10 rfl (isV undef) (stab_isV _) (rg_no rfl (w_no 10 rfl (by kernel_rfl) (by kernel_rfl) (at_dep rfl rfl rfl) rfl) (at_top rfl)) ?_
  refine bl_cons 11 rfl (isV _) (stab_isV _) (rgV (li := [(10, _)]) rfl (w_free rfl) ⟨g_dep 5 (by kernel_rfl) (at_dep rfl rfl rfl), trivial⟩ (fun w hw => rn_pickF rfl rfl) (at_top rfl)) ?_
  refine bl_cons 12 rfl (isV _) (stab_isV _) (rgV (li := [(15, _)]) rfl (w_free rfl) ⟨g_dep 10 (by kernel_rfl) (at_dep rfl rfl rfl), trivial⟩ (fun w hw => rn_move rfl) (at_top rfl)) ?_
  refine bl_cons 13 rfl (isV undef) (stab_isV _) (rg_no rfl (w_no 16 rfl (by kernel_rfl) (by kernel_rfl) (at_dep rfl rfl rfl) rfl) (at_top rfl)) ?_
  refine bl_cons 14 rfl (isV undef) (stab_isV _) (rg_no rfl (w_no 16 rfl (by kernel_rfl) (by kernel_rfl) (at_dep rfl rfl rfl) rfl) (at_top rfl)) ?_
  refine bl_cons 15 rfl (isV undef) (stab_isV _) (rg_no rfl (w_no 16 rfl (by kernel_rfl) (by kernel_rfl) (at_dep rfl rfl rfl) rfl) (at_top rfl)) ?_
  refine bl_cons 16 rfl (isV undef) (stab_isV _) (rg_no rfl (w_no 16 rfl (by kernel_rfl) (by kernel_rfl) (at_dep rfl rfl rfl) rfl) (at_top rfl)) ?_
  refine bl_cons 17 rfl (isV undef) (stab_isV _) (rg_no rfl (w_no 16 rfl (by kernel_rfl) (by kernel_rfl) (at_dep rfl rfl rfl) rfl) (at_top rfl)) ?_
  refine bl_cons 18 rfl (isV undef) (stab_isV _) (rg_no rfl (w_no 16 rfl (by kernel_rfl) (by kernel_rfl) (at_dep rfl rfl rfl) rfl) (at_top rfl)) ?_
  refine bl_cons 19 rfl (isV undef) (stab_isV _) (rg_no rfl (w_no 16 rfl (by kernel_rfl) (by kernel_rfl) (at_dep rfl rfl rfl) rfl) (at_top rfl)) ?_
  refine bl_cons 20 rfl (isV _) (stab_isV _) (rgV (li := [(16, _)]) rfl (w_free rfl) ⟨g_dep 11 (by kernel_rfl) (at_dep rfl rfl rfl), trivial⟩ (fun w hw => rn_pickF rfl rfl) (at_top rfl)) ?_
  refine bl_cons 21 rfl (isV _) (stab_isV _) (rgV (li := [(24, _)]) rfl (w_free rfl) ⟨g_dep 19 (by kernel_rfl) (at_dep rfl rfl rfl), trivial⟩ (fun w hw => rn_assign rfl) (at_top rfl)) ?_
  refine bl_nil ?_
  intro W3 hbR hS'
  clear hS; have hS := hS'; clear hS'
  refine fin_v ?_
  refine fin_v ?_
  refine fin_v ?_
  refine fin_v ?_
  refine fin_v ?_
  refine fin_v ?_
  refine fin_v ?_
  refine fin_v ?_
  refine fin_v ?_
  refine fin_v ?_
  refine fin_v ?_
  refine fin_v ?_
  refine fin_v ?_
  refine fin_v ?_
  refine fin_v ?_
  refine fin_v ?_
  refine fin_v ?_
  refine fin_v ?_
  refine fin_v ?_
  refine fin_v ?_
  refine fin_v ?_
  refine fin_nil ?_
  refine XF.thenN ?_
  refine retF ?_
  refine XF.res (res1 Try.results18 rfl) ?_
  exact ⟨rbool (by unfold appB; rw [decide_eq_false h1]; rfl), hS.below⟩
 ·skip
  refine regB (m := 21) followsM hS (by kernel_rfl) (by kernel_rfl) rfl ?_
  refine bl_cons 1 rfl (isV _) (stab_isV _) (rgV (li := [(2, _)]) rfl (w_free rfl) ⟨g_fr (by kernel_rfl) rfl, trivial⟩ (fun w hw => rn_field (o' := 0) fa_69_0 rfl rfl) (at_top rfl)) ?_
  refine bl_cons 2 rfl (isV _) (stab_isV _) (rgV (li := [(5, _)]) rfl (w_free rfl) ⟨g_dep 0 (by kernel_rfl) (at_dep rfl rfl rfl), trivial⟩ (fun w hw => rn_load Try.isAgg3 rfl ((below_agree hw 0).cell (Nat.zero_le _) (cell_own (hS.at_ 1 rfl) rfl))) (at_top rfl)) ?_
  refine bl_cons 3 rfl (isV _) (stab_isV _) (rgV (li := [(3, _)]) rfl (w_free rfl) ⟨g_fr (by kernel_rfl) rfl, trivial⟩ (fun w hw => rn_field (o' := 0) fa_44_0 rfl rfl) (at_top rfl)) ?_
  refine bl_cons 4 rfl (isV _) (stab_isV _) (rgV (li := [(7, _)]) rfl (w_free rfl) ⟨g_dep 2 (by kernel_rfl) (at_dep rfl rfl rfl), trivial⟩ (fun w hw => rn_load Try.isAgg3 rfl ((below_agree hw 0).cell (Nat.zero_le _) (cell_own (hS.at_ 0 rfl) rfl))) (at_top rfl)) ?_
  refine bl_cons 5 rfl (isV (.bool true)) (stab_isV _) (rgVe (li := [(6, _), (8, _)]) rfl (w_free rfl) ⟨g_dep 1 (by kernel_rfl) (at_dep rfl rfl rfl), g_dep 3 (by kernel_rfl) (at_dep rfl rfl rfl), trivial⟩ (fun w hw => rn_eql rfl rfl) (by rw [decide_eq_true h1]) (at_top rfl)) ?_
  refine bl_cons 6 rfl (isV _) (stab_isV _) (rgV (li := [(9, _)]) rfl (w_free rfl) ⟨g_dep 4 (by kernel_rfl) (at_dep rfl rfl rfl), trivial⟩ (fun w hw => rn_move rfl) (at_top rfl)) ?_
  refine bl_cons 7 rfl (isV _) (stab_isV _) (rgV (li := [(3, _)]) rfl (w_yes 10 rfl (by kernel_rfl) (by kernel_rfl) (at_dep rfl rfl rfl)) ⟨g_fr (by kernel_rfl) rfl, trivial⟩ (fun w hw => rn_field (o' := 1) fa_44_1 rfl rfl) (at_top rfl)) ?_
  refine bl_cons 8 rfl (isV _) (stab_isV _) (rgV (li := [(11, _)]) rfl (w_yes 10 rfl (by kernel_rfl) (by kernel_rfl) (at_dep rfl rfl rfl)) ⟨g_dep 6 (by kernel_rfl) (at_dep rfl rfl rfl), trivial⟩ (fun w hw => rn_load Try.isAgg23 rfl ((below_agree hw 0).cell (Nat.zero_le _) (cell_own (hS.at_ 0 rfl) rfl))) (at_top rfl)) ?_
  refine bl_cons 9 rfl (isV _) (stab_isV _) (rgV (li := [(12, _)]) rfl (w_yes 10 rfl (by kernel_rfl) (by kernel_rfl) (at_dep rfl rfl rfl)) ⟨g_dep 7 (by kernel_rfl) (at_dep rfl rfl rfl), trivial⟩ (fun w hw => rn_len Try.underlying23 rfl) (at_top rfl)) ?_
  refine bl_cons 10 rfl (isV (.bool false)) (stab_isV _) (rgVe (li := [(13, _)]) rfl (w_yes 10 rfl (by kernel_rfl) (by kernel_rfl) (at_dep rfl rfl rfl)) ⟨g_dep 8 (by kernel_rfl) (at_dep rfl rfl rfl), trivial⟩ (fun w hw => rn_gtr rfl rfl) (by rw [decide_eq_false (by omega)]) (at_top rfl)) ?_
  refine bl_cons 11 rfl (isV _) (stab_isV _) (rgV (li := [(10, _), (14, _)]) rfl (w_free rfl) ⟨g_dep 5 (by kernel_rfl) (at_dep rfl rfl rfl), g_dep 9 (by kernel_rfl) (at_dep rfl rfl rfl), trivial⟩ (fun w hw => rn_pickT rfl rfl) (at_top rfl)) ?_
  refine bl_cons 12 rfl (isV _) (stab_isV _) (rgV (li := [(15, _)]) rfl (w_free rfl) ⟨g_dep 10 (by kernel_rfl) (at_dep rfl rfl rfl), trivial⟩ (fun w hw => rn_move rfl) (at_top rfl)) ?_
  refine bl_cons 13 rfl (isV undef) (stab_isV _) (rg_no rfl (w_no 16 rfl (by kernel_rfl) (by kernel_rfl) (at_dep rfl rfl rfl) rfl) (at_top rfl)) ?_
  refine bl_cons 14 rfl (isV undef) (stab_isV _) (rg_no rfl (w_no 16 rfl (by kernel_rfl) (by kernel_rfl) (at_dep rfl rfl rfl) rfl) (at_top rfl)) ?_
  refine bl_cons 15 rfl (isV undef) (stab_isV _) (rg_no rfl (w_no 16 rfl (by kernel_rfl) (by kernel_rfl) (at_dep rfl rfl rfl) rfl) (at_top rfl)) ?_
  refine bl_cons 16 rfl (isV undef) (stab_isV _) (rg_no rfl (w_no 16 rfl (by kernel_rfl) (by kernel_rfl) (at_dep rfl rfl rfl) rfl) (at_top rfl)) ?_
  refine bl_cons 17 rfl (isV undef) (stab_isV _) (rg_no rfl (w_no 16 rfl (by kernel_rfl) (by kernel_rfl) (at_dep rfl rfl rfl) rfl) (at_top rfl)) ?_
  refine bl_cons 18 rfl (isV undef) (stab_isV _) (rg_no rfl (w_no 16 rfl (by kernel_rfl) (by kernel_rfl) (at_dep rfl rfl rfl) rfl) (at_top rfl)) ?_
  refine bl_cons 19 rfl (isV undef) (stab_isV _) (rg_no rfl (w_no 16 rfl (by kernel_rfl) (by kernel_rfl) (at_dep rfl rfl rfl) rfl) (at_top rfl)) ?_
  refine bl_cons 20 rfl (isV _) (stab_isV _) (rgV (li := [(16, _)]) rfl (w_free rfl) ⟨g_dep 11 (by kernel_rfl) (at_dep rfl rfl rfl), trivial⟩ (fun w hw => rn_pickF rfl rfl) (at_top rfl)) ?_
  refine bl_cons 21 rfl (isV _) (stab_isV _) (rgV (li := [(24, _)]) rfl (w_free rfl) ⟨g_dep 19 (by kernel_rfl) (at_dep rfl rfl rfl), trivial⟩ (fun w hw => rn_assign rfl) (at_top rfl)) ?_
  refine bl_nil ?_
  intro W4 hbR hS'
  clear hS; have hS := hS'; clear hS'
  refine fin_v ?_
  refine fin_v ?_
  refine fin_v ?_
  refine fin_v ?_
  refine fin_v ?_
  refine fin_v ?_
  refine fin_v ?_
  refine fin_v ?_
  refine fin_v ?_
  refine fin_v ?_
  refine fin_v ?_
  refine fin_v ?_
  refine fin_v ?_
  refine fin_v ?_
  refine fin_v ?_
  refine fin_v ?_
  refine fin_v ?_
  refine fin_v ?_
  refine fin_v ?_
  refine fin_v ?_
  refine fin_v ?_
  refine fin_nil ?_
  refine XF.thenN ?_
  refine retF ?_
  refine XF.res (res1 Try.results18 rfl) ?_
  exact ⟨rbool (by unfold appB; rw [show ws = [] from List.eq_nil_of_length_eq_zero (by omega)]; simp), hS.below⟩
 ·obtain ⟨b, off, y, rfl, hy, hyc⟩ := hrow.at1 (show 0 < ws.length by omega)
  have k1 : W2.cell? ⟨b, off, none⟩ = some (.int .i64 y) := by have := hS.old hyc; simpa using this
  have hg : appB r0 p ws = decide (y = r0.g) := by unfold appB; rw [hy, decide_eq_true h1]; rfl
  refine regB (m := 21) followsM hS (by kernel_rfl) (by kernel_rfl) rfl ?_
  refine bl_cons 1 rfl (isV _) (stab_isV _) (rgV (li := [(2, _)]) rfl (w_free rfl) ⟨g_fr (by kernel_rfl) rfl, trivial⟩ (fun w hw => rn_field (o' := 0) fa_69_0 rfl rfl) (at_top rfl)) ?_
  refine bl_cons 2 rfl (isV _) (stab_isV _) (rgV (li := [(5, _)]) rfl (w_free rfl) ⟨g_dep 0 (by kernel_rfl) (at_dep rfl rfl rfl), trivial⟩ (fun w hw => rn_load Try.isAgg3 rfl ((below_agree hw 0).cell (Nat.zero_le _) (cell_own (hS.at_ 1 rfl) rfl))) (at_top rfl)) ?_
  refine bl_cons 3 rfl (isV _) (stab_isV _) (rgV (li := [(3, _)]) rfl (w_free rfl) ⟨g_fr (by kernel_rfl) rfl, trivial⟩ (fun w hw => rn_field (o' := 0) fa_44_0 rfl rfl) (at_top rfl)) ?_
  refine bl_cons 4 rfl (isV _) (stab_isV _) (rgV (li := [(7, _)]) rfl (w_free rfl) ⟨g_dep 2 (by kernel_rfl) (at_dep rfl rfl rfl), trivial⟩ (fun w hw => rn_load Try.isAgg3 rfl ((below_agree hw 0).cell (Nat.zero_le _) (cell_own (hS.at_ 0 rfl) rfl))) (at_top rfl)) ?_
  refine bl_cons 5 rfl (isV (.bool true)) (stab_isV _) (rgVe (li := [(6, _), (8, _)]) rfl (w_free rfl) ⟨g_dep 1 (by kernel_rfl) (at_dep rfl rfl rfl), g_dep 3 (by kernel_rfl) (at_dep rfl rfl rfl), trivial⟩ (fun w hw => rn_eql rfl rfl) (by rw [decide_eq_true h1]) (at_top rfl)) ?_
  refine bl_cons 6 rfl (isV _) (stab_isV _) (rgV (li := [(9, _)]) rfl (w_free rfl) ⟨g_dep 4 (by kernel_rfl) (at_dep rfl rfl rfl), trivial⟩ (fun w hw => rn_move rfl) (at_top rfl)) ?_
  refine bl_cons 7 rfl (isV _) (stab_isV _) (rgV (li := [(3, _)]) rfl (w_yes 10 rfl (by kernel_rfl) (by kernel_rfl) (at_dep rfl rfl rfl)) ⟨g_fr (by kernel_rfl) rfl, trivial⟩ (fun w hw => rn_field (o' := 1) fa_44_1 rfl rfl) (at_top rfl)) ?_
  refine bl_cons 8 rfl (isV _) (stab_isV _) (rgV (li := [(11, _)]) rfl (w_yes 10 rfl (by kernel_rfl) (by kernel_rfl) (at_dep rfl rfl rfl)) ⟨g_dep 6 (by kernel_rfl) (at_dep rfl rfl rfl), trivial⟩ (fun w hw => rn_load Try.isAgg23 rfl ((below_agree hw 0).cell (Nat.zero_le _) (cell_own (hS.at_ 0 rfl) rfl))) (at_top rfl)) ?_
  refine bl_cons 9 rfl (isV _) (stab_isV _) (rgV (li := [(12, _)]) rfl (w_yes 10 rfl (by kernel_rfl) (by kernel_rfl) (at_dep rfl rfl rfl)) ⟨g_dep 7 (by kernel_rfl) (at_dep rfl rfl rfl), trivial⟩ (fun w hw => rn_len Try.underlying23 rfl) (at_top rfl)) ?_
  refine bl_cons 10 rfl (isV (.bool true)) (stab_isV _) (rgVe (li := [(13, _)]) rfl (w_yes 10 rfl (by kernel_rfl) (by kernel_rfl) (at_dep rfl rfl rfl)) ⟨g_dep 8 (by kernel_rfl) (at_dep rfl rfl rfl), trivial⟩ (fun w hw => rn_gtr rfl rfl) (by rw [decide_eq_true (by omega)]) (at_top rfl)) ?_
  refine bl_cons 11 rfl (isV _) (stab_isV _) (rgV (li := [(10, _), (14, _)]) rfl (w_free rfl) ⟨g_dep 5 (by kernel_rfl) (at_dep rfl rfl rfl), g_dep 9 (by kernel_rfl) (at_dep rfl rfl rfl), trivial⟩ (fun w hw => rn_pickT rfl rfl) (at_top rfl)) ?_
  refine bl_cons 12 rfl (isV _) (stab_isV _) (rgV (li := [(15, _)]) rfl (w_free rfl) ⟨g_dep 10 (by kernel_rfl) (at_dep rfl rfl rfl), trivial⟩ (fun w hw => rn_move rfl) (at_top rfl)) ?_
  refine bl_cons 13 rfl (isV _) (stab_isV _) (rgV (li := [(3, _)]) rfl (w_yes 16 rfl (by kernel_rfl) (by kernel_rfl) (at_dep rfl rfl rfl)) ⟨g_fr (by kernel_rfl) rfl, trivial⟩ (fun w hw => rn_field (o' := 1) fa_44_1 rfl rfl) (at_top rfl)) ?_
  refine bl_cons 14 rfl (isV _) (stab_isV _) (rgV (li := [(17, _)]) rfl (w_yes 16 rfl (by kernel_rfl) (by kernel_rfl) (at_dep rfl rfl rfl)) ⟨g_dep 12 (by kernel_rfl) (at_dep rfl rfl rfl), trivial⟩ (fun w hw => rn_load Try.isAgg23 rfl ((below_agree hw 0).cell (Nat.zero_le _) (cell_own (hS.at_ 0 rfl) rfl))) (at_top rfl)) ?_
  refine bl_cons 15 rfl (isV _) (stab_isV _) (rgV (li := [(18, _)]) rfl (w_yes 16 rfl (by kernel_rfl) (by kernel_rfl) (at_dep rfl rfl rfl)) ⟨g_dep 13 (by kernel_rfl) (at_dep rfl rfl rfl), trivial⟩ (fun w hw => rn_indexA (j := 0) Try.underlying23 Try.sizeOf3 rfl rfl rfl (by omega) (Nat.add_zero _)) (at_top rfl)) ?_
  refine bl_cons 16 rfl (isV _) (stab_isV _) (rgV (li := [(19, _)]) rfl (w_yes 16 rfl (by kernel_rfl) (by kernel_rfl) (at_dep rfl rfl rfl)) ⟨g_dep 14 (by kernel_rfl) (at_dep rfl rfl rfl), trivial⟩ (fun w hw => rn_load Try.isAgg3 rfl ((below_agree hw 0).cell (Nat.zero_le _) (by assumption))) (at_top rfl)) ?_
  refine bl_cons 17 rfl (isV _) (stab_isV _) (rgV (li := [(2, _)]) rfl (w_yes 16 rfl (by kernel_rfl) (by kernel_rfl) (at_dep rfl rfl rfl)) ⟨g_fr (by kernel_rfl) rfl, trivial⟩ (fun w hw => rn_field (o' := 1) fa_69_1 rfl rfl) (at_top rfl)) ?_
  refine bl_cons 18 rfl (isV _) (stab_isV _) (rgV (li := [(21, _)]) rfl (w_yes 16 rfl (by kernel_rfl) (by kernel_rfl) (at_dep rfl rfl rfl)) ⟨g_dep 16 (by kernel_rfl) (at_dep rfl rfl rfl), trivial⟩ (fun w hw => rn_load Try.isAgg3 rfl ((below_agree hw 0).cell (Nat.zero_le _) (cell_own (hS.at_ 1 rfl) rfl))) (at_top rfl)) ?_
  refine bl_cons 19 rfl (isV _) (stab_isV _) (rgV (li := [(20, _), (22, _)]) rfl (w_yes 16 rfl (by kernel_rfl) (by kernel_rfl) (at_dep rfl rfl rfl)) ⟨g_dep 15 (by kernel_rfl) (at_dep rfl rfl rfl), g_dep 17 (by kernel_rfl) (at_dep rfl rfl rfl), trivial⟩ (fun w hw => rn_eql rfl rfl) (at_top rfl)) ?_
  refine bl_cons 20 rfl (isV _) (stab_isV _) (rgV (li := [(16, _), (23, _)]) rfl (w_free rfl) ⟨g_dep 11 (by kernel_rfl) (at_dep rfl rfl rfl), g_dep 18 (by kernel_rfl) (at_dep rfl rfl rfl), trivial⟩ (fun w hw => rn_pickT rfl rfl) (at_top rfl)) ?_
  refine bl_cons 21 rfl (isV _) (stab_isV _) (rgV (li := [(24, _)]) rfl (w_free rfl) ⟨g_dep 19 (by kernel_rfl) (at_dep rfl rfl rfl), trivial⟩ (fun w hw => rn_assign rfl) (at_top rfl)) ?_
  refine bl_nil ?_
  intro W5 hbR hS'
  clear hS; have hS := hS'; clear hS'
  refine fin_v ?_
  refine fin_v ?_
  refine fin_v ?_
  refine fin_v ?_
  refine fin_v ?_
  refine fin_v ?_
  refine fin_v ?_
  refine fin_v ?_
  refine fin_v ?_
  refine fin_v ?_
  refine fin_v ?_
  refine fin_v ?_
  refine fin_v ?_
  refine fin_v ?_
  refine fin_v ?_
  refine fin_v ?_
  refine fin_v ?_
  refine fin_v ?_
  refine fin_v ?_
  refine fin_v ?_
  refine fin_v ?_
  refine fin_nil ?_
  refine XF.thenN ?_
  refine retF ?_
  refine XF.res (res1 Try.results18 rfl) ?_
  exact ⟨rbool hg.symm, hS.below⟩
end Go.Proofs.Ythepjghlipdcoaa
namespace Go.Proofs.Ythepjghlipdcoaa
open Go Go.RowKit
def RowN (lo : Nat) (W : World) (a : Option Addr) (c : Nat) (xs : List Int) : Prop := W.ownsRow lo 3 1 (.slice a xs.length c) xs.length (xs.map (Value.int .i64))
theorem RowN.mono {lo lo' : Nat} {W : World} {a : Option Addr} {c : Nat} {xs : List Int} (h : RowN lo W a c xs) (hl : lo' ≤ lo) : RowN lo' W a c xs := ownsRow_base h hl
theorem RowN.agree {lo : Nat} {A W : World} {a : Option Addr} {c : Nat} {xs : List Int} (h : RowN lo A a c xs) (hg : Agree lo A W) : RowN lo W a c xs := ownsRow_agree h hg
theorem RowN.below {lo : Nat} {A W : World} {a : Option Addr} {c : Nat} {xs : List Int} (h : RowN lo A a c xs) (hb : Below A.heap.size A W) : RowN lo W a c xs := h.agree (below_agree hb lo)
def CRet (p : Int) (xs : List Int) (w : World) (e : Ending) (w' : World) : Prop := ∃ a c, e = .returned (.agg #[.int .i64 p, .slice a xs.length c]) ∧ RowN w.heap.size w' a c xs ∧ Below w.heap.size w w'
theorem cret {w W : World} {O : Own} {K : List (Nat × World)} {p : Int} {a : Option Addr} {c n : Nat} {xs : List Value} {zs : List Int} (hS : St w O [⟨.slice a n c, n, xs, 3, 1⟩] K W) (hn : zs.length = n) (hx : xs = zs.map (Value.int .i64)) : CRet p zs w (.returned (.agg #[.int .i64 p, .slice a n c])) W := by
 subst hn; subst hx
 exact ⟨a, c, rfl, hS.row 0 rfl, hS.below⟩
theorem ints_one (xs : List Int) : ∀ u ∈ xs.map (Value.int .i64), u.oneCell' = true := fun u hu => by
 obtain ⟨z, _, rfl⟩ := List.mem_map.1 hu
 rfl
theorem Row.app {W : World} {a : Option Addr} {ws : List Int} {m : Nat} (h : Row W a ws) (hl : ws.length = m) : (a = none ∧ m = 0) ∨ ∃ p, a = some p ∧ ∀ (j : Nat) u, (ws.map (Value.int .i64))[j]? = some u → W.cell? (p.add j) = some u := by
 rcases h with rfl | ⟨b, off, rfl, hc⟩
 ·cases a with
  | none => exact .inl ⟨rfl, hl.symm⟩
  | some p => exact .inr ⟨p, rfl, fun j u hj => by simp at hj⟩
 ·refine .inr ⟨_, rfl, fun j u hj => ?_⟩
  rw [List.getElem?_map] at hj
  cases hz : ws[j]? with
  | none => rw [hz] at hj; cases hj
  | some z =>
   rw [hz] at hj; cases hj
   have hj' := (List.getElem?_eq_some_iff.1 hz).1
   have := hc j hj'
   rw [Addr.add_lit, this]
   simp [List.getD, hz]
theorem Row.tail1 {W : World} {a : Option Addr} {y : Int} {t : List Int} {c : Nat} (h : Row W a (y :: t)) (hc : (y :: t).length ≤ c) : Row W (if c = 1 then a else a.map (·.add (1 * 1))) t := by
 rcases h with h | ⟨b, off, rfl, hc1⟩
 ·cases h
 ·by_cases h1 : c = 1
  ·subst h1
   refine .inl (List.eq_nil_of_length_eq_zero ?_)
   simp at hc; simpa using hc
  ·rw [if_neg h1]
   refine .inr ⟨b, off + 1, by simp [Addr.add_lit], fun i hi => ?_⟩
   have := hc1 (i + 1) (by simp; omega)
   rw [show off + 1 + i = off + (i + 1) by omega, this]
   simp
def isConfN (lo : Nat) (p : Int) (xs : List Int) : Asr := fun v w => ∃ a c, v = .agg #[.int .i64 p, .slice a xs.length c] ∧ RowN lo w a c xs
theorem stab_isConfN {lo : Nat} {p : Int} {xs : List Int} : Stab (isConfN lo p xs) := fun v w w' ⟨a, c, h1, h2⟩ hb => ⟨a, c, h1, h2.below hb⟩
theorem cret_gives {P : Program} {f : FuncId} {vs : Array Value} {w : World} {p : Int} {xs : List Int} {lo : Nat} (hlo : lo ≤ w.heap.size) (h : Calls P f vs w (CRet p xs w)) : Calls P f vs w (Gives (isConfN lo p xs) w) := h.mono fun e w' ⟨a, c, he, hn, hb⟩ => ⟨_, he, ⟨a, c, rfl, hn.mono hlo⟩, hb⟩
theorem behind_c (p : Int) (wa va : Option Addr) (wl vl wc vc : Nat) (ws vs : List Int) (w : World) (hrow : Row w wa ws) (hlen : ws.length = wl) (hrov : Row w va vs) (hlev : vs.length = vl) (hm : wl ≤ 8192) (hm2 : vl ≤ 8192) :
  Calls Try.prog 31 #[.int .i64 p, .slice wa wl wc, .slice va vl vc] w (CRet p (ws ++ vs) w) := by
 refine enterF (args := [.int .i64 p, .slice wa wl wc, .slice va vl vc]) Try.func31 rfl Try.ntmps31 rfl ?_
 have hS := St.start w
 refine seqF (regF ?_)
 refine op_alloc (cs := [_, _]) hS Try.zeroValue44 rfl rfl ?_
 clear hS; intro B1 W1 hS
 refine endF (XF.thenN ?_)
 refine seqF (regF ?_)
 refine op_move rfl rfl ?_
 refine op_slice0 hS Try.underlying23 Try.sizeOf3 rfl ?_
 clear hS; intro v2 W2 hS
 refine op_move rfl rfl ?_
 refine op_appendV (i := 0) (news := ws.map (Value.int .i64)) hS Try.underlying23 inf_3 rfl rfl (by show 0 < 1; decide) rfl rfl rfl rfl rfl (Row.app (hrow.below hS.below) hlen) (by show (ws.map (Value.int .i64)).length = wl * 1; simpa using hlen) (ints_one ws) (by dsimp only; simp only [maxLen]; omega) (by dsimp only; show _ * 8 ≤ _; omega) rfl ?_
 clear hS; intro v3 W3 hS
 refine op_move rfl rfl ?_
 refine op_appendV (i := 0) (news := vs.map (Value.int .i64)) hS Try.underlying23 inf_3 rfl rfl (by show 0 < 1; decide) rfl rfl rfl rfl rfl (Row.app (hrov.below hS.below) hlev) (by show (vs.map (Value.int .i64)).length = vl * 1; simpa using hlev) (ints_one vs) (by dsimp only; simp only [maxLen]; omega) (by dsimp only; show _ * 8 ≤ _; omega) rfl ?_
 clear hS; intro v4 W4 hS
 obtain ⟨a9, c9, e9, hc9⟩ := ownsRow_sl (v := v4) (n := 0 + wl + vl) (hS.row 0 rfl)
 subst e9
 refine op_build (us := [(0, .int .i64 _), (1, .slice _ _ _)]) rfl (bld_44_0_1 _ _ _ _) rfl ?_
 refine op_storeA (i := 0) (vs := [_, _]) (cs' := [_, _]) (O' := [_]) hS Try.sizeOf44 rfl rfl rfl rfl rfl rfl rfl ?_
 clear hS; intro W5 hS
 refine endF (XF.thenN ?_)
 refine retF ?_
 refine XF.res (resC1 (vs := [_, _]) Try.results31 Try.isAgg44 Try.sizeOf44 rfl (CellsAt.own (j := 0) (m := 2) (hS.at_ 0 rfl) rfl)) ?_
 exact cret hS (by simp [hlen, hlev]) (by simp)
theorem by_c (r0 : RV) (p y : Int) (wa : Option Addr) (wl wc : Nat) (t : List Int) (w : World) (hr : Row w r0.wa r0.ws) (hrl : r0.ws.length = r0.wl) (hrow : Row w wa (y :: t)) (hlen : (y :: t).length = wl) (hcap : wl ≤ wc) (hm : r0.wl ≤ 8192) (hm2 : wl ≤ 8192) :
  Calls Try.prog 19 #[r0.val, .agg #[.int .i64 p, .slice wa wl wc]] w (CRet r0.q (r0.ws ++ t) w) := by
 refine enterF (args := [r0.val, .agg #[.int .i64 p, .slice wa wl wc]]) Try.func19 rfl Try.ntmps19 rfl ?_
 have hS := St.start w
 refine seqF (regF ?_)
 refine op_box (cs := [_, _, _, _, _, _, _, _, _, _]) hS rfl rfl rfl ?_
 clear hS; intro B1 W1 hS
 refine op_box (cs := [_, _]) hS rfl rfl rfl ?_
 clear hS; intro B2 W2 hS
 refine op_alloc (cs := [_, _]) hS Try.zeroValue44 rfl rfl ?_
 clear hS; intro B3 W3 hS
 refine endF (XF.thenN ?_)
 refine seqF ?_
 have h1l : 1 ≤ wl := by have : (y :: t).length = t.length + 1 := rfl; omega
 have h2l : t.length = wl - 1 := by have : (y :: t).length = t.length + 1 := rfl; omega
 have hsz := hS.below.size
 refine regBK followsM 8 hS rfl rfl (by kernel_rfl) (by kernel_rfl) (by kernel_rfl) (fun d hd => by cases hd) ?_
 refine bl_cons 1 rfl (isV _) (stab_isV _) (rgV (li := [(2, _)]) rfl (w_free rfl) ⟨g_fr (by kernel_rfl) rfl, trivial⟩ (fun w hw => rn_field (o' := 2) fa_69_2 rfl rfl) (at_top rfl)) ?_
 refine bl_cons 2 rfl (isV _) (stab_isV _) (rgV (li := [(5, _)]) rfl (w_free rfl) ⟨g_dep 0 (by kernel_rfl) (at_dep rfl rfl rfl), trivial⟩ (fun w hw => rn_load Try.isAgg3 rfl ((below_agree hw 0).cell (Nat.zero_le _) (cell_own (hS.at_ 2 rfl) rfl))) (at_top rfl)) ?_
 refine bl_cons 3 rfl (isV _) (stab_isV _) (rgV (li := [(2, _)]) rfl (w_free rfl) ⟨g_fr (by kernel_rfl) rfl, trivial⟩ (fun w hw => rn_field (o' := 3) fa_69_3 rfl rfl) (at_top rfl)) ?_
 refine bl_cons 4 rfl (isV _) (stab_isV _) (rgV (li := [(7, _)]) rfl (w_free rfl) ⟨g_dep 2 (by kernel_rfl) (at_dep rfl rfl rfl), trivial⟩ (fun w hw => rn_load Try.isAgg23 rfl ((below_agree hw 0).cell (Nat.zero_le _) (cell_own (hS.at_ 2 rfl) rfl))) (at_top rfl)) ?_
 refine bl_cons 5 rfl (isV _) (stab_isV _) (rgV (li := [(3, _)]) rfl (w_free rfl) ⟨g_fr (by kernel_rfl) rfl, trivial⟩ (fun w hw => rn_field (o' := 1) fa_44_1 rfl rfl) (at_top rfl)) ?_
 refine bl_cons 6 rfl (isV _) (stab_isV _) (rgV (li := [(9, _)]) rfl (w_free rfl) ⟨g_dep 4 (by kernel_rfl) (at_dep rfl rfl rfl), trivial⟩ (fun w hw => rn_load Try.isAgg23 rfl ((below_agree hw 0).cell (Nat.zero_le _) (cell_own (hS.at_ 1 rfl) rfl))) (at_top rfl)) ?_
 refine bl_cons 7 rfl (isV _) (stab_isV _) (rgV (li := [(10, _)]) rfl (w_free rfl) ⟨g_dep 5 (by kernel_rfl) (at_dep rfl rfl rfl), trivial⟩ (fun w hw => rn_sliceFrom (j := 1) Try.underlying23 Try.sizeOf3 rfl rfl rfl (by omega)) (at_top rfl)) ?_
 refine bl_cons 8 rfl (isConfN W3.heap.size r0.q (r0.ws ++ t)) (stab_isConfN) (rg_call [isV _, isV _, isV _] rfl goes_31 (w_free rfl) ⟨p_tmp (g_dep 1 (by kernel_rfl) (at_dep rfl rfl rfl)), p_tmp (g_dep 3 (by kernel_rfl) (at_dep rfl rfl rfl)), p_tmp (g_dep 6 (by kernel_rfl) (at_dep rfl rfl rfl)), trivial⟩ (fun vs w' hb hh => by have e := holds_isV (us := [_, _, _]) hh; subst e; exact cret_gives (hb.mono (Nat.le_refl _)).size (behind_c r0.q _ _ _ _ _ _ r0.ws t _ (hr.below (hS.below.trans (hb.mono hS.below.size))) hrl ((hrow.tail1 (by omega)).below (hS.below.trans (hb.mono hS.below.size))) h2l hm (by omega))) (at_top rfl)) ?_
 refine bl_nil ?_
 intro W4 hbR hS'
 clear hS; have hS := hS'; clear hS'
 refine fin_v ?_
 refine fin_v ?_
 refine fin_v ?_
 refine fin_v ?_
 refine fin_v ?_
 refine fin_v ?_
 refine fin_v ?_
 refine fin_p ?_; rintro _ ⟨a9, c9, rfl, hn9⟩
 refine fin_nil ?_
 refine op_storeA (i := 0) (vs := [_, _]) (cs' := [_, _]) (O' := [_, _, _]) hS Try.sizeOf44 rfl rfl rfl rfl rfl rfl rfl ?_
 clear hS; intro W5 hS
 refine endF (XF.thenN ?_)
 refine retF ?_
 refine XF.res (resC1 (vs := [_, _]) Try.results19 Try.isAgg44 Try.sizeOf44 rfl (CellsAt.own (j := 0) (m := 2) (hS.at_ 0 rfl) rfl)) ?_
 exact ⟨a9, c9, rfl, (hn9.agree (hS.since 0 rfl)).mono hsz, hS.below⟩
end Go.Proofs.Ythepjghlipdcoaa
namespace Go.Proofs.Ythepjghlipdcoaa
open Go Go.RowKit
theorem holds3 {p q r : Asr} {vs : List Value} {w : World} (h : Holds [p, q, r] vs w) : ∃ a b c, vs = [a, b, c] ∧ p a w ∧ q b w ∧ r c w := by
 match vs, h with
 | [a, b, c], h => exact ⟨a, b, c, rfl, h.1, h.2.1, h.2.2.1⟩
section
variable {n : Nat} {Q : Exit → Act → World → Prop} {l : Fr} {W : World} {ops : Array Oper} {L : List Asr} {i d : Nat} {ty : TypeId} {pos : String} {aft : Array Edge} {gd : Option (Nat × Bool)} {S : PS} {x y z : PX} {p q r : Operand}
end
section
variable {w : World} {S : PS} {sf : SF} {x y z : PX} {vs : List Value}
end
end Go.Proofs.Ythepjghlipdcoaa
namespace Go.Proofs.Ythepjghlipdcoaa
open Go Go.RowKit
abbrev StT := Int × List Int × PX
section
variable {S : PS} {px : RV → PX} {rs : List RV} {i : Int} {l : List Int} {k : Nat} {st st' : StT} {c : Int}
end
theorem drop_at9 {α : Type} {l : List α} {k : Nat} {y : α} (h : l[k]? = some y) : l.drop k = y :: l.drop (k + 1) := by
 obtain ⟨hk, rfl⟩ := List.getElem?_eq_some_iff.1 h
 exact List.drop_eq_getElem_cons hk
end Go.Proofs.Ythepjghlipdcoaa
namespace Go.Proofs.Ythepjghlipdcoaa
open Go Go.RowKit
section
variable {P : Program} {n : Nat} {Q : Exit → Act → World → Prop} {l : Fr} {w0 W : World} {ops opf : Array Oper} {os : List Oper} {K : List (Nat × World)} {L : List Asr} {i : Nat}
variable {O : Own} {Gs : List Value → Grows} {efs : List Nat} {lo : Nat} {s : List Value}
def GCF (w0 : World) (K : List (Nat × World)) (lo : Nat) (O : Own) (Gs : List Value → Grows) (s : List Value) (w : World) : Prop := St w0 O (Gs s) K w ∧ lo ≤ w.heap.size
def VCF (efs : List Nat) (s : List Value) (L : Array Bool) : Prop := s.length ≤ efs.length ∧ ∀ k e, efs[k]? = some e → (L.getD e false = true ↔ k < s.length)
def ICF (efs : List Nat) (lo : Nat) (O : Own) (Gs : List Value → Grows) (L : List Asr) (s : List Value) (i : Nat) (v : Value) (w : World) : Prop := (∀ k : Nat, efs[k]? = some i → s[k]? = some v) ∧ (i ∉ efs → AwS lo (XB O (Gs s)) (atI L i) v w)
def SCF (P : Program) (n : Nat) (ops opf : Array Oper) (Q : Exit → Act → World → Prop) (l : Fr) (w0 : World) (K : List (Nat × World)) (lo : Nat) (O : Own) (Gs : List Value → Grows) (efs : List Nat) (L : List Asr) (i : Nat) : Prop :=
 ∀ t0, Has n l t0 → ∀ s LB (a : Act) w, (∀ t, freeT opf t = true → a.eval (.tmp t) = t0.tmps.getD t undef) → GCF w0 K lo O Gs s w → VCF efs s LB → LB.size = ops.size → ClosedG ops LB → ReadyG ops LB i → (∀ j d, waitsFor ops i j d = true → ICF efs lo O Gs L s j (a.eval (.tmp d)) w) →
  wpOp P ops Q i (fun a' w' => ∃ s' v, a' = a.put ((ops[i]?).bind (·.dst)) v ∧ VCF efs s' (LB.setIfInBounds i true) ∧ GCF w0 K lo O Gs s' w' ∧ (SameX 0 (XB O (Gs s)) w w' ∧ (∀ b, XB O (Gs s') b → XB O (Gs s) b ∨ w.heap.size ≤ b) ∧ (s' = s ∨ ∃ u, s' = s ++ [u] ∧ efs[s.length]? = some i)) ∧ (∀ d, (ops[i]?).bind (·.dst) = some d → ICF efs lo O Gs L s' i v w')) a w
theorem SCF.step (h : SCF P n ops opf Q l w0 K lo O Gs efs L i) : ∀ a, Has n l a → GStepF P (freeT opf) ops Q a.tmps (GCF w0 K lo O Gs) (ICF efs lo O Gs L) (VCF efs) i := fun t0 h0 s LB a w hF hG hV hs hc hr hD => by
 refine wpOp_mono ?_ (h t0 h0 s LB a w hF hG hV hs hc hr hD)
 rintro a' w' ⟨s', v, h1, h2, h3, ⟨t1, t2, t3⟩, h5⟩
 refine ⟨s', v, h1, h2, h3, h5, fun j d _ hd hj => ⟨fun k hk => ?_, fun h6 => (hj.2 h6).next t1 t2⟩⟩
 rcases t3 with rfl | ⟨u, rfl, hu⟩
 ·exact hj.1 k hk
 ·have h7 := hj.1 k hk
  rw [List.getElem?_append_left (List.getElem?_eq_some_iff.1 h7).1]
  exact h7
theorem SCF.ext {L1 L2 : List Asr} (ht : tidyR ops n = true) (hag : ∀ j, j ≤ i → atI L1 j = atI L2 j) (h : SCF P n ops opf Q l w0 K lo O Gs efs L1 i) : SCF P n ops opf Q l w0 K lo O Gs efs L2 i := fun t0 h0 s LB a w hF hG hV hs hc hr hD => by
 have hlt : ∀ j d, waitsFor ops i j d = true → j < i := fun j d hw => by
  cases ho : ops[i]? with
  | none => simp [waitsFor, ho] at hw
  | some o =>
   simp only [waitsFor, ho, Bool.and_eq_true, beq_iff_eq] at hw
   obtain ⟨e, he, h2⟩ := Array.any_eq_true'.1 hw.1
   simp only [Bool.and_eq_true, beq_iff_eq] at h2
   rw [← h2.1]; exact tidy_after ht ho e he h2.2
 have h2 := h t0 h0 s LB a w hF hG hV hs hc hr (fun j d hw => by unfold ICF; rw [hag j (Nat.le_of_lt (hlt j d hw))]; exact hD j d hw)
 unfold ICF at h2
 rw [hag i (Nat.le_refl _)] at h2
 exact h2
def NoCF (efs : List Nat) (L : List Asr) : Prop := ∀ j, j ∈ efs → atI L j = anyA
theorem deps_hasCF {t0 : Act} (h0 : Has n l t0) {a : Act} {w : World} (hF : ∀ t, freeT opf t = true → a.eval (.tmp t) = t0.tmps.getD t undef) (hD : ∀ j d, waitsFor ops i j d = true → ICF efs lo O Gs L s j (a.eval (.tmp d)) w)
  (hn : ∀ j d, waitsFor ops i j d = true → j ∈ efs → atI L j = anyA) : ∀ j d, waitsFor ops i j d = true → atI L j (a.eval (.tmp d)) w := fun j d hw => by
 by_cases h1 : j ∈ efs
 ·rw [hn j d hw h1]; trivial
 ·exact ((hD j d hw).2 h1).here
theorem vc_otherF {L : Array Bool} (hV : VCF efs s L) (hi : i ∉ efs) : VCF efs s (L.setIfInBounds i true) :=
 ⟨hV.1, fun k e he => by rw [getD_set_ne false (fun h => hi (by rw [h]; exact List.mem_of_getElem? he))]; exact hV.2 k e he⟩
variable {d : Nat} {op : Op} {ty : TypeId} {pos : String} {aft_ : Array Edge} {v : Value} {gd : Option (Nat × Bool)}
theorem sc_baseF (hie : i ∉ efs) (hi : ops[i]? = some ⟨some d, op, ty, pos, aft_, gd⟩) (hNo : NoCF efs L)
  (h : ∀ (t0 a : Act) s w, Has n l t0 → (∀ t, freeT opf t = true → a.eval (.tmp t) = t0.tmps.getD t undef) → GCF w0 K lo O Gs s w → (∀ j d, waitsFor ops i j d = true → ICF efs lo O Gs L s j (a.eval (.tmp d)) w) → (∀ j d, waitsFor ops i j d = true → atI L j (a.eval (.tmp d)) w) →
   wpOp P ops Q i (fun a' w' => ∃ v, a' = a.put (some d) v ∧ AwS lo (XB O (Gs s)) (atI L i) v w' ∧ Below w.heap.size w w') a w) : SCF P n ops opf Q l w0 K lo O Gs efs L i := fun t0 h0 s LB a w hF hG hV hs hc hr hD => by
 refine wpOp_mono ?_ (h t0 a s w h0 hF hG hD (deps_hasCF h0 hF hD fun j d _ hj => hNo j hj))
 rintro a' w' ⟨v, rfl, hA, hb⟩
 refine ⟨s, v, by rw [hi]; rfl, vc_otherF hV hie, ⟨hG.1.grow hb, Nat.le_trans hG.2 hb.size⟩, ⟨sameX_of hb, fun b hb => .inl hb, .inl rfl⟩, fun _ _ => ⟨fun k hk => absurd (List.mem_of_getElem? hk) hie, fun _ => hA⟩⟩
theorem scVF (hf : Fst ops opf) (li : Fr) (hie : efs.contains i = false) (hi : ops[i]? = some ⟨some d, op, ty, pos, aft_, gd⟩) (hNo : NoCF efs L) (hw : Wants ops L i ⟨some d, op, ty, pos, aft_, gd⟩) (hli : AllO n opf l L i li)
  (hr : ∀ s w, St w0 O (Gs s) K w → Runs P li ⟨some d, op, ty, pos, #[], none⟩ w v w) (hI : atI L i = isV v) : SCF P n ops opf Q l w0 K lo O Gs efs L i :=
 sc_baseF (fun h => by rw [List.contains_iff_mem.2 h] at hie; cases hie) hi hNo fun t0 a s w h0 hF hG hD hD' => by
  have hS : St w0 O (Gs s) K w := hG.1
  exact wp_val hi (hw.yes hD') (by rw [execOp_guard a.eval _ _ _ _ pos _ #[] _ none]; exact hr s w hS a.eval (allO_has h0 hF (fun j d h => hD' j d (hf.waits h)) hli)) ⟨v, rfl, by rw [hI]; exact awS_isV, Below.refl _ _⟩
theorem sc_rowVF {T e : TypeId} {m sz : Nat} {xs : List (Nat × Operand)} {us : List Value} {z : Value} {cs : List Value} (hf0 : Fst ops opf) (hie : efs.contains i = false) (hi : ops[i]? = some ⟨some d, .buildSlice T m xs.toArray, ty, pos, aft_, gd⟩) (hNo : NoCF efs L) (hw : Wants ops L i ⟨some d, .buildSlice T m xs.toArray, ty, pos, aft_, gd⟩)
  (hU : P.underlying T = some (.slice e)) (hs : ∀ w, (sizeOf e).run P w = .ok sz w) (hz : ∀ w, (zeroValue e).run P w = .ok z w) (hm : Nat.ble (m * sz) 16777216 = true) (hm0 : Nat.beq (m * sz) 0 = false) (hp : AllP n opf l L i (xs.map (·.2)) (us.map isV))
  (hf : Instr.fill (fun i => some (i * sz, sz)) ((Array.range (m * sz)).map (z.cells[· % z.cells.size]!)) ((xs.map (·.1)).zip us) = some cs.toArray) (hI : atI L i = isRow lo m e cs) : SCF P n ops opf Q l w0 K lo O Gs efs L i :=
 sc_baseF (fun h => by rw [List.contains_iff_mem.2 h] at hie; cases hie) hi hNo fun t0 a s w h0 hF hG hD hD' => by
  have hv := holds_isV (allP_holds h0 hF (fun j d h => hD' j d (hf0.waits h)) hp)
  have h4 : m * sz ≤ 16777216 := Nat.le_of_ble_eq_true hm
  have h5 : m * sz ≠ 0 := fun e => by rw [e] at hm0; cases hm0
  have h6 : ¬ (m * sz > 2 ^ 24) := by omega
  have h7 : xs.map (fun p => (p.1, a.eval p.2)) = (xs.map (·.1)).zip us := by
   rw [← hv]
   clear hi hw hp hv hf
   induction xs with
   | nil => rfl
   | cons x xs ih => simp only [List.map_cons, List.zip_cons_cons, ← ih]
  have hB : Below w.heap.size w (w.alloc (.cells cs.toArray e)) := (Below.refl _ _).alloc (Nat.le_refl _) _
  refine wp_val hi (hw.yes hD') (v := .slice (some ⟨w.heap.size, 0, none⟩) m m) (w' := w.alloc (.cells cs.toArray e)) ?_ ⟨_, rfl, ?_, hB⟩
  ·unfold execOp
   simp only []
   rw [show (Array.map (fun p => (p.1, a.eval p.2)) xs.toArray) = (xs.map (fun p => (p.1, a.eval p.2))).toArray by simp, h7]
   simp only [Instr.buildSlice, Sem.run_bind, run_underlying hU, Result.andThen_ok, hs, if_neg h6, if_neg h5, hz, Sem.run_pure, hf, newRow, run_newObj_alloc]
  ·rw [hI]
   intro w2 h2
   have hnew := heap_alloc_new w (.cells cs.toArray e)
   refine ⟨w.heap.size, rfl, hG.2, (h2.2.2 _ hG.2 (lt_of_heap hnew) (fun hx => ?_)).trans hnew⟩
   rcases hx with ⟨q, hq, e1⟩ | ⟨g, hg, hgb⟩
   ·have := lt_of_heap (hG.1.own q hq).2; omega
   ·have := (hG.1.glt hg hgb).2; omega
theorem sc_appF {t e : TypeId} {x : Operand} {tyy jy m : Nat} {gv : Value} {gn : Nat} {gxs cs : List Value} {inf : TypeInfo} {z : Value} (hf : Fst ops opf) (k gi : Nat) (li : Fr) (hek : efs[k]? = some i) (hearly : (efs.take k).all (fun j => (earlyL ops i).contains j) = true) (hnd : efs.Nodup)
  (hi : ops[i]? = some ⟨some d, .call { callee := .builtin .append, args := #[x, .tmp tyy], argTypes := #[t, t] }, ty, pos, aft_, none⟩) (hNo : NoCF efs L)
  (hU : P.underlying t = some (.slice e)) (hinf : P.info? e = some inf) (hz : inf.zero = some z) (hzs : z.cells.size = inf.size) (hsz : 0 < inf.size)
  (hg : ∀ s, s.length = k → (Gs s)[gi]? = some ⟨gv, gn, gxs, e, inf.size⟩) (hgs : ∀ s v', s.length = k → Gs (s ++ [v']) = (Gs s).set gi ⟨v', gn + m, gxs ++ cs, e, inf.size⟩)
  (hli : AllO n opf l L i li) (hx : evL li x = some gv) (hwy : waitsFor ops i jy tyy = true) (hjy : efs.contains jy = false) (hLy : atI L jy = isRow lo m e cs) (hl : cs.length = m * inf.size) (h1 : cs.all Value.oneCell' = true) (h63 : gn + m ≤ maxLen) (hbytes : (gn + m) * inf.bytes ≤ 140737488355328) : SCF P n ops opf Q l w0 K lo O Gs efs L i := fun t0 h0 s LB a w hF hG hV hs hc hr hD => by
 have hik : s.length = k := by
  have h2 : ¬ k < s.length := fun h => by have := (hV.2 k i hek).2 h; rw [hr.1] at this; cases this
  have h3 : ¬ s.length < k := fun h => by
   obtain ⟨e1, he1⟩ : ∃ e1, efs[s.length]? = some e1 := ⟨efs[s.length]'(by have := (List.getElem?_eq_some_iff.1 hek).1; omega), by simp⟩
   have h4 := List.all_eq_true.1 hearly e1 (List.mem_of_getElem? (i := s.length) (by rw [List.getElem?_take, if_pos h]; exact he1))
   have h5 := ready_early hc hr e1 (List.contains_iff_mem.1 h4)
   exact absurd ((hV.2 s.length e1 he1).1 h5) (by omega)
  omega
 have hD' := deps_hasCF h0 hF hD (fun j d _ hj => hNo j hj)
 have ex := allO_has h0 hF (fun j d h => hD' j d (hf.waits h)) hli x _ hx
 have hy := ((hD jy tyy hwy).2 (fun h => by rw [List.contains_iff_mem.2 h] at hjy; cases hjy)).here
 rw [hLy] at hy
 obtain ⟨B, ey, hB1, hB2⟩ := hy
 have hgi := hg s hik
 have hrow := hG.1.row gi hgi
 obtain ⟨v', W', hr2, h2, h3, h4⟩ := append_own2 (P := P) (w := w) w0.heap.size t ty e inf z hU hinf hz hzs hsz gv gn gxs hrow ⟨B, 0, none⟩ m m cs hl (fun j u hj => by
  rw [Addr.add_lit, Nat.zero_add]
  simp only [World.cell?, hB2]
  simpa using hj) (fun u hu => List.all_eq_true.1 h1 u hu) h63 hbytes hG.1.below.size
 have hSt := hG.1.setG gi hgi h2 h3 h4
 refine wp_val (w' := W') (v := v') hi (wanted_free rfl) ?_ ?_
 ·unfold execOp
  simp only [resolve, invoke, builtin, Sem.run_bind, Sem.run_pure, Result.andThen_ok, List.map_toArray, List.map_cons, List.map_nil, ex, ey, hr2]
 ·have hXg : ∀ b, gv.ownBlock = some b → XB O (Gs s) b := fun b hb => .inr ⟨_, List.mem_of_getElem? hgi, hb⟩
  refine ⟨s ++ [v'], v', by rw [hi]; rfl, ⟨?_, fun k' e' he' => ?_⟩, ⟨by rw [hgs s v' hik]; exact hSt, Nat.le_trans hG.2 h3.size⟩, ⟨⟨⟨h3.os, h3.tape, h3.output⟩, h3.size, fun b _ hb hx => h3.block b hb (fun e => hx (hXg b e.symm))⟩, ?_, .inr ⟨v', rfl, by rw [hik]; exact hek⟩⟩, fun d hd => ⟨fun k' hk' => ?_, fun h => absurd (List.mem_of_getElem? hek) h⟩⟩
  ·have := (List.getElem?_eq_some_iff.1 hek).1
   rw [List.length_append]; simp; omega
  ·rw [List.length_append, hik]
   by_cases hkk : k' = k
   ·subst hkk
    rw [hek] at he'; cases he'
    rw [Array.getD_eq_getD_getElem?, Array.getElem?_setIfInBounds_self_of_lt (by rw [hs]; exact (Array.getElem?_eq_some_iff.1 hi).1)]
    exact ⟨fun _ => by simp, fun _ => rfl⟩
   ·have hne : i ≠ e' := fun h => hkk (by
     subst h
     have a1 := List.getElem?_eq_some_iff.1 hek
     have a2 := List.getElem?_eq_some_iff.1 he'
     exact (List.getElem_inj hnd).1 (a2.2.trans a1.2.symm))
    rw [getD_set_ne false hne, hV.2 k' e' he', hik]
    simp; omega
  ·intro b hb
   rcases hb with ⟨p, hp, rfl⟩ | ⟨g, hg2, e1⟩
   ·exact .inl (.inl ⟨p, hp, rfl⟩)
   ·rw [hgs s v' hik] at hg2
    rcases List.mem_or_eq_of_mem_set hg2 with hg2 | rfl
    ·exact .inl (.inr ⟨g, hg2, e1⟩)
    ·rcases h4 with h5 | h5
     ·exact .inl (hXg b (h5 ▸ e1))
     ·have e2 : v'.ownBlock = some b := e1
      rw [h5] at e2; exact .inr (Nat.le_of_eq (Option.some.inj e2))
  ·have : k' = k := by
    have a1 := List.getElem?_eq_some_iff.1 hek
    have a2 := List.getElem?_eq_some_iff.1 hk'
    exact (List.getElem_inj hnd).1 (a2.2.trans a1.2.symm)
   rw [this, ← hik]; simp
def BLCF (P : Program) (n : Nat) (ops opf : Array Oper) (Q : Exit → Act → World → Prop) (l : Fr) (w0 : World) (K : List (Nat × World)) (lo : Nat) (O : Own) (Gs : List Value → Grows) (efs : List Nat) (Goal : List Asr → Prop) : Nat → List Asr → Nat → Prop
 | 0, Lr, _ => Goal Lr
 | m + 1, Lr, k => ∃ q, (k ∈ efs → q = anyA) ∧ (NoCF efs (q :: Lr).reverse → SCF P n ops opf Q l w0 K lo O Gs efs (q :: Lr).reverse k) ∧ BLCF P n ops opf Q l w0 K lo O Gs efs Goal m (q :: Lr) (k + 1)
variable {Goal : List Asr → Prop}
theorem blc_nilF {Lr : List Asr} {k : Nat} (h : Goal Lr) : BLCF P n ops opf Q l w0 K lo O Gs efs Goal 0 Lr k := h
theorem blc_consF {m k : Nat} {Lr : List Asr} (k' : Nat) (hk : k + 1 = k') (hne : efs.contains k = false) (q : Asr) (h : NoCF efs (q :: Lr).reverse → SCF P n ops opf Q l w0 K lo O Gs efs (q :: Lr).reverse k) (hr : BLCF P n ops opf Q l w0 K lo O Gs efs Goal m (q :: Lr) k') : BLCF P n ops opf Q l w0 K lo O Gs efs Goal (m + 1) Lr k := by
 subst hk
 refine ⟨q, fun hc => ?_, h, hr⟩
 rw [List.contains_iff_mem.2 hc] at hne; cases hne
theorem blc_anyF {m k : Nat} {Lr : List Asr} (k' : Nat) (hk : k + 1 = k') (h : SCF P n ops opf Q l w0 K lo O Gs efs (anyA :: Lr).reverse k) (hr : BLCF P n ops opf Q l w0 K lo O Gs efs Goal m (anyA :: Lr) k') : BLCF P n ops opf Q l w0 K lo O Gs efs Goal (m + 1) Lr k := by
 subst hk; exact ⟨anyA, fun _ => rfl, fun _ => h, hr⟩
theorem blc_runF (ht : tidyR ops n = true) : ∀ (m k : Nat) (Lr : List Asr), Lr.length = k → NoCF efs Lr.reverse → (∀ i, i < k → SCF P n ops opf Q l w0 K lo O Gs efs Lr.reverse i) → BLCF P n ops opf Q l w0 K lo O Gs efs Goal m Lr k →
  ∃ Lr', Lr'.length = k + m ∧ (∀ i, i < k + m → SCF P n ops opf Q l w0 K lo O Gs efs Lr'.reverse i) ∧ Goal Lr'
 | 0, k, Lr, hl, hs, hg, h => ⟨Lr, hl, hg, h⟩
 | m + 1, k, Lr, hl, hs, hg, ⟨q, hq, hr, hn⟩ => by
  have hap : ∀ j, j < k → atI Lr.reverse j = atI (q :: Lr).reverse j := fun j hj => by rw [List.reverse_cons, atI_append (by simp; omega)]
  have hs' : NoCF efs (q :: Lr).reverse := fun j hj => by
   rcases Nat.lt_trichotomy j k with h1 | h1 | h1
   ·rw [← hap j h1]; exact hs j hj
   ·subst h1; rw [at_top hl]; exact hq hj
   ·exact atI_len (by simp; omega)
  obtain ⟨L', h1, h3, h4⟩ := blc_runF ht m (k + 1) (q :: Lr) (by simp [hl]) hs' (fun i hi => by
   by_cases hik : i = k
   ·subst hik; exact hr hs'
   ·exact SCF.ext ht (fun j hj => hap j (by omega)) (hg i (by omega))) hn
  exact ⟨L', by omega, fun i hi => h3 i (by omega), h4⟩
def finCF (efs : List Nat) (lo : Nat) (X : Nat → Prop) (s : List Value) : Nat → List Asr → List Asr
 | _, [] => []
 | j, q :: L => (match efs.idxOf? j with | some k => isV (s.getD k undef) | none => AwS lo X q) :: finCF efs lo X s (j + 1) L
theorem atI_finCF {X : Nat → Prop} : ∀ (L : List Asr) (j i : Nat), i < L.length → atI (finCF efs lo X s j L) i = (match efs.idxOf? (i + j) with | some k => isV (s.getD k undef) | none => AwS lo X (atI L i))
 | [], j, i, h => by simp at h
 | q :: L, j, 0, h => by rw [Nat.zero_add]; rfl
 | q :: L, j, i + 1, h => by
  show atI (finCF efs lo X s (j + 1) L) i = _
  rw [atI_finCF L (j + 1) i (by simpa using h), show i + 1 + j = i + (j + 1) by omega]
  rfl
theorem regCF {id k : Nat} {ds : List Nat} (hm : P.follows .mixedOrders = true) (hlo : lo = W.heap.size) (hS : St w0 O (Gs []) K W) (hk : Nat.blt k os.length = true) (htl : tailT os.toArray k = true) (ht : tidyR os.toArray n = true) (hef : efs.all (fun a => Nat.blt a k) = true) (hnd : efs.Nodup)
  (hdst : (List.range k).all (fun j => ((os.toArray[j]?).bind (·.dst)).isSome) = true) (hds : (os.drop k).all (fun o => match o.dst with | some d => ds.contains d | none => true) = true)
  (h : BLCF P n os.toArray (os.take k).toArray Q l w0 K lo O Gs efs (fun Lr => ∀ (s : List Value) (W' : World) (Ks : List (Nat × World)), s.length = efs.length → W.heap.size ≤ W'.heap.size → (∀ q ∈ Ks, lo ≤ q.1) → St w0 O (Gs s) (Ks ++ K) W' →
   (∀ {O2 G2 K2 W2}, St w0 O2 G2 K2 W2 → (∀ q ∈ Ks, q ∈ K2) → SameX lo (XB O (Gs s)) W' W2) →
   FinI (os.take k) (finCF efs lo (XB O (Gs s)) s 0 Lr.reverse) (dropF ds l) (fun l' W' => OpsF P n os.toArray Q (os.drop k) l' W') W') k [] 0) : CodeF P n (.region id os.toArray true) Q l W := by
 obtain ⟨Lr, h1, h2, hfin⟩ := blc_runF ht k 0 [] rfl (fun j _ => by rfl) (fun i hi => by omega) h
 rw [Nat.zero_add] at h1 h2
 have hk' : k < os.length := Nat.lt_of_lt_of_le (Nat.lt_succ_self _) (Nat.le_of_ble_eq_true hk)
 have hef' : ∀ a ∈ efs, a < k := fun a ha => Nat.lt_of_lt_of_le (Nat.lt_succ_self _) (Nat.le_of_ble_eq_true (List.all_eq_true.1 hef a ha))
 intro a ha
 have hrep : ∀ (m j : Nat), (Array.replicate m false).getD j false = false := fun m j => by
  rw [Array.getD_eq_getD_getElem?, Array.getElem?_replicate]; split <;> rfl
 refine wp_region_any hm (region_ghostF (fr := freeT (os.take k).toArray) (t0 := a.tmps) (d0 := a.defers) (V := VCF efs) (I := ICF efs lo O Gs Lr.reverse) (G := GCF w0 K lo O Gs) (k := k) (fun i d hik hd => ?_) (by simpa using hk') htl (by rw [ha.size]; exact ht) (fun i hi => (h2 i hi).step a ha) ?_ _ [] _ _ _ (by simp) (count_rep _) (fun j hj => by rw [hrep] at hj; cases hj) (fun i _ => hrep _ _) ⟨rfl, rfl, fun _ _ => rfl, ⟨hS.drew, by rw [hlo]; exact Nat.le_refl _⟩, ⟨Nat.zero_le _, fun k' e he => ⟨fun h3 => (by rw [hrep] at h3; cases h3), fun h3 => absurd h3 (Nat.not_lt_zero _)⟩⟩, fun i d _ hj => (by rw [hrep] at hj; cases hj)⟩)
 ·have hd2 : (os[i]?).bind (·.dst) = some d := by simpa using hd
  obtain ⟨o, ho, hod⟩ := Option.bind_eq_some_iff.1 hd2
  have hm2 : o ∈ os.take k := List.mem_of_getElem? (i := i) (by rw [List.getElem?_take, if_pos hik]; exact ho)
  cases hf : freeT (os.take k).toArray d with
  | false => rfl
  | true =>
   unfold freeT at hf
   have := Array.all_eq_true'.1 hf o (by simpa using hm2)
   rw [hod] at this
   simp at this
 intro s LB a' W' hR hdone hnot
 obtain ⟨hG, hG2⟩ := hR.glob
 obtain ⟨v1, v2⟩ := hR.cons
 have hlen : s.length = efs.length := by
  rcases Nat.lt_or_ge s.length efs.length with h3 | h3
  ·have h4 := (v2 s.length efs[s.length] (by simp)).1 (hdone _ (hef' _ (List.getElem_mem h3)))
   omega
  ·omega
 obtain ⟨Ks, c1, ⟨qw, c2, c3⟩, c4⟩ := cuts ((O.map (·.1)) ++ (Gs s).filterMap (fun g => g.v.ownBlock)) lo W'
 have hG4 := hG.more Ks (fun q hq => ⟨(c1 q hq).2.1, fun p hp => (c1 q hq).2.2 p.1 (List.mem_append_left _ (List.mem_map.2 ⟨p, hp, rfl⟩)), fun g hg b hb => (c1 q hq).2.2 b (List.mem_append_right _ (List.mem_filterMap.2 ⟨g, hg, hb⟩))⟩)
 have hcov : ∀ {O2 G2 K2 W2}, St w0 O2 G2 K2 W2 → (∀ q ∈ Ks, q ∈ K2) → SameX lo (XB O (Gs s)) W' W2 := fun {O2 G2 K2 W2} h2 hq => by
  refine ⟨⟨h2.below.os.trans hG.below.os.symm, h2.below.tape.trans hG.below.tape.symm, h2.below.output.trans hG.below.output.symm⟩, ?_, fun b b1 b2 b3 => ?_⟩
  ·have := (h2.kept qw (hq qw c2)).1.1; rw [c3] at this; exact this
  ·obtain ⟨q, q1, q2, q3⟩ := c4 b b1 b2 (fun hb => b3 (by
    rcases List.mem_append.1 hb with hb | hb
    ·obtain ⟨p, hp, rfl⟩ := List.mem_map.1 hb
     exact .inl ⟨p, hp, rfl⟩
    ·obtain ⟨g, hg, e⟩ := List.mem_filterMap.1 hb
     exact .inr ⟨g, hg, e⟩))
   exact ((h2.kept q (hq q q1)).1.2 b q2 q3).trans ((c1 q q1).2.1.2 b q2 q3).symm
 have htk : (os.take k).length = k := by simp; omega
 refine fin_hasS (os.take k) (finCF efs lo (XB O (Gs s)) s 0 Lr.reverse) (dropF ds l) (fun i d hi hd' => ?_) (fun i hi hd' => ?_) (hR.size.trans ha.size) (hR.defers.trans ha.defers) ?_ (fun l' h ha' => ?_) (hfin s W' Ks hlen (by rw [← hlo]; exact hG2) (fun q hq => (c1 q hq).1) hG4 hcov)
 ·have hik : i < k := by omega
  have hd2 : (os.toArray[i]?).bind (·.dst) = some d := by rw [List.getElem?_take, if_pos hik] at hd'; simpa using hd'
  obtain ⟨i1, i2⟩ := hR.done i d hd2 (hdone i hik)
  rw [atI_finCF Lr.reverse 0 i (by simp; omega), Nat.add_zero]
  cases hc1 : efs.idxOf? i with
  | some k' =>
   have he : efs[k']? = some i := by
    have := List.findIdx?_eq_some_iff_getElem.1 hc1
    obtain ⟨h3, h4, _⟩ := this
    rw [List.getElem?_eq_getElem h3]
    simpa using h4
   show _ = _
   have h5 := i1 k' he
   simp [List.getD, h5]
  | none =>
   have hni : i ∉ efs := fun hm' => by
    have := List.findIdx?_eq_none_iff.1 hc1 i hm'
    simp at this
   exact i2 hni
 ·have hik : i < k := by omega
  have h3 := List.all_eq_true.1 hdst i (List.mem_range.2 hik)
  have hd2 : (os.toArray[i]?).bind (·.dst) = none := by rw [List.getElem?_take, if_pos hik] at hd'; simpa using hd'
  rw [hd2] at h3; cases h3
 ·intro t v hv hno
  have hl := look_dropF hv (look_dropF_not hv)
  rw [hR.frame t ?_]
  ·exact ha.at_ t v hl
  ·unfold freeT; rw [Array.all_eq_true']; intro o' ho'
   have ho2 : o' ∈ os.take k := by simpa using ho'
   simpa using hno o' ho2
 ·have := h a' ha'
  simpa using this
end
end Go.Proofs.Ythepjghlipdcoaa
namespace Go.Proofs.Ythepjghlipdcoaa
open Go Go.RowKit
def CV.pl (c : CV) : Int × List Int := (c.p, c.ws)
end Go.Proofs.Ythepjghlipdcoaa
namespace Go.Proofs.Ythepjghlipdcoaa
open Go Go.RowKit
theorem bs_47_1 (v00 : Value) (v01 : Value) : Instr.fill (fun i => some (i * 2, 2)) ((Array.range (1 * 2)).map ((Value.cells (.agg #[.int .i64 0, .slice none 0 0]))[· % (Value.cells (.agg #[.int .i64 0, .slice none 0 0])).size]!)) [(0, .agg #[v00, v01])] = some (List.toArray [v00, v01]) := by kernel_rfl
theorem inf_44 : Try.prog.info? 44 = some Try.t44 := by kernel_rfl
def nextF (p : Int) (ws : List Int) : List RV → Nat → Option (List (Int × Int × List Int))
 | [], _ => some []
 | r :: rs, i => if appB r p ws = true then (if 4096 < r.wl + (ws.length - 1) then none else (nextF p ws rs (i + 1)).map (((i : Int), r.q, r.ws ++ ws.tail) :: ·)) else nextF p ws rs (i + 1)
def two9 (c : CV) : List Value := [.int .i64 c.p, .slice c.wa c.wl c.wc]
def CHeld (lo : Nat) (W : World) (c : CV) : Prop := RowN lo W c.wa c.wc c.ws ∧ c.wl = c.ws.length
theorem cret_givesN {P : Program} {f : FuncId} {vs : Array Value} {w : World} {p : Int} {xs : List Int} {lo : Nat} (hlo : lo ≤ w.heap.size) (h : Calls P f vs w (CRet p xs w)) : Calls P f vs w (GivesN (isConfN lo p xs) w) := h.mono fun e w2 ⟨a, c, he, hn, hb⟩ => ⟨_, he, fun w3 hg => ⟨a, c, rfl, (hn.agree hg).mono hlo⟩, hb⟩
def NextRet (R : Option (List (Int × Int × List Int))) (w : World) (e : Ending) (w' : World) : Prop := Below w.heap.size w w' ∧ match R with
 | none => e = .returned (.tuple #[.slice none 0 0, .slice none 0 0, .int .i64 2])
 | some l => ∃ (v8 v9 : Value) (cs : List CV), e = .returned (.tuple #[v8, v9, .int .i64 0]) ∧ w'.ownsRow w.heap.size 3 1 v8 l.length ((l.map (·.1)).map (Value.int .i64)) ∧ w'.ownsRow w.heap.size 44 2 v9 cs.length (cs.flatMap two9) ∧ cs.map CV.pl = l.map (·.2) ∧ ∀ c ∈ cs, CHeld w.heap.size w' c
theorem nextRet_none {w w' : World} (hb : Below w.heap.size w w') : NextRet none w (.returned (.tuple #[.slice none 0 0, .slice none 0 0, .int .i64 2])) w' := ⟨hb, rfl⟩
theorem next_step9 {p : Int} {ws t : List Int} {y : Int} {r : RV} {rs : List RV} {i : Nat} {acc : List (Int × Int × List Int)} {R : Option (List (Int × Int × List Int))} (h : (nextF p ws (r :: rs) i).map (acc ++ ·) = R) (ha : appB r p ws = true) (hy : ws = y :: t) (hl : ¬ 4096 < r.wl + (ws.length - 1)) : (nextF p ws rs (i + 1)).map ((acc ++ [((i : Int), r.q, r.ws ++ t)]) ++ ·) = R := by
 rw [← h]
 simp only [nextF]
 rw [if_pos ha, if_neg hl, hy]
 cases nextF p (y :: t) rs (i + 1) <;> simp
theorem nextR_c (ds d : Nat) (s : SV) (st sy : Int) (ra : Option Addr) (rl rc : Nat) (rs : List RV) (p : Int) (wa : Option Addr) (wl wc : Nat) (ws : List Int) (w : World) (hs : SIn w ds s) (hprow : RRow w ra rs) (hplen : rs.length = rl) (hin : ∀ r ∈ rs, RIn w d r) (hrow : Row w wa ws) (hlen : ws.length = wl) (hcap : wl ≤ wc) (hchk : stepE ⟨s, st, sy, ra, rl, rc, rs⟩ ⟨p, wa, wl, wc, ws⟩ = 0) (hrm : rl ≤ 16384) (h4 : ∀ r ∈ rs, r.wl ≤ 4096) (hw4 : wl ≤ 4096) :
  Calls Try.prog 9 #[.agg #[.int .i64 s.f.tag, .int .i64 s.f.dim, .slice s.f.a s.f.len s.f.cap, .int .i64 st, .int .i64 sy, .slice ra rl rc], .agg #[.int .i64 p, .slice wa wl wc]] w (NextRet (nextF p ws rs 0) w) := by
 refine enterF (args := [.agg #[.int .i64 s.f.tag, .int .i64 s.f.dim, .slice s.f.a s.f.len s.f.cap, .int .i64 st, .int .i64 sy, .slice ra rl rc], .agg #[.int .i64 p, .slice wa wl wc]]) Try.func9 rfl Try.ntmps9 rfl ?_
 have hS := St.start w
 refine seqF (regF ?_)
 refine op_box (cs := [_, _, _, _, _, _]) hS rfl rfl rfl ?_
 clear hS; intro B1 W1 hS
 refine op_box (cs := [_, _]) hS rfl rfl rfl ?_
 clear hS; intro B2 W2 hS
 refine op_assign rfl rfl ?_
 refine op_assign rfl rfl ?_
 refine op_assign rfl rfl ?_
 refine endF (XF.thenN ?_)
 refine seqF (regF ?_)
 refine op_loadA (vs := [_, _, _, _, _, _]) Try.isAgg38 Try.sizeOf38 rfl (CellsAt.own (j := 0) (m := 6) (hS.at_ 1 rfl) rfl) rfl ?_
 refine op_loadA (vs := [_, _]) Try.isAgg44 Try.sizeOf44 rfl (CellsAt.own (j := 0) (m := 2) (hS.at_ 0 rfl) rfl) rfl ?_
 refine op_call (vs := [_, _]) hS goes_17 rfl (stepR_is ds d ⟨s, st, sy, ra, rl, rc, rs⟩ ⟨p, wa, wl, wc, ws⟩ _ (PvIn.below ⟨hs, hprow, hplen, hin⟩ hS.below) (CIn.below ⟨hrow, hlen⟩ hS.below)) rfl ?_
 rintro e W3 ⟨rfl, hb⟩
 refine ⟨_, rfl, hb, fun hS' => ?_⟩
 clear hS; have hS := hS'; clear hS' hb
 refine op_assign rfl rfl ?_
 refine endF (XF.thenN ?_)
 refine seqF ?_
 refine seqF (regF ?_)
 refine op_move rfl rfl ?_
 refine op_neq rfl rfl rfl ?_
 refine endF (XF.thenN ?_)
 refine condF rfl (fun hc => absurd (of_decide_eq_true hc) (by exact fun h => h hchk)) (fun hc => ?_)
 have hc := of_decide_eq_false hc
 refine skipF ?_
 refine XF.thenN ?_
 refine seqF (regF ?_)
 refine op_assign rfl rfl ?_
 refine endF (XF.thenN ?_)
 refine seqF (regF ?_)
 refine op_assign rfl rfl ?_
 refine endF (XF.thenN ?_)
 refine seqF ?_
 refine seqF ?_
 have hS := (hS.newG 44 2).newG 3 1
 refine regF ?_
 refine op_assign rfl rfl ?_
 refine endF (XF.thenN ?_)
 refine blockF ?_
 refine loopF (fun m l W => ∃ (i : Nat) (v8 v9 : Value) (acc : List (Int × Int × List Int)) (cs : List CV) (Kk : List (Nat × World)), i ≤ rl ∧ m = rl - i ∧ l = [(2, .pointer (some ⟨B1, 0, none⟩)), (3, .pointer (some ⟨B2, 0, none⟩)), (8, v8), (9, v9), (10, .int .i64 (i : Int))] ∧ (nextF p ws (rs.drop i) i).map (acc ++ ·) = nextF p ws rs 0 ∧ acc.length ≤ i ∧ cs.map CV.pl = acc.map (·.2) ∧ Held w Kk (fun W2 => ∀ c ∈ cs, CHeld w.heap.size W2 c) ∧ St w [(B2, [.int .i64 p, .slice wa wl wc], 44), (B1, [.int .i64 s.f.tag, .int .i64 s.f.dim, .slice s.f.a s.f.len s.f.cap, .int .i64 st, .int .i64 sy, .slice ra rl rc], 38)] [⟨v8, acc.length, (acc.map (·.1)).map (Value.int .i64), 3, 1⟩, ⟨v9, cs.length, cs.flatMap two9, 44, 2⟩] Kk W) (rl - 0) ([(2, _), (3, _), (8, _), (9, _), (10, _)]) ⟨rfl, rfl, rfl, rfl, rfl, trivial⟩ (⟨0, _, _, [], [], [], Nat.zero_le _, rfl, rfl, by rw [List.drop_zero]; cases nextF p ws rs 0 <;> rfl, Nat.le_refl _, rfl, (fun _ _ c hc => by cases hc), hS.clear⟩) ?_
 clear hS
 rintro m l W ⟨i, v8, v9, acc, cs, Kk, hi, rfl, rfl, hrun, hacc, hcs9, hX, hS⟩
 refine seqF ?_
 refine seqF (regF ?_)
 refine op_move rfl rfl ?_
 refine op_field (o' := 5) fa_38_3 rfl rfl rfl ?_
 refine op_load Try.isAgg36 rfl (cell_own (hS.at_ 1 rfl) rfl) rfl ?_
 refine op_len Try.underlying36 rfl rfl ?_
 refine op_lss rfl rfl rfl ?_
 refine endF (XF.thenN ?_)
 refine condF rfl (fun hc => ?_) (fun hc => ?_)
 ·have hc22 := of_decide_eq_true hc; clear hc
  have hk : i < rl := by omega
  obtain ⟨r, hr⟩ : ∃ r, rs[i]? = some r := ⟨rs[i]'(by omega), by simp [show i < rs.length by omega]⟩
  obtain ⟨b, off, rfl, hcs⟩ := hprow.at_ hr
  have k1 := CellsAt.agree hS.agree (Nat.zero_le _) hcs
  have hri := hin r (List.mem_of_getElem? hr)
  have hr4 := h4 r (List.mem_of_getElem? hr)
  have hcl : cs.length = acc.length := by have := congrArg List.length hcs9; simpa using this
  rw [drop_at9 hr] at hrun
  refine skipF ?_
  refine XF.thenN ?_
  refine seqF ?_
  refine blockF ?_
  refine seqF ?_
  refine seqF ?_
  refine regB (m := 8) followsM hS (by kernel_rfl) (by kernel_rfl) rfl ?_
  refine bl_cons 1 rfl (isV _) (stab_isV _) (rgV (li := [(2, _)]) rfl (w_free rfl) ⟨g_fr (by kernel_rfl) rfl, trivial⟩ (fun w hw => rn_field (o' := 5) fa_38_3 rfl rfl) (at_top rfl)) ?_
  refine bl_cons 2 rfl (isV _) (stab_isV _) (rgV (li := [(25, _)]) rfl (w_free rfl) ⟨g_dep 0 (by kernel_rfl) (at_dep rfl rfl rfl), trivial⟩ (fun w hw => rn_load Try.isAgg36 rfl ((below_agree hw 0).cell (Nat.zero_le _) (cell_own (hS.at_ 1 rfl) rfl))) (at_top rfl)) ?_
  refine bl_cons 3 rfl (isV _) (stab_isV _) (rgV (li := [(10, _)]) rfl (w_free rfl) ⟨g_fr (by kernel_rfl) rfl, trivial⟩ (fun w hw => rn_move rfl) (at_top rfl)) ?_
  refine bl_cons 4 rfl (isV _) (stab_isV _) (rgV (li := [(26, _), (27, _)]) rfl (w_free rfl) ⟨g_dep 1 (by kernel_rfl) (at_dep rfl rfl rfl), g_dep 2 (by kernel_rfl) (at_dep rfl rfl rfl), trivial⟩ (fun w hw => rn_indexA  Try.underlying36 Try.sizeOf69 rfl rfl rfl (by omega) rfl) (at_top rfl)) ?_
  refine bl_cons 5 rfl (isV _) (stab_isV _) (rgV (li := [(28, _)]) rfl (w_free rfl) ⟨g_dep 3 (by kernel_rfl) (at_dep rfl rfl rfl), trivial⟩ (fun w hw => rn_loadA (vs := [_, _, _, _, _, _, _, _, _, _]) Try.isAgg69 Try.sizeOf69 rfl (CellsAt.agree (below_agree hw 0) (Nat.zero_le _) (by assumption))) (at_top rfl)) ?_
  refine bl_cons 6 rfl (isV _) (stab_isV _) (rgV (li := [(3, _)]) rfl (w_free rfl) ⟨g_fr (by kernel_rfl) rfl, trivial⟩ (fun w hw => rn_loadA (vs := [_, _]) Try.isAgg44 Try.sizeOf44 rfl (CellsAt.agree (below_agree hw 0) (Nat.zero_le _) (CellsAt.own (j := 0) (m := 2) (hS.at_ 0 rfl) rfl))) (at_top rfl)) ?_
  refine bl_cons 7 rfl (isV (.bool (appB r p ws))) (stab_isV _) (rg_call [isV _, isV _] rfl goes_18 (w_free rfl) ⟨p_tmp (g_dep 4 (by kernel_rfl) (at_dep rfl rfl rfl)), p_tmp (g_dep 5 (by kernel_rfl) (at_dep rfl rfl rfl)), trivial⟩ (fun vs w' hb hh => by have e := holds_isV (us := [_, _]) hh; subst e; exact (applies_c r p _ _ _ ws _ (hrow.below (hS.below.trans (hb.mono hS.below.size))) hlen).mono fun e w2 h => ⟨_, h.1, rfl, h.2⟩) (at_top rfl)) ?_
  refine bl_cons 8 rfl (isV _) (stab_isV _) (rgV (li := [(31, _)]) rfl (w_free rfl) ⟨g_dep 6 (by kernel_rfl) (at_dep rfl rfl rfl), trivial⟩ (fun w hw => rn_not rfl) (at_top rfl)) ?_
  refine bl_nil ?_
  intro W4 hbR hS'
  clear hS; have hS := hS'; clear hS'
  refine fin_v ?_
  refine fin_v ?_
  refine fin_v ?_
  refine fin_v ?_
  refine fin_v ?_
  refine fin_v ?_
  refine fin_v ?_
  refine fin_v ?_
  refine fin_nil ?_
  refine XF.thenN ?_
  refine condF rfl (fun hc => ?_) (fun hc => ?_)
  ·have hc32 := hc; clear hc
   refine exitF ?_
   refine XF.thenX ?_
   refine XF.blkX ?_
   refine XF.thenN ?_
   refine regF ?_
   refine op_move rfl rfl ?_
   refine op_add rfl rfl (IntWalk.i64_in _ (by omega)) rfl ?_
   refine op_assign rfl rfl ?_
   refine endF ?_
   exact XF.round (rl - (i + 1)) [(2, _), (3, _), (8, _), (9, _), (10, _)] (by omega) ⟨rfl, rfl, rfl, rfl, rfl, trivial⟩ ⟨i + 1, v8, v9, acc, cs, _, by omega, rfl, rfl, by rw [← hrun]; simp only [nextF]; rw [if_neg (by simpa using hc32)], by omega, hcs9, hX.more (fun q hq => by simp [hq]), hS⟩
  ·have hc32 := hc; clear hc
   have happ : appB r p ws = true := by simpa using hc32
   obtain ⟨y, t, hyt⟩ : ∃ y t, ws = y :: t := by
    cases ws with
    | nil => simp [appB] at happ
    | cons y t => exact ⟨y, t, rfl⟩
   have hlt : wl = t.length + 1 := by rw [← hlen, hyt]; rfl
   have hl2 : (r.ws ++ t).length = r.wl + t.length := by rw [List.length_append, hri.len]
   refine skipF ?_
   refine XF.thenN ?_
   refine seqF ?_
   have hsz10 := hS.below.size
   refine regS (ef := 9) (jy := 9) (ca := caNo (fun _ => [.int .i64 0, .slice none 0 0])) (ta := fun _ => 44) (Os := osNo _) (Gs := gsNo _) (al := [7]) (k := 8) (ds := []) followsM rfl hS rfl (by kernel_rfl) (by kernel_rfl) rfl (by decide) rfl (fun _ => none) (.inr ⟨rfl, rfl, rfl⟩) rfl rfl ?_
   refine bls_cons 1 rfl rfl (isV _) (fun hNo => sgV [(2, _)] rfl rfl rfl rfl hNo (w_free rfl) ⟨g_fr (by kernel_rfl) rfl, trivial⟩ (fun ev w he hw => rn_field (o' := 5) fa_38_3 rfl rfl) (at_top rfl)) ?_
   refine bls_cons 2 rfl rfl (isV _) (fun hNo => sgV [(33, _)] rfl rfl rfl rfl hNo (w_free rfl) ⟨g_dep 0 (by kernel_rfl) (at_dep rfl rfl rfl), trivial⟩ (fun ev w he hw => rn_load Try.isAgg36 rfl ((cell_own (hw.at_ 1 rfl) rfl))) (at_top rfl)) ?_
   refine bls_cons 3 rfl rfl (isV _) (fun hNo => sgV [(10, _)] rfl rfl rfl rfl hNo (w_free rfl) ⟨g_fr (by kernel_rfl) rfl, trivial⟩ (fun ev w he hw => rn_move rfl) (at_top rfl)) ?_
   refine bls_cons 4 rfl rfl (isV _) (fun hNo => sgV [(34, _), (35, _)] rfl rfl rfl rfl hNo (w_free rfl) ⟨g_dep 1 (by kernel_rfl) (at_dep rfl rfl rfl), g_dep 2 (by kernel_rfl) (at_dep rfl rfl rfl), trivial⟩ (fun ev w he hw => rn_indexA  Try.underlying36 Try.sizeOf69 rfl rfl rfl (by omega) rfl) (at_top rfl)) ?_
   refine bls_cons 5 rfl rfl (isV _) (fun hNo => sgV [(36, _)] rfl rfl rfl rfl hNo (w_free rfl) ⟨g_dep 3 (by kernel_rfl) (at_dep rfl rfl rfl), trivial⟩ (fun ev w he hw => rn_loadA (vs := [_, _, _, _, _, _, _, _, _, _]) Try.isAgg69 Try.sizeOf69 rfl (CellsAt.agree hw.agree (Nat.zero_le _) (hcs))) (at_top rfl)) ?_
   refine bls_cons 6 rfl rfl (isV _) (fun hNo => sgV [(3, _)] rfl rfl rfl rfl hNo (w_free rfl) ⟨g_fr (by kernel_rfl) rfl, trivial⟩ (fun ev w he hw => rn_loadA (vs := [_, _]) Try.isAgg44 Try.sizeOf44 rfl ((CellsAt.own (j := 0) (m := 2) (hw.at_ 0 rfl) rfl))) (at_top rfl)) ?_
   refine bls_cons 7 rfl rfl (isConfN W4.heap.size r.q (r.ws ++ t)) (fun hNo => sg_call [isV _, isV _] rfl rfl rfl rfl hNo goes_19 (w_free rfl) ⟨p_tmp (g_dep 4 (by kernel_rfl) (at_dep rfl rfl rfl)), p_tmp (g_dep 5 (by kernel_rfl) (at_dep rfl rfl rfl)), trivial⟩ (fun vs ev w' he hSt hlo hh => by have e := holds_isV (us := [_, _]) hh; subst e; exact cret_givesN hlo (by_c r p y _ _ _ t w' (hri.row.below hSt.below) hri.len (by rw [← hyt]; exact hrow.below hSt.below) (by rw [← hyt]; exact hlen) hcap (by omega) (by omega))) (at_top rfl)) ?_
   refine bls_any 8 rfl (sg_alloc rfl rfl rfl rfl rfl Try.zeroValue44 (fun ev he => rfl)) ?_
   refine bls_nil ?_
   intro Bf5 y5 W5 Ks5 hsz5 hKs5 hS' hcov5
   clear hS; have hS := hS'.castO (O' := [_, _, _]) rfl; clear hS'
   refine castL (L' := [AwS _ _ (isV _), AwS _ _ (isV _), AwS _ _ (isV _), AwS _ _ (isV _), AwS _ _ (isV _), AwS _ _ (isV _), AwS _ _ (isConfN W4.heap.size r.q (r.ws ++ t)), isV _]) rfl ?_
   refine fin_sV ?_
   refine fin_sV ?_
   refine fin_sV ?_
   refine fin_sV ?_
   refine fin_sV ?_
   refine fin_sV ?_
   refine fin_p ?_; rintro v hA10; obtain ⟨a2, c2, rfl, hn2⟩ := hA10.here; have hcov10 := @hcov5
   refine fin_v ?_
   refine fin_nil ?_
   refine op_storeA (i := 0) (vs := [_, _]) (cs' := [_, _]) (O' := [_, _, _]) hS Try.sizeOf44 rfl rfl rfl rfl rfl rfl rfl ?_
   clear hS; intro W6 hS
   refine endF (XF.thenN ?_)
   refine seqF ?_
   refine seqF (regF ?_)
   refine op_loadA (vs := [_, _]) Try.isAgg44 Try.sizeOf44 rfl (CellsAt.own (j := 0) (m := 2) (hS.at_ 0 rfl) rfl) rfl ?_
   refine op_call (vs := [_]) hS goes_20 rfl (long_is ⟨r.q, a2, (r.ws ++ t).length, c2, r.ws ++ t⟩ _) rfl ?_
   rintro e W7 ⟨rfl, hb⟩
   refine ⟨_, rfl, hb, fun hS' => ?_⟩
   clear hS; have hS := hS'; clear hS' hb
   refine endF (XF.thenN ?_)
   refine condF rfl (fun hc => ?_) (fun hc => ?_)
   ·have hc41 := hc; clear hc
    refine seqF (regF ?_)
    refine op_assign rfl rfl ?_
    refine op_assign rfl rfl ?_
    refine op_assign rfl rfl ?_
    refine endF (XF.thenN ?_)
    refine retF ?_
    refine XF.thenR ?_
    refine XF.blkR ?_
    refine XF.thenR ?_
    refine XF.thenR ?_
    refine XF.blkR ?_
    refine XF.thenR ?_
    refine XF.res (res3 Try.results9 rfl rfl rfl) ?_
    have hlo2 : 4096 < (r.ws ++ t).length := of_decide_eq_true hc41
    rw [← hrun]
    simp only [nextF]
    rw [if_pos happ, if_pos (by omega)]
    exact nextRet_none hS.below
   ·have hc41 := hc; clear hc
    have hlo2 : ¬ 4096 < (r.ws ++ t).length := of_decide_eq_false hc41
    refine skipF ?_
    refine XF.thenN ?_
    refine regCF (Gs := gsC _ [(0, fun v => ⟨v, acc.length + 1, (acc.map (·.1)).map (Value.int .i64) ++ [.int .i64 (i : Int)], 3, 1⟩)]) (efs := [3]) (k := 7) (ds := [8, 9, 49]) followsM rfl hS rfl (by kernel_rfl) (by kernel_rfl) rfl (by decide) rfl rfl ?_
    refine blc_consF 1 rfl rfl (isV _) (fun hNo => scVF fst_take [(8, _)] rfl rfl hNo (w_free rfl) ⟨g_fr (by kernel_rfl) rfl, trivial⟩ (fun s w hw => rn_move rfl) (at_top rfl)) ?_
    refine blc_consF 2 rfl rfl (isV _) (fun hNo => scVF fst_take [(10, _)] rfl rfl hNo (w_free rfl) ⟨g_fr (by kernel_rfl) rfl, trivial⟩ (fun s w hw => rn_move rfl) (at_top rfl)) ?_
    refine blc_consF 3 rfl rfl (isRow W7.heap.size 1 3 _) (fun hNo => sc_rowVF fst_take (us := [.int .i64 _]) rfl rfl hNo (w_free rfl) Try.underlying23 Try.sizeOf3 Try.zeroValue3 rfl rfl ⟨p_tmp (g_dep 1 (by kernel_rfl) (at_dep rfl rfl rfl)), trivial⟩ (bs_23_1 _) (at_top rfl)) ?_
    refine blc_anyF 4 rfl (sc_appF (efs := [3]) (jy := 2) (m := 1) fst_take 0 0 [(42, _)] rfl rfl (by decide) rfl (fun j hj => by simp at hj; subst hj; rfl) Try.underlying23 inf_3 rfl rfl (by show 0 < 1; decide) (hg0 rfl) (hgs0 (fun _ => rfl)) ⟨g_dep 0 (by kernel_rfl) (at_dep rfl rfl rfl), trivial⟩ rfl (by kernel_rfl) rfl rfl rfl rfl (by simp only [maxLen]; omega) (by show (acc.length + 1) * 8 ≤ _; omega)) ?_
    refine blc_consF 5 rfl rfl (isV _) (fun hNo => scVF fst_take [(9, _)] rfl rfl hNo (w_free rfl) ⟨g_fr (by kernel_rfl) rfl, trivial⟩ (fun s w hw => rn_move rfl) (at_top rfl)) ?_
    refine blc_consF 6 rfl rfl (isV _) (fun hNo => scVF fst_take [(11, _)] rfl rfl hNo (w_free rfl) ⟨g_fr (by kernel_rfl) rfl, trivial⟩ (fun s w hw => rn_loadA (vs := [_, _]) Try.isAgg44 Try.sizeOf44 rfl ((CellsAt.own (j := 0) (m := 2) (hw.at_ 0 rfl) rfl))) (at_top rfl)) ?_
    refine blc_consF 7 rfl rfl (isRow W7.heap.size 1 44 _) (fun hNo => sc_rowVF fst_take (us := [.agg (List.toArray [_, _])]) rfl rfl hNo (w_free rfl) Try.underlying47 Try.sizeOf44 Try.zeroValue44 rfl rfl ⟨p_tmp (g_dep 5 (by kernel_rfl) (at_dep rfl rfl rfl)), trivial⟩ (bs_47_1 _ _) (at_top rfl)) ?_
    refine blc_nilF ?_
    intro s8 W8 Ks8 hlen8 hsz8 hKs8 hS' hcov8
    obtain ⟨v8_3, rfl⟩ := List.length_eq_one_iff.1 hlen8
    clear hS; have hS := hS'.castG (G' := [_, _]) rfl; clear hS'
    refine castL (L' := [AwS _ _ (isV _), AwS _ _ (isV _), AwS _ _ (isRow W7.heap.size 1 3 _), isV _, AwS _ _ (isV _), AwS _ _ (isV _), AwS _ _ (isRow W7.heap.size 1 44 _)]) rfl ?_
    refine fin_sV ?_
    refine fin_sV ?_
    refine fin_p ?_; rintro _ hA8_2; obtain ⟨BR2, rfl, hlo2, hrow2⟩ := hA8_2.here
    refine fin_v ?_
    refine fin_sV ?_
    refine fin_sV ?_
    refine fin_p ?_; rintro _ hA8_6; obtain ⟨BR6, rfl, hlo6, hrow6⟩ := hA8_6.here
    refine fin_nil ?_
    refine op_appendV (i := 1) (news := [.int .i64 r.q, .slice a2 (r.ws ++ t).length c2]) hS Try.underlying47 inf_44 rfl rfl (by show 0 < 2; decide) rfl rfl rfl rfl rfl (rowSrc hrow6) (rfl) (fun u hu => by simp at hu; rcases hu with rfl | rfl <;> rfl) (by dsimp only; simp only [maxLen]; omega) (by dsimp only; show (cs.length + 1) * 32 ≤ _; omega) rfl ?_
    clear hS; intro v9 W9 hS
    refine op_assign rfl rfl ?_
    refine op_assign rfl rfl ?_
    refine endF ?_
    refine XF.blkN ?_
    refine XF.thenN ?_
    refine regF ?_
    refine op_move rfl rfl ?_
    refine op_add rfl rfl (IntWalk.i64_in _ (by omega)) rfl ?_
    refine op_assign rfl rfl ?_
    refine endF ?_
    exact XF.round (rl - (i + 1)) [(2, _), (3, _), (8, _), (9, _), (10, _)] (by omega) ⟨rfl, rfl, rfl, rfl, rfl, trivial⟩ ⟨i + 1, _, _, acc ++ [((i : Int), r.q, r.ws ++ t)], cs ++ [⟨r.q, a2, (r.ws ++ t).length, c2, r.ws ++ t⟩], _, by omega, rfl, rfl, next_step9 hrun happ hyt (by omega), by simp; omega, by simp [hcs9, CV.pl], (fun h2 hk c hc => by
      rcases List.mem_append.1 hc with hc | hc
      ·exact hX h2 (fun q hq => hk q (by simp [hq])) c hc
      ·simp at hc; subst hc
       obtain ⟨a3, c3, e3, h3⟩ := hA10 _ (hcov10 h2 (fun q hq => hk q (by simp [hq])))
       simp at e3
       obtain ⟨rfl, rfl⟩ := e3
       exact ⟨h3.mono hsz10, by simp⟩), hS.tail.castG (by simp [two9])⟩
 ·have hc22 := of_decide_eq_false hc; clear hc
  refine exitF ?_
  refine XF.thenX ?_
  refine XF.thenX ?_
  refine XF.blkX ?_
  refine XF.thenN ?_
  refine seqF (regF ?_)
  refine op_move rfl rfl ?_
  refine op_move rfl rfl ?_
  refine op_assign rfl rfl ?_
  refine op_assign rfl rfl ?_
  refine op_assign rfl rfl ?_
  refine endF (XF.thenN ?_)
  refine retF ?_
  refine XF.res (res3 Try.results9 rfl rfl rfl) ?_
  rw [List.drop_of_length_le (by omega)] at hrun
  rw [← hrun]
  exact ⟨hS.below, v8, v9, cs, rfl, by simpa using hS.row 0 rfl, hS.row 1 rfl, by simpa using hcs9, hX.now hS⟩
end Go.Proofs.Ythepjghlipdcoaa
namespace Go.Proofs.Ythepjghlipdcoaa
open Go Go.RowKit
def headsB (g : GV) : Bool :=
 if 64 < g.vl then false else if g.pl < 1 then false else if 1024 < g.pl then false else if g.el ≠ g.pl then false else if g.xl ≠ g.pl then false else if 4096 < g.ol then false else if gr_inQ g.mn g.pl = false then false else if 1024 < g.tl then false else
 if g.os.all (fun y => gr_inQ y g.pl) = false then false else if (List.range g.pl).all (procB g) = false then false else g.ts.all (fun u => gr_inQ u.pr g.pl)
theorem heads_eq (g : GV) : headsB g = (sizedB g && g.ts.all (fun u => gr_inQ u.pr g.pl)) := by
 unfold headsB sizedB
 by_cases h1 : 64 < g.vl
 ·rw [if_pos h1, if_pos h1]; rfl
 rw [if_neg h1, if_neg h1]
 by_cases h2 : g.pl < 1
 ·rw [if_pos h2, if_pos h2]; rfl
 rw [if_neg h2, if_neg h2]
 by_cases h3 : 1024 < g.pl
 ·rw [if_pos h3, if_pos h3]; rfl
 rw [if_neg h3, if_neg h3]
 by_cases h4 : g.el ≠ g.pl
 ·rw [if_pos h4, if_pos h4]; rfl
 rw [if_neg h4, if_neg h4]
 by_cases h5 : g.xl ≠ g.pl
 ·rw [if_pos h5, if_pos h5]; rfl
 rw [if_neg h5, if_neg h5]
 by_cases h6 : 4096 < g.ol
 ·rw [if_pos h6, if_pos h6]; rfl
 rw [if_neg h6, if_neg h6]
 by_cases h7 : gr_inQ g.mn g.pl = false
 ·rw [if_pos h7]
  by_cases h8 : 1024 < g.tl
  ·rw [if_pos h8]; rfl
  ·rw [if_neg h8, if_pos h7]; rfl
 rw [if_neg h7]
 by_cases h8 : 1024 < g.tl
 ·rw [if_pos h8, if_pos h8]; rfl
 rw [if_neg h8, if_neg h8, if_neg h7]
 by_cases h9 : g.os.all (fun y => gr_inQ y g.pl) = false
 ·rw [if_pos h9, if_pos h9]; rfl
 rw [if_neg h9, if_neg h9]
 cases (List.range g.pl).all (procB g) <;> simp
theorem heads_no {g : GV} (h : headsB g = false) : gr_checkE g = 213 := by
 rw [heads_eq, Bool.and_eq_false_iff] at h
 unfold gr_checkE
 rcases h with h | h
 ·rw [if_pos h]
 ·split
  ·rfl
  ·split
   ·rfl
   ·rw [if_pos (by unfold markedB; rw [if_pos h])]
theorem steps_no {g : GV} (h : stepsB g = false) : gr_checkE g = 213 := by
 unfold gr_checkE
 rw [h, if_pos rfl, ite_self]
theorem marked_no {g : GV} (h : markedB g = false) : gr_checkE g = 213 := by
 unfold gr_checkE
 rw [h, if_pos rfl, ite_self, ite_self]
theorem check_yes {g : GV} (h1 : headsB g = true) (h2 : stepsB g = true) (h3 : g.ns.all (fun u => gr_inQ u.nd g.ol) = true) (h4 : g.ks.all (fun u => gr_inQ u.nd g.ol && gr_inQ u.x g.vl) = true) : gr_checkE g = 0 := by
 rw [heads_eq, Bool.and_eq_true] at h1
 unfold gr_checkE
 rw [if_neg (by rw [h1.1]; simp), if_neg (by rw [h2]; simp), if_neg (by unfold markedB; rw [if_neg (by rw [h1.2]; simp), if_neg (by rw [h3]; simp), h4]; simp)]
theorem points_no {g : GV} (h : g.ns.all (fun u => gr_inQ u.nd g.ol) = false) : gr_checkE g = 213 := marked_no (by
 unfold markedB
 rw [h, if_pos rfl, ite_self])
theorem sinks_no {g : GV} (h : g.ks.all (fun u => gr_inQ u.nd g.ol && gr_inQ u.x g.vl) = false) : gr_checkE g = 213 := marked_no (by
 unfold markedB
 rw [h, ite_self, ite_self])
def siteR (ts : List UV) (s : TV) : Bool := gr_inQ s.s ts.length && (match ts[s.s.toNat]? with | some u => decide (u.fr = s.f) && decide (u.bk = s.t) | none => false)
def refK (g : GV) (s : TV) : Bool :=
 if s.k = 1 then decide (s.x = 0) && decide (s.y = 0)
 else if s.k = 2 ∨ s.k = 4 ∨ s.k = 5 ∨ s.k = 6 then gr_inQ s.x g.vl && decide (s.y = 0)
 else if s.k = 3 then gr_inQ s.x g.vl && gr_inQ s.y g.vl
 else if s.k = 8 then decide (s.x = 0) && (decide (s.y = 0) && siteR g.ts s)
 else false
def stepQ (g : GV) (s : TV) : Bool :=
 if gr_inQ s.f g.ol = false then false else if gr_inQ s.t g.ol = false then false else if ofEq g.os s.f s.t = false then false else if s.kk ≠ 0 ∧ s.k ≠ 2 then false else if s.s ≠ 0 ∧ s.k ≠ 8 then false else refK g s
theorem siteC_eq (ts : List UV) (s : TV) (n : Nat) : siteC ts s n = (siteR ts s && decide (s.s = (n : Int))) := by
 by_cases h : s.s = (n : Int)
 ·unfold siteC siteR
  rw [h, decide_eq_true rfl, Bool.true_and, Bool.and_true, Int.toNat_natCast]
  cases hn : ts[n]? with
  | none => rw [Bool.and_false]
  | some u => rw [inQ_of (List.getElem?_eq_some_iff.1 hn).1, Bool.true_and]
 ·unfold siteC
  rw [decide_eq_false h, Bool.false_and, Bool.and_false]
theorem step_eq (g : GV) (s : TV) (n : Nat) : stepK g s n = (stepQ g s && (decide (s.k ≠ 8) || decide (s.s = (n : Int)))) := by
 unfold stepK stepQ
 by_cases h1 : gr_inQ s.f g.ol = false
 ·rw [if_pos h1, if_pos h1]; rfl
 rw [if_neg h1, if_neg h1]
 by_cases h2 : gr_inQ s.t g.ol = false
 ·rw [if_pos h2, if_pos h2]; rfl
 rw [if_neg h2, if_neg h2]
 by_cases h3 : ofEq g.os s.f s.t = false
 ·rw [if_pos h3, if_pos h3]; rfl
 rw [if_neg h3, if_neg h3]
 unfold kindB refK
 by_cases k1 : s.k = 1
 ·by_cases hk : s.kk = 0 <;> by_cases hz : s.s = 0 <;> simp [k1, hk, hz]
 by_cases k8 : s.k = 8
 ·rw [siteC_eq]
  by_cases hk : s.kk = 0 <;> simp [k8, hk, Bool.and_assoc]
 by_cases k2 : s.k = 2
 ·by_cases hz : s.s = 0 <;> simp [k2, hz]
 by_cases k3 : s.k = 3
 ·by_cases hk : s.kk = 0 <;> by_cases hz : s.s = 0 <;> simp [k3, hk, hz]
 by_cases k4 : s.k = 4
 ·by_cases hk : s.kk = 0 <;> by_cases hz : s.s = 0 <;> simp [k4, hk, hz]
 by_cases k5 : s.k = 5
 ·by_cases hk : s.kk = 0 <;> by_cases hz : s.s = 0 <;> simp [k5, hk, hz]
 by_cases k6 : s.k = 6
 ·by_cases hk : s.kk = 0 <;> by_cases hz : s.s = 0 <;> simp [k6, hk, hz]
 simp [k1, k2, k3, k4, k5, k6, k8]
theorem step_cases {os : List Int} {ol : Nat} (hol : os.length = ol) (s : TV) :
  gr_inQ s.f ol = false ∨ (gr_inQ s.f ol = true ∧ gr_inQ s.t ol = false) ∨ (gr_inQ s.f ol = true ∧ gr_inQ s.t ol = true ∧ ∃ kf kt : Nat, ∃ y1 y2 : Int, s.f = (kf : Int) ∧ s.t = (kt : Int) ∧ kf < ol ∧ kt < ol ∧ os[kf]? = some y1 ∧ os[kt]? = some y2 ∧
   (y1 ≠ y2 ∨ (y1 = y2 ∧ s.kk ≠ 0 ∧ s.k ≠ 2) ∨ (y1 = y2 ∧ s.kk = 0 ∧ s.s ≠ 0 ∧ s.k ≠ 8) ∨ (y1 = y2 ∧ s.kk ≠ 0 ∧ s.k = 2 ∧ s.s ≠ 0 ∧ s.k ≠ 8) ∨ (y1 = y2 ∧ s.kk = 0 ∧ s.s = 0) ∨ (y1 = y2 ∧ s.kk = 0 ∧ s.s ≠ 0 ∧ s.k = 8) ∨ (y1 = y2 ∧ s.kk ≠ 0 ∧ s.k = 2 ∧ s.s = 0))) := by
 cases h1 : gr_inQ s.f ol with
 | false => exact .inl rfl
 | true =>
  refine .inr ?_
  cases h2 : gr_inQ s.t ol with
  | false => exact .inl ⟨rfl, rfl⟩
  | true =>
   refine .inr ⟨rfl, rfl, ?_⟩
   obtain ⟨kf, ef, hf⟩ := inQ_nat h1
   obtain ⟨kt, et, ht⟩ := inQ_nat h2
   refine ⟨kf, kt, os[kf], os[kt], ef, et, hf, ht, List.getElem?_eq_getElem (by omega), List.getElem?_eq_getElem (by omega), ?_⟩
   omega
theorem proc_cases {os : List Int} {ol : Nat} (hol : os.length = ol) (n1 n2 : Int) (p : Nat) :
  gr_inQ n1 ol = false ∨ (gr_inQ n1 ol = true ∧ gr_inQ n2 ol = false) ∨ (gr_inQ n1 ol = true ∧ gr_inQ n2 ol = true ∧ ∃ k1 k2 : Nat, ∃ y1 y2 : Int, n1 = (k1 : Int) ∧ n2 = (k2 : Int) ∧ k1 < ol ∧ k2 < ol ∧ os[k1]? = some y1 ∧ os[k2]? = some y2 ∧ (y1 ≠ (p : Int) ∨ y1 = (p : Int))) := by
 cases h1 : gr_inQ n1 ol with
 | false => exact .inl rfl
 | true =>
  refine .inr ?_
  cases h2 : gr_inQ n2 ol with
  | false => exact .inl ⟨rfl, rfl⟩
  | true =>
   refine .inr ⟨rfl, rfl, ?_⟩
   obtain ⟨kf, ef, hf⟩ := inQ_nat h1
   obtain ⟨kt, et, ht⟩ := inQ_nat h2
   exact ⟨kf, kt, os[kf], os[kt], ef, et, hf, ht, List.getElem?_eq_getElem (by omega), List.getElem?_eq_getElem (by omega), by omega⟩
theorem siteR_cases {ts : List UV} {tl : Nat} (htl : ts.length = tl) (s : TV) :
  s.x ≠ 0 ∨ (s.x = 0 ∧ s.y ≠ 0) ∨ (s.x = 0 ∧ s.y = 0 ∧ gr_inQ s.s tl = false) ∨ (s.x = 0 ∧ s.y = 0 ∧ gr_inQ s.s tl = true ∧ ∃ k : Nat, ∃ u, s.s = (k : Int) ∧ k < tl ∧ ts[k]? = some u ∧ (u.fr ≠ s.f ∨ u.fr = s.f)) := by
 by_cases h1 : s.x = 0
 ·by_cases h2 : s.y = 0
  ·cases h3 : gr_inQ s.s tl with
   | false => exact .inr (.inr (.inl ⟨h1, h2, rfl⟩))
   | true =>
    obtain ⟨k, e, hk⟩ := inQ_nat h3
    exact .inr (.inr (.inr ⟨h1, h2, rfl, k, ts[k], e, hk, List.getElem?_eq_getElem (by omega), by omega⟩))
  ·exact .inr (.inl ⟨h1, h2⟩)
 ·exact .inl h1
theorem siteR_out {ts : List UV} {tl : Nat} {s : TV} (htl : ts.length = tl) (h : gr_inQ s.s tl = false) : siteR ts s = false := by
 unfold siteR; rw [htl, h]; rfl
theorem siteR_at {ts : List UV} {tl k : Nat} {s : TV} {u : UV} (htl : ts.length = tl) (e : s.s = (k : Int)) (hk : k < tl) (hu : ts[k]? = some u) : siteR ts s = (decide (u.fr = s.f) && decide (u.bk = s.t)) := by
 unfold siteR; rw [htl, e, inQ_of hk, Int.toNat_natCast, hu]; rfl
end Go.Proofs.Ythepjghlipdcoaa
