import Derived.Orders
import Derived.Below
import Derived.Deep.RegionHeld
import Derived.WalkKit
import Derived.KernelRfl
import Derived.Laws.Rows
import Derived.Laws.AppendOwn
import Derived.Laws.Strings
import Derived.Laws.Small
import Derived.Lib.Hide
import Derived.IntWalk
import Derived.Laws.Tables
import Derived.Laws.Concat
import Derived.Laws.MakeOwn
import Derived.Test.YtfkbkekgnoanaaaDoorProg
import Derived.Test.YtfkbkekgnoanaaaDoorRows
import Derived.Lib.LaidTab
import Derived.Lib.ItoaNum
import Derived.Lib.TrailingZeros
import Derived.Stop.LaidErr
import Derived.WalkSmall
import Derived.LaidMore
import Derived.Shelf.Spec.TrailingZeros
import Derived.Laws.BitsAllLaws
import Derived.Laws.Bits64
import Derived.Deep.QuietTactic
import Derived.BigQuiet
import Derived.RegionTactic
import Derived.BigRegion
import Derived.Deep.RegionHeld3
import Derived.ChangeAlike
import Derived.RangeFuncNested
import Derived.RangeFuncBound
import Derived.RangeFuncCalls
import Derived.RangeFuncLeaves
import Derived.Shelf.Abstract
import Derived.Shelf.RegionOpen
import Derived.OwnWalkIn
import Derived.TacticsInMore
import Derived.LoopNIn
import Derived.LoopIn
import Derived.Laws.Bits128
import Derived.Deep.AppendLies
import Derived.Maps.AppendAt
import Derived.Shelf.Strconv.Itoa0
import Derived.Shelf.Strconv.Itoa1
import Derived.Shelf.LaysM
import Derived.Shelf.Strconv.Itoa2
import Derived.Shelf.Strconv.AppendUint10
import Derived.Shelf.Strconv.AppendInt10
import Derived.Shelf.Strconv.AppendIntPublic10
import Derived.Shelf.Slices.Reverse
import Derived.Shelf.Slices.Equal
import Derived.Ground.Names2Prog
import Derived.Shelf.Slices.Clone
import Derived.Shelf.Slices.Cells
import Derived.Shelf.Slices.Empties2
import Derived.Lib.OthersKept
import Derived.Laws.IdiomStrings
import Derived.StillTailTactics
import Derived.Deep.RegionLaw
import Derived.Deep.DeepCutAuto
import Derived.Deep.CutRange
import Derived.Deep.RegionWith
import Derived.Laws.Bits64b
import Derived.Deep.DrawnRows
import Derived.Lib.SliceRun
import Derived.Laws.OwnMore
import Derived.OwnWalk
import Derived.WalkSpells
import Derived.Lib.Join
import Derived.Test.YtfkbkekgnoanaaaDoorPartsA
import Derived.Test.YtfkbkekgnoanaaaDoorPartsB
set_option maxRecDepth 100000
set_option maxHeartbeats 4000000
set_option linter.unusedVariables false
set_option linter.unusedVariables false
set_option linter.unusedSimpArgs false
set_option linter.unusedSectionVars false
set_option linter.unnecessarySimpa false
namespace Go.Proofs.YtfkbkekgnoanaaaDoor
open Go.RowKit
attribute [local go_sem ↓] Go.wp_at_zero Go.wp_at_succ
theorem isA_plainY (t n : Int) (a : Option Addr) (l c0 : Nat) (f : WF) (hp : plainB t n l = true) (hs : 0 ≤ f.rl) (w : World) (hf : f.At w) (r : Bool) (hr : pwOk t n f = r) :
  Calls Tryd.prog 78 #[.agg #[.int .i64 t, .int .i64 n, .slice a l c0], f.val] w fun e w' => e = .returned (.bool r) ∧ Below w.heap.size w w' := by
 have HF0 := Lib.hid hf; have HS := Lib.hid hs
 obtain ⟨z, c, g, ra, rl, rc, rows, ca, cl, cc, cells, pa, pl, pc⟩ := f
 show Calls Tryd.prog 78 #[.agg #[.int .i64 t, .int .i64 n, .slice a l c0], .agg #[.bool z, .int .i64 c, .int .u64 (g : Int), .slice ra rl rc, .slice ca cl cc, .slice pa pl pc]] w _
 obtain ⟨bb, hbb⟩ : ∃ b, bareB t ⟨z, c, g, ra, rl, rc, rows, ca, cl, cc, cells, pa, pl, pc⟩ = b := ⟨_, rfl⟩
 have HBB := Lib.hid hbb
 have hB := Lib.hid (wbox w #[.int .i64 t, .int .i64 n, .slice a l c0] #[.bool z, .int .i64 c, .int .u64 (g : Int), .slice ra rl rc, .slice ca cl cc, .slice pa pl pc] 25 47)
 obtain ⟨t0, t1⟩ := two_boxes2 w #[.int .i64 t, .int .i64 n, .slice a l c0] #[.bool z, .int .i64 c, .int .u64 (g : Int), .slice ra rl rc, .slice ca cl cc, .slice pa pl pc] 25 47
 have T0 := Lib.hid t0; have T1 := Lib.hid t1
 obtain ⟨W0, hW0⟩ : ∃ W, (w.alloc (.cells #[.int .i64 t, .int .i64 n, .slice a l c0] 25)).alloc (.cells #[.bool z, .int .i64 c, .int .u64 (g : Int), .slice ra rl rc, .slice ca cl cc, .slice pa pl pc] 47) = W := ⟨_, rfl⟩
 rw [hW0] at hB T0 T1
 obtain ⟨x0, x1, x2⟩ := tri_cells T0.out
 obtain ⟨y0, y1, y2, y3, y4, y5⟩ := six_cells T1.out
 have ht := (plainB_tag hp).2
 clear hf hs t0 t1 hbb hp
 cases bb
 ·have HR : Hid (false = r) := by show _ = _; rw [← hr, pwOk, HBB.out]; rfl
  clear hr ht
  go_enter Tryd.func78, Tryd.ntmps78
  go_wp2_with fail
  refine (bare_is t n a l c0 ⟨z, c, g, ra, rl, rc, rows, ca, cl, cc, cells, pa, pl, pc⟩ false HBB.out _).mono ?_
  rintro e w1 ⟨rfl, hb1⟩
  go_wp2
  go_ret
  exact ⟨rbool HR.out, hB.out.trans (hb1.mono hB.out.size)⟩
 have HX : Hid (∀ W : World, Below W0.heap.size W0 W → Hid ((W.cell? ⟨w.heap.size, 0, none⟩ = some (.int .i64 t) ∧ W.cell? ⟨w.heap.size, 1, none⟩ = some (.int .i64 n) ∧ W.cell? ⟨w.heap.size, 2, none⟩ = some (.slice a l c0)) ∧ (W.cell? ⟨w.heap.size + 1, 0, none⟩ = some (.bool z) ∧ W.cell? ⟨w.heap.size + 1, 1, none⟩ = some (.int .i64 c) ∧ W.cell? ⟨w.heap.size + 1, 2, none⟩ = some (.int .u64 (g : Int)) ∧ W.cell? ⟨w.heap.size + 1, 3, none⟩ = some (.slice ra rl rc) ∧ W.cell? ⟨w.heap.size + 1, 4, none⟩ = some (.slice ca cl cc) ∧ W.cell? ⟨w.heap.size + 1, 5, none⟩ = some (.slice pa pl pc)))) := fun W h => ⟨tri_cells (heap_old T0.out h), six_cells (heap_old T1.out h)⟩
 have HR : Hid ((z || (if t = 2 then decide (0 ≤ c) && decide (c ≤ n) else if t = 3 then decide (checkE n g rows = 0) else if t = 4 then decide (chkC n cells = 0) else true)) = r) := by show _ = _; rw [← hr, pwOk, HBB.out]; rfl
 have he5 : (t == 5) = false := by simp; omega
 clear hr T0 T1
 cases z
 ·rcases ht with rfl | rfl | rfl | rfl
  ·have HR2 : Hid (true = r) := by show _ = _; rw [← HR.out]; simp
   go_enter Tryd.func78, Tryd.ntmps78
   go_wp2_with fail
   refine (bare_is _ n a l c0 ⟨false, c, g, ra, rl, rc, rows, ca, cl, cc, cells, pa, pl, pc⟩ true HBB.out _).mono ?_
   rintro e w1 ⟨rfl, hb1⟩
   obtain ⟨⟨p0, p1, p2⟩, q0, q1, q2, q3, q4, q5⟩ := (HX.out _ hb1).out
   go_wp2_with fail
   go_ret
   exact ⟨rbool HR2.out, hB.out.trans (hb1.mono hB.out.size)⟩
  ·by_cases hc0 : 0 ≤ c
   ·have HR2 : Hid (decide (c ≤ n) = r) := by show _ = _; rw [← HR.out]; simp [hc0]
    go_enter Tryd.func78, Tryd.ntmps78
    go_wp2_with fail
    refine (bare_is _ n a l c0 ⟨false, c, g, ra, rl, rc, rows, ca, cl, cc, cells, pa, pl, pc⟩ true HBB.out _).mono ?_
    rintro e w1 ⟨rfl, hb1⟩
    obtain ⟨⟨p0, p1, p2⟩, q0, q1, q2, q3, q4, q5⟩ := (HX.out _ hb1).out
    go_wp2_with fail
    go_ret
    exact ⟨rbool HR2.out, hB.out.trans (hb1.mono hB.out.size)⟩
   ·have HR3 : Hid (false = r) := by show _ = _; rw [← HR.out]; simp [hc0]
    go_enter Tryd.func78, Tryd.ntmps78
    go_wp2_with fail
    refine (bare_is _ n a l c0 ⟨false, c, g, ra, rl, rc, rows, ca, cl, cc, cells, pa, pl, pc⟩ true HBB.out _).mono ?_
    rintro e w1 ⟨rfl, hb1⟩
    obtain ⟨⟨p0, p1, p2⟩, q0, q1, q2, q3, q4, q5⟩ := (HX.out _ hb1).out
    go_wp2_with fail
    go_ret
    exact ⟨rbool HR3.out, hB.out.trans (hb1.mono hB.out.size)⟩
  ·obtain ⟨ck, hck⟩ : ∃ k, checkE n g rows = k := ⟨_, rfl⟩
   have HCK := Lib.hid hck
   have HR3 : Hid ((ck == 0) = r) := by show _ = _; rw [← HR.out, hck, int_eq0]; simp
   clear hck
   go_enter Tryd.func78, Tryd.ntmps78
   go_wp2_with fail
   refine (bare_is _ n a l c0 ⟨false, c, g, ra, rl, rc, rows, ca, cl, cc, cells, pa, pl, pc⟩ true HBB.out _).mono ?_
   rintro e w1 ⟨rfl, hb1⟩
   obtain ⟨⟨p0, p1, p2⟩, q0, q1, q2, q3, q4, q5⟩ := (HX.out _ hb1).out
   have hB1 := hB.out.trans (hb1.mono hB.out.size)
   go_wp2_with fail
   refine (checkA_any n ra rc g rows _ (HF0.out.below hB1) ck HCK.out rl HF0.out.rl).mono ?_
   rintro e w2 ⟨rfl, hb2⟩
   go_wp2_with fail
   go_ret
   exact ⟨rbool HR3.out, hB1.trans (hb2.mono hB1.size)⟩
  ·obtain ⟨ck, hck⟩ : ∃ k, chkC n cells = k := ⟨_, rfl⟩
   have HCK := Lib.hid hck
   have HR3 : Hid ((ck == 0) = r) := by show _ = _; rw [← HR.out, hck, int_eq0]; simp
   clear hck
   go_enter Tryd.func78, Tryd.ntmps78
   go_wp2_with fail
   refine (bare_is _ n a l c0 ⟨false, c, g, ra, rl, rc, rows, ca, cl, cc, cells, pa, pl, pc⟩ true HBB.out _).mono ?_
   rintro e w1 ⟨rfl, hb1⟩
   obtain ⟨⟨p0, p1, p2⟩, q0, q1, q2, q3, q4, q5⟩ := (HX.out _ hb1).out
   have hB1 := hB.out.trans (hb1.mono hB.out.size)
   go_wp2_with fail
   refine (check_is n ca cl cc cells _ ck HF0.out.cl (by rw [HF0.out.cl]; exact HF0.out.cmax) (HF0.out.below hB1).cells HF0.out.bits HCK.out).mono ?_
   rintro e w2 ⟨rfl, hb2⟩
   go_wp2_with fail
   go_ret
   exact ⟨rbool HR3.out, hB1.trans (hb2.mono hB1.size)⟩
 ·have HR2 : Hid (true = r) := by show _ = _; rw [← HR.out]; rfl
  clear HR ht
  go_enter Tryd.func78, Tryd.ntmps78
  go_wp2_with fail
  refine (bare_is _ n a l c0 ⟨true, c, g, ra, rl, rc, rows, ca, cl, cc, cells, pa, pl, pc⟩ true HBB.out _).mono ?_
  rintro e w1 ⟨rfl, hb1⟩
  obtain ⟨⟨p0, p1, p2⟩, q0, q1, q2, q3, q4, q5⟩ := (HX.out _ hb1).out
  go_wp2_with fail
  go_ret
  exact ⟨rbool HR2.out, hB.out.trans (hb1.mono hB.out.size)⟩
set_option maxHeartbeats 8000000 in
theorem isA_pairY (d : Nat) (sa : Option Addr) (sc : Nat) (p q : SV) (g : WF) (qs : List WV) (w : World) (hsp : SIn w (d + 1) (.mk ⟨5, 0, sa, 2, sc⟩ [p, q])) (hp : p.pl = true) (hq : q.pl = true) (e : Nat) (hw : WIn w (e + 1) (.mk g qs)) (hs : ∀ x ∈ qs, 0 ≤ x.f.rl) (r : Bool) (hr : pairOk p q g qs = r) :
  Calls Tryd.prog 78 #[.agg #[.int .i64 5, .int .i64 0, .slice sa 2 sc], g.val] w fun e w' => e = .returned (.bool r) ∧ Below w.heap.size w w' := by
 obtain ⟨_, b, off, ha, hb, hp3, hq3, _, _⟩ := hsp.two
 obtain rfl : sa = some ⟨b, off, none⟩ := ha
 obtain ⟨⟨pt, pn, pa, pl, pc⟩, pps⟩ := p
 obtain ⟨⟨qt, qn, qa, ql, qc⟩, qps⟩ := q
 have HP : Hid (plainB pt pn pl = true) := hp; have HQ : Hid (plainB qt qn ql = true) := hq; have HP3 := Lib.hid hp3; have HQ3 := Lib.hid hq3
 obtain ⟨gz, gc, gg, gra, grl, grc, grows, gca, gcl, gcc, gcells, gpa, gpl, gpc⟩ := g
 show Calls Tryd.prog 78 #[.agg #[.int .i64 5, .int .i64 0, .slice (some ⟨b, off, none⟩) 2 sc], .agg #[.bool gz, .int .i64 gc, .int .u64 (gg : Int), .slice gra grl grc, .slice gca gcl gcc, .slice gpa gpl gpc]] w _
 have hgl : qs.length = gpl := hw.2.1
 obtain ⟨bb, hbb⟩ : ∃ b, bareB 5 ⟨gz, gc, gg, gra, grl, grc, grows, gca, gcl, gcc, gcells, gpa, gpl, gpc⟩ = b := ⟨_, rfl⟩
 have HBB := Lib.hid hbb
 have hB := Lib.hid (wbox w #[.int .i64 5, .int .i64 0, .slice (some ⟨b, off, none⟩) 2 sc] #[.bool gz, .int .i64 gc, .int .u64 (gg : Int), .slice gra grl grc, .slice gca gcl gcc, .slice gpa gpl gpc] 25 47)
 obtain ⟨t0, t1⟩ := two_boxes2 w #[.int .i64 5, .int .i64 0, .slice (some ⟨b, off, none⟩) 2 sc] #[.bool gz, .int .i64 gc, .int .u64 (gg : Int), .slice gra grl grc, .slice gca gcl gcc, .slice gpa gpl gpc] 25 47
 have T0 := Lib.hid t0; have T1 := Lib.hid t1
 obtain ⟨W0, hW0⟩ : ∃ W, (w.alloc (.cells #[.int .i64 5, .int .i64 0, .slice (some ⟨b, off, none⟩) 2 sc] 25)).alloc (.cells #[.bool gz, .int .i64 gc, .int .u64 (gg : Int), .slice gra grl grc, .slice gca gcl gcc, .slice gpa gpl gpc] 47) = W := ⟨_, rfl⟩
 rw [hW0] at hB T0 T1
 obtain ⟨x0, x1, x2⟩ := tri_cells T0.out
 obtain ⟨y0, y1, y2, y3, y4, y5⟩ := six_cells T1.out
 have HR := Lib.hid hr
 cases bb
 ·have HF : Hid (false = r) := by show _ = _; rw [← HR.out, pairOk, HBB.out]; rfl
  clear hr hbb hsp hw hs hp hq hp3 hq3
  go_enter Tryd.func78, Tryd.ntmps78
  go_wp2_with fail
  refine (bare_is 5 0 _ 2 sc ⟨gz, gc, gg, gra, grl, grc, grows, gca, gcl, gcc, gcells, gpa, gpl, gpc⟩ false HBB.out _).mono ?_
  rintro e w1 ⟨rfl, hb1⟩
  go_wp2_with fail
  go_ret
  exact ⟨rbool HF.out, hB.out.trans (hb1.mono hB.out.size)⟩
 cases gz
 rotate_left
 ·have hzz := True.intro
  have HF : Hid (false = r) := by show _ = _; rw [← HR.out, pairOk]; simp
  clear hr hbb hsp hw hs hp hq hp3 hq3
  go_enter Tryd.func78, Tryd.ntmps78
  go_wp2_with fail
  refine (bare_is 5 0 _ 2 sc ⟨true, gc, gg, gra, grl, grc, grows, gca, gcl, gcc, gcells, gpa, gpl, gpc⟩ true HBB.out _).mono ?_
  rintro e w1 ⟨rfl, hb1⟩
  have hB1 := hB.out.trans (hb1.mono hB.out.size)
  have EN : Hid (∀ W : World, Below w1.heap.size w1 W → W.cell? ⟨w.heap.size, 0, none⟩ = some (.int .i64 5) ∧ W.cell? ⟨w.heap.size, 1, none⟩ = some (.int .i64 0) ∧ W.cell? ⟨w.heap.size, 2, none⟩ = some (.slice (some ⟨b, off, none⟩) 2 sc) ∧ W.cell? ⟨w.heap.size + 1, 0, none⟩ = some (.bool true) ∧ W.cell? ⟨w.heap.size + 1, 1, none⟩ = some (.int .i64 gc) ∧ W.cell? ⟨w.heap.size + 1, 2, none⟩ = some (.int .u64 (gg : Int)) ∧ W.cell? ⟨w.heap.size + 1, 3, none⟩ = some (.slice gra grl grc) ∧ W.cell? ⟨w.heap.size + 1, 4, none⟩ = some (.slice gca gcl gcc) ∧ W.cell? ⟨w.heap.size + 1, 5, none⟩ = some (.slice gpa gpl gpc)) := fun W h => by obtain ⟨a0, a1, a2⟩ := tri_cells (heap_old (heap_old T0.out hb1) h); obtain ⟨c0, c1, c2, c3, c4, c5⟩ := six_cells (heap_old (heap_old T1.out hb1) h); exact ⟨a0, a1, a2, c0, c1, c2, c3, c4, c5⟩
  clear x0 x1 x2 y0 y1 y2 y3 y4 y5
  obtain ⟨m0, m1, m2, m3, m4, m5, m6, m7, m8⟩ := EN.out _ (Below.refl _ _)
  go_wp2_with fail
  go_region
  all_goals (go_wp2_with fail; go_ret; exact ⟨rbool HF.out, by first | exact hB1 | exact hB1.drew⟩)
 by_cases hl2 : gpl = 2
 rotate_left
 ·have hne : ((gpl : Int) == 2) = false := by simp; omega
  have HF : Hid (false = r) := by show _ = _; rw [← HR.out, pairOk, decide_eq_false (by omega)]; simp
  clear hr hbb hsp hw hs hp hq hp3 hq3
  go_enter Tryd.func78, Tryd.ntmps78
  go_wp2_with fail
  refine (bare_is 5 0 _ 2 sc ⟨false, gc, gg, gra, grl, grc, grows, gca, gcl, gcc, gcells, gpa, gpl, gpc⟩ true HBB.out _).mono ?_
  rintro e w1 ⟨rfl, hb1⟩
  have hB1 := hB.out.trans (hb1.mono hB.out.size)
  have EN : Hid (∀ W : World, Below w1.heap.size w1 W → W.cell? ⟨w.heap.size, 0, none⟩ = some (.int .i64 5) ∧ W.cell? ⟨w.heap.size, 1, none⟩ = some (.int .i64 0) ∧ W.cell? ⟨w.heap.size, 2, none⟩ = some (.slice (some ⟨b, off, none⟩) 2 sc) ∧ W.cell? ⟨w.heap.size + 1, 0, none⟩ = some (.bool false) ∧ W.cell? ⟨w.heap.size + 1, 1, none⟩ = some (.int .i64 gc) ∧ W.cell? ⟨w.heap.size + 1, 2, none⟩ = some (.int .u64 (gg : Int)) ∧ W.cell? ⟨w.heap.size + 1, 3, none⟩ = some (.slice gra grl grc) ∧ W.cell? ⟨w.heap.size + 1, 4, none⟩ = some (.slice gca gcl gcc) ∧ W.cell? ⟨w.heap.size + 1, 5, none⟩ = some (.slice gpa gpl gpc)) := fun W h => by obtain ⟨a0, a1, a2⟩ := tri_cells (heap_old (heap_old T0.out hb1) h); obtain ⟨c0, c1, c2, c3, c4, c5⟩ := six_cells (heap_old (heap_old T1.out hb1) h); exact ⟨a0, a1, a2, c0, c1, c2, c3, c4, c5⟩
  clear x0 x1 x2 y0 y1 y2 y3 y4 y5
  obtain ⟨m0, m1, m2, m3, m4, m5, m6, m7, m8⟩ := EN.out _ (Below.refl _ _)
  go_wp2_with fail
  go_region
  all_goals (go_wp2_with fail; go_ret; exact ⟨rbool HF.out, by first | exact hB1 | exact hB1.drew⟩)
 subst hl2
 obtain ⟨x, y, rfl⟩ := two_of hgl
 obtain ⟨_, b2, of2, ha2, hb2l, hx6, hy6, hxi, hyi⟩ := hw.two
 dsimp only at ha2
 subst ha2
 have XA := Lib.hid hxi.at_; have YA := Lib.hid hyi.at_
 have XS := Lib.hid (hs x (by simp)); have YS := Lib.hid (hs y (by simp))
 obtain ⟨⟨xz, xc, xg, xra, xrl, xrc, xrows, xca, xcl, xcc, xcells, xpa, xpl, xpc⟩, xps⟩ := x
 obtain ⟨⟨yz, yc, yg, yra, yrl, yrc, yrows, yca, ycl, ycc, ycells, ypa, ypl, ypc⟩, yps⟩ := y
 have HX6 := Lib.hid hx6; have HY6 := Lib.hid hy6
 have XSS : Hid (0 ≤ xrl) := XS.out; have YSS : Hid (0 ≤ yrl) := YS.out
 have XAA : Hid (WF.At w ⟨xz, xc, xg, xra, xrl, xrc, xrows, xca, xcl, xcc, xcells, xpa, xpl, xpc⟩) := XA.out; have YAA : Hid (WF.At w ⟨yz, yc, yg, yra, yrl, yrc, yrows, yca, ycl, ycc, ycells, ypa, ypl, ypc⟩) := YA.out
 clear XS YS XA YA
 obtain ⟨r1, hr1⟩ : ∃ o, pwOk pt pn ⟨xz, xc, xg, xra, xrl, xrc, xrows, xca, xcl, xcc, xcells, xpa, xpl, xpc⟩ = o := ⟨_, rfl⟩
 obtain ⟨r2, hr2⟩ : ∃ o, pwOk qt qn ⟨yz, yc, yg, yra, yrl, yrc, yrows, yca, ycl, ycc, ycells, ypa, ypl, ypc⟩ = o := ⟨_, rfl⟩
 have HR1 := Lib.hid hr1; have HR2 := Lib.hid hr2
 have HRR : Hid ((r1 && r2) = r) := by show _ = _; rw [← HR.out, pairOk, HBB.out]; simp [pwAt, SV.f, WV.f, hr1, hr2]
 clear hr hbb hsp hw hs hp hq hp3 hq3 hx6 hy6 hxi hyi hr1 hr2 hgl HR
 cases r1
 ·have HF : Hid (false = r) := by show _ = _; rw [← HRR.out]; simp
  go_enter Tryd.func78, Tryd.ntmps78
  go_wp2_with fail
  refine (bare_is 5 0 _ 2 sc ⟨false, gc, gg, gra, grl, grc, grows, gca, gcl, gcc, gcells, (some ⟨b2, of2, none⟩), 2, gpc⟩ true HBB.out _).mono ?_
  rintro e w1 ⟨rfl, hb1⟩
  have hB1 := hB.out.trans (hb1.mono hB.out.size)
  have EN : Hid (∀ W : World, Below w1.heap.size w1 W → W.cell? ⟨w.heap.size, 0, none⟩ = some (.int .i64 5) ∧ W.cell? ⟨w.heap.size, 1, none⟩ = some (.int .i64 0) ∧ W.cell? ⟨w.heap.size, 2, none⟩ = some (.slice (some ⟨b, off, none⟩) 2 sc) ∧ W.cell? ⟨w.heap.size + 1, 0, none⟩ = some (.bool false) ∧ W.cell? ⟨w.heap.size + 1, 1, none⟩ = some (.int .i64 gc) ∧ W.cell? ⟨w.heap.size + 1, 2, none⟩ = some (.int .u64 (gg : Int)) ∧ W.cell? ⟨w.heap.size + 1, 3, none⟩ = some (.slice gra grl grc) ∧ W.cell? ⟨w.heap.size + 1, 4, none⟩ = some (.slice gca gcl gcc) ∧ W.cell? ⟨w.heap.size + 1, 5, none⟩ = some (.slice (some ⟨b2, of2, none⟩) 2 gpc) ∧ W.cell? ⟨b, off, none⟩ = some (.int .i64 pt) ∧ W.cell? ⟨b, off + 1, none⟩ = some (.int .i64 pn) ∧ W.cell? ⟨b, off + 2, none⟩ = some (.slice pa pl pc) ∧ W.cell? ⟨b, off + 3, none⟩ = some (.int .i64 qt) ∧ W.cell? ⟨b, off + 4, none⟩ = some (.int .i64 qn) ∧ W.cell? ⟨b, off + 5, none⟩ = some (.slice qa ql qc) ∧ W.cell? ⟨b2, of2, none⟩ = some (.bool xz) ∧ W.cell? ⟨b2, of2 + 1, none⟩ = some (.int .i64 xc) ∧ W.cell? ⟨b2, of2 + 2, none⟩ = some (.int .u64 (xg : Int)) ∧ W.cell? ⟨b2, of2 + 3, none⟩ = some (.slice xra xrl xrc) ∧ W.cell? ⟨b2, of2 + 4, none⟩ = some (.slice xca xcl xcc) ∧ W.cell? ⟨b2, of2 + 5, none⟩ = some (.slice xpa xpl xpc) ∧ W.cell? ⟨b2, of2 + 6, none⟩ = some (.bool yz) ∧ W.cell? ⟨b2, of2 + 7, none⟩ = some (.int .i64 yc) ∧ W.cell? ⟨b2, of2 + 8, none⟩ = some (.int .u64 (yg : Int)) ∧ W.cell? ⟨b2, of2 + 9, none⟩ = some (.slice yra yrl yrc) ∧ W.cell? ⟨b2, of2 + 10, none⟩ = some (.slice yca ycl ycc) ∧ W.cell? ⟨b2, of2 + 11, none⟩ = some (.slice ypa ypl ypc)) := fun W h => by
   obtain ⟨a0, a1, a2⟩ := tri_cells (heap_old (heap_old T0.out hb1) h); obtain ⟨c0, c1, c2, c3, c4, c5⟩ := six_cells (heap_old (heap_old T1.out hb1) h)
   have hww : Below w.heap.size w W := hB1.trans (h.mono hB1.size)
   obtain ⟨d0, d1, d2⟩ := HP3.out.below hww; obtain ⟨e0, e1, e2⟩ := HQ3.out.below hww; obtain ⟨f0, f1, f2, f3, f4, f5⟩ := HX6.out.below hww; obtain ⟨g0, g1, g2, g3, g4, g5⟩ := HY6.out.below hww
   exact ⟨a0, a1, a2, c0, c1, c2, c3, c4, c5, d0, d1, d2, e0, e1, e2, f0, f1, f2, f3, f4, f5, g0, g1, g2, g3, g4, g5⟩
  clear x0 x1 x2 y0 y1 y2 y3 y4 y5
  obtain ⟨m0, m1, m2, m3, m4, m5, m6, m7, m8, m9, m10, m11, m12, m13, m14, m15, m16, m17, m18, m19, m20, m21, m22, m23, m24, m25, m26⟩ := EN.out _ (Below.refl _ _)
  have D0 : Hid (Below w1.heap.size w1 w1.drew) := (Below.refl _ _).drew
  go_wp2_with fail
  refine wp_region_held_drew (S := (fun w' => w'.cell? ⟨w.heap.size, 0, none⟩ = some (.int .i64 5) ∧ w'.cell? ⟨w.heap.size, 1, none⟩ = some (.int .i64 0) ∧ w'.cell? ⟨w.heap.size, 2, none⟩ = some (.slice (some ⟨b, off, none⟩) 2 sc) ∧ w'.cell? ⟨w.heap.size + 1, 0, none⟩ = some (.bool false) ∧ w'.cell? ⟨w.heap.size + 1, 1, none⟩ = some (.int .i64 gc) ∧ w'.cell? ⟨w.heap.size + 1, 2, none⟩ = some (.int .u64 (gg : Int)) ∧ w'.cell? ⟨w.heap.size + 1, 3, none⟩ = some (.slice gra grl grc) ∧ w'.cell? ⟨w.heap.size + 1, 4, none⟩ = some (.slice gca gcl gcc) ∧ w'.cell? ⟨w.heap.size + 1, 5, none⟩ = some (.slice (some ⟨b2, of2, none⟩) 2 gpc) ∧ w'.cell? ⟨b, off, none⟩ = some (.int .i64 pt) ∧ w'.cell? ⟨b, off + 1, none⟩ = some (.int .i64 pn) ∧ w'.cell? ⟨b, off + 2, none⟩ = some (.slice pa pl pc) ∧ w'.cell? ⟨b, off + 3, none⟩ = some (.int .i64 qt) ∧ w'.cell? ⟨b, off + 4, none⟩ = some (.int .i64 qn) ∧ w'.cell? ⟨b, off + 5, none⟩ = some (.slice qa ql qc) ∧ w'.cell? ⟨b2, of2, none⟩ = some (.bool xz) ∧ w'.cell? ⟨b2, of2 + 1, none⟩ = some (.int .i64 xc) ∧ w'.cell? ⟨b2, of2 + 2, none⟩ = some (.int .u64 (xg : Int)) ∧ w'.cell? ⟨b2, of2 + 3, none⟩ = some (.slice xra xrl xrc) ∧ w'.cell? ⟨b2, of2 + 4, none⟩ = some (.slice xca xcl xcc) ∧ w'.cell? ⟨b2, of2 + 5, none⟩ = some (.slice xpa xpl xpc) ∧ w'.cell? ⟨b2, of2 + 6, none⟩ = some (.bool yz) ∧ w'.cell? ⟨b2, of2 + 7, none⟩ = some (.int .i64 yc) ∧ w'.cell? ⟨b2, of2 + 8, none⟩ = some (.int .u64 (yg : Int)) ∧ w'.cell? ⟨b2, of2 + 9, none⟩ = some (.slice yra yrl yrc) ∧ w'.cell? ⟨b2, of2 + 10, none⟩ = some (.slice yca ycl ycc) ∧ w'.cell? ⟨b2, of2 + 11, none⟩ = some (.slice ypa ypl ypc))) (by kernel_rfl) (by with_reducible exact EN.out _ D0.out) (fun hHeld => ?_)
  refine wpAnyH_take (i := 0) (oi := { dst := some 12, op := Op.fieldAddr 47 (Operand.tmp 3) 0, type := 0, pos := "weight.go:68", after := #[], guard := none }) (v := ?v0x1) rfl (by kernel_rfl) (by kernel_rfl) (by kernel_rfl) (fun _ _ _ h => h) (Or.inl ⟨by rfl, ?hy0x1⟩) (by assumption) ?rest0x1
  case hy0x1 => (intro w hSw; (try dsimp only at hSw); go_simp; try with_reducible rfl)
  try simp only [Act.put, List.setIfInBounds_toArray, List.set_cons_zero, List.set_cons_succ]
  refine wpAnyH_take (i := 1) (oi := { dst := some 13, op := Op.load 4 (Operand.tmp 12), type := 4, pos := "weight.go:68", after := #[{ on := 0, ground := Ground.data }], guard := none }) (v := ?v1x1) rfl (by kernel_rfl) (by kernel_rfl) (by kernel_rfl) (fun _ _ _ h => h) (Or.inl ⟨by rfl, ?hy1x1⟩) (by assumption) ?rest1x1
  case hy1x1 => (intro w hSw; (try dsimp only at hSw); go_simp; try with_reducible rfl)
  try simp only [Act.put, List.setIfInBounds_toArray, List.set_cons_zero, List.set_cons_succ]
  refine wpAnyH_take (i := 2) (oi := { dst := some 14, op := Op.unOp UnOp.not 4 (Operand.tmp 13), type := 4, pos := "weight.go:68", after := #[{ on := 1, ground := Ground.data }], guard := none }) (v := ?v2x1) rfl (by kernel_rfl) (by kernel_rfl) (by kernel_rfl) (fun _ _ _ h => h) (Or.inl ⟨by rfl, ?hy2x1⟩) (by assumption) ?rest2x1
  case hy2x1 => (intro w hSw; (try dsimp only at hSw); go_simp; try with_reducible rfl)
  try simp only [Act.put, List.setIfInBounds_toArray, List.set_cons_zero, List.set_cons_succ]
  refine wpAnyH_take (i := 3) (oi := { dst := some 15, op := Op.move (Operand.tmp 14), type := 4, pos := "weight.go:68", after := #[{ on := 2, ground := Ground.data }], guard := none }) (v := ?v3x1) rfl (by kernel_rfl) (by kernel_rfl) (by kernel_rfl) (fun _ _ _ h => h) (Or.inl ⟨by rfl, ?hy3x1⟩) (by assumption) ?rest3x1
  case hy3x1 => (intro w hSw; (try dsimp only at hSw); go_simp; try with_reducible rfl)
  try simp only [Act.put, List.setIfInBounds_toArray, List.set_cons_zero, List.set_cons_succ]
  refine wpAnyH_take (i := 4) (oi := { dst := some 16, op := Op.fieldAddr 47 (Operand.tmp 3) 4, type := 0, pos := "weight.go:68", after := #[{ on := 3, ground := Ground.guard }], guard := some (3, true) }) (v := ?v4x1) rfl (by kernel_rfl) (by kernel_rfl) (by kernel_rfl) (fun _ _ _ h => h) (Or.inl ⟨by rfl, ?hy4x1⟩) (by assumption) ?rest4x1
  case hy4x1 => (intro w hSw; (try dsimp only at hSw); go_simp; try with_reducible rfl)
  try simp only [Act.put, List.setIfInBounds_toArray, List.set_cons_zero, List.set_cons_succ]
  refine wpAnyH_take (i := 5) (oi := { dst := some 17, op := Op.load 45 (Operand.tmp 16), type := 45, pos := "weight.go:68", after := #[{ on := 4, ground := Ground.data }, { on := 3, ground := Ground.guard }], guard := some (3, true) }) (v := ?v5x1) rfl (by kernel_rfl) (by kernel_rfl) (by kernel_rfl) (fun _ _ _ h => h) (Or.inl ⟨by rfl, ?hy5x1⟩) (by assumption) ?rest5x1
  case hy5x1 => (intro w hSw; (try dsimp only at hSw); go_simp; try with_reducible rfl)
  try simp only [Act.put, List.setIfInBounds_toArray, List.set_cons_zero, List.set_cons_succ]
  refine wpAnyH_take (i := 6) (oi := { dst := some 18, op := Op.call { callee := Callee.builtin Builtin.len, args := #[Operand.tmp 17], argTypes := #[45] }, type := 3, pos := "weight.go:68", after := #[{ on := 5, ground := Ground.data }, { on := 3, ground := Ground.guard }], guard := some (3, true) }) (v := ?v6x1) rfl (by kernel_rfl) (by kernel_rfl) (by kernel_rfl) (fun _ _ _ h => h) (Or.inl ⟨by rfl, ?hy6x1⟩) (by assumption) ?rest6x1
  case hy6x1 => (intro w hSw; (try dsimp only at hSw); go_simp; try with_reducible rfl)
  try simp only [Act.put, List.setIfInBounds_toArray, List.set_cons_zero, List.set_cons_succ]
  refine wpAnyH_take (i := 7) (oi := { dst := some 19, op := Op.binOp BinOp.eql 3 (Operand.tmp 18) (Operand.const (Value.int IntKind.i64 2)) 3, type := 4, pos := "weight.go:68", after := #[{ on := 6, ground := Ground.data }, { on := 3, ground := Ground.guard }], guard := some (3, true) }) (v := ?v7x1) rfl (by kernel_rfl) (by kernel_rfl) (by kernel_rfl) (fun _ _ _ h => h) (Or.inl ⟨by rfl, ?hy7x1⟩) (by assumption) ?rest7x1
  case hy7x1 => (intro w hSw; (try dsimp only at hSw); go_simp; try with_reducible rfl)
  try simp only [Act.put, List.setIfInBounds_toArray, List.set_cons_zero, List.set_cons_succ]
  refine wpAnyH_take (i := 8) (oi := { dst := some 20, op := Op.pick (Operand.tmp 15) (Operand.tmp 19) (Operand.const (Value.bool false)), type := 4, pos := "weight.go:68", after := #[{ on := 3, ground := Ground.data }, { on := 7, ground := Ground.data }], guard := none }) (v := ?v8x1) rfl (by kernel_rfl) (by kernel_rfl) (by kernel_rfl) (fun _ _ _ h => h) (Or.inl ⟨by rfl, ?hy8x1⟩) (by assumption) ?rest8x1
  case hy8x1 => (intro w hSw; (try dsimp only at hSw); go_simp; try with_reducible rfl)
  try simp only [Act.put, List.setIfInBounds_toArray, List.set_cons_zero, List.set_cons_succ]
  refine wpAnyH_take (i := 9) (oi := { dst := some 21, op := Op.move (Operand.tmp 20), type := 4, pos := "weight.go:68", after := #[{ on := 8, ground := Ground.data }, { on := 3, ground := Ground.chain }], guard := none }) (v := ?v9x1) rfl (by kernel_rfl) (by kernel_rfl) (by kernel_rfl) (fun _ _ _ h => h) (Or.inl ⟨by rfl, ?hy9x1⟩) (by assumption) ?rest9x1
  case hy9x1 => (intro w hSw; (try dsimp only at hSw); go_simp; try with_reducible rfl)
  try simp only [Act.put, List.setIfInBounds_toArray, List.set_cons_zero, List.set_cons_succ]
  refine wpAnyH_take (i := 10) (oi := { dst := some 22, op := Op.fieldAddr 25 (Operand.tmp 2) 2, type := 0, pos := "weight.go:68", after := #[{ on := 9, ground := Ground.guard }], guard := some (9, true) }) (v := ?v10x1) rfl (by kernel_rfl) (by kernel_rfl) (by kernel_rfl) (fun _ _ _ h => h) (Or.inl ⟨by rfl, ?hy10x1⟩) (by assumption) ?rest10x1
  case hy10x1 => (intro w hSw; (try dsimp only at hSw); go_simp; try with_reducible rfl)
  try simp only [Act.put, List.setIfInBounds_toArray, List.set_cons_zero, List.set_cons_succ]
  refine wpAnyH_take (i := 11) (oi := { dst := some 23, op := Op.load 23 (Operand.tmp 22), type := 23, pos := "weight.go:68", after := #[{ on := 10, ground := Ground.data }, { on := 9, ground := Ground.guard }], guard := some (9, true) }) (v := ?v11x1) rfl (by kernel_rfl) (by kernel_rfl) (by kernel_rfl) (fun _ _ _ h => h) (Or.inl ⟨by rfl, ?hy11x1⟩) (by assumption) ?rest11x1
  case hy11x1 => (intro w hSw; (try dsimp only at hSw); go_simp; try with_reducible rfl)
  try simp only [Act.put, List.setIfInBounds_toArray, List.set_cons_zero, List.set_cons_succ]
  refine wpAnyH_take (i := 12) (oi := { dst := some 24, op := Op.indexAddr 23 (Operand.tmp 23) (Operand.const (Value.int IntKind.i64 0)), type := 0, pos := "weight.go:68", after := #[{ on := 11, ground := Ground.data }, { on := 9, ground := Ground.guard }], guard := some (9, true) }) (v := ?v12x1) rfl (by kernel_rfl) (by kernel_rfl) (by kernel_rfl) (fun _ _ _ h => h) (Or.inl ⟨by rfl, ?hy12x1⟩) (by assumption) ?rest12x1
  case hy12x1 => (intro w hSw; (try dsimp only at hSw); go_simp; try with_reducible rfl)
  try simp only [Act.put, List.setIfInBounds_toArray, List.set_cons_zero, List.set_cons_succ]
  refine wpAnyH_take (i := 13) (oi := { dst := some 25, op := Op.load 25 (Operand.tmp 24), type := 25, pos := "weight.go:68", after := #[{ on := 12, ground := Ground.data }, { on := 9, ground := Ground.guard }], guard := some (9, true) }) (v := ?v13x1) rfl (by kernel_rfl) (by kernel_rfl) (by kernel_rfl) (fun _ _ _ h => h) (Or.inl ⟨by rfl, ?hy13x1⟩) (by assumption) ?rest13x1
  case hy13x1 => (intro w hSw; (try dsimp only at hSw); go_simp; try with_reducible rfl)
  try simp only [Act.put, List.setIfInBounds_toArray, List.set_cons_zero, List.set_cons_succ]
  refine wpAnyH_take (i := 14) (oi := { dst := some 26, op := Op.fieldAddr 47 (Operand.tmp 3) 4, type := 0, pos := "weight.go:68", after := #[{ on := 9, ground := Ground.guard }], guard := some (9, true) }) (v := ?v14x1) rfl (by kernel_rfl) (by kernel_rfl) (by kernel_rfl) (fun _ _ _ h => h) (Or.inl ⟨by rfl, ?hy14x1⟩) (by assumption) ?rest14x1
  case hy14x1 => (intro w hSw; (try dsimp only at hSw); go_simp; try with_reducible rfl)
  try simp only [Act.put, List.setIfInBounds_toArray, List.set_cons_zero, List.set_cons_succ]
  refine wpAnyH_take (i := 15) (oi := { dst := some 27, op := Op.load 45 (Operand.tmp 26), type := 45, pos := "weight.go:68", after := #[{ on := 14, ground := Ground.data }, { on := 9, ground := Ground.guard }], guard := some (9, true) }) (v := ?v15x1) rfl (by kernel_rfl) (by kernel_rfl) (by kernel_rfl) (fun _ _ _ h => h) (Or.inl ⟨by rfl, ?hy15x1⟩) (by assumption) ?rest15x1
  case hy15x1 => (intro w hSw; (try dsimp only at hSw); go_simp; try with_reducible rfl)
  try simp only [Act.put, List.setIfInBounds_toArray, List.set_cons_zero, List.set_cons_succ]
  refine wpAnyH_take (i := 16) (oi := { dst := some 28, op := Op.indexAddr 45 (Operand.tmp 27) (Operand.const (Value.int IntKind.i64 0)), type := 0, pos := "weight.go:68", after := #[{ on := 15, ground := Ground.data }, { on := 9, ground := Ground.guard }], guard := some (9, true) }) (v := ?v16x1) rfl (by kernel_rfl) (by kernel_rfl) (by kernel_rfl) (fun _ _ _ h => h) (Or.inl ⟨by rfl, ?hy16x1⟩) (by assumption) ?rest16x1
  case hy16x1 => (intro w hSw; (try dsimp only at hSw); go_simp; try with_reducible rfl)
  try simp only [Act.put, List.setIfInBounds_toArray, List.set_cons_zero, List.set_cons_succ]
  refine wpAnyH_take (i := 17) (oi := { dst := some 29, op := Op.load 47 (Operand.tmp 28), type := 47, pos := "weight.go:68", after := #[{ on := 16, ground := Ground.data }, { on := 9, ground := Ground.guard }], guard := some (9, true) }) (v := ?v17x1) rfl (by kernel_rfl) (by kernel_rfl) (by kernel_rfl) (fun _ _ _ h => h) (Or.inl ⟨by rfl, ?hy17x1⟩) (by assumption) ?rest17x1
  case hy17x1 => (intro w hSw; (try dsimp only at hSw); go_simp; try with_reducible rfl)
  try simp only [Act.put, List.setIfInBounds_toArray, List.set_cons_zero, List.set_cons_succ]
  refine wpAnyH_ready (rs := [18]) (by kernel_rfl) (by simp) (AllReadyH.cons (o := { dst := some 30, op := Op.call { callee := Callee.value (Operand.func 78), args := #[Operand.tmp 25, Operand.tmp 29], argTypes := #[25, 47] }, type := 4, pos := "weight.go:68", after := #[{ on := 13, ground := Ground.data }, { on := 17, ground := Ground.data }, { on := 9, ground := Ground.chain }, { on := 9, ground := Ground.guard }], guard := some (9, true) }) rfl (fun K hK => ?_) AllReadyH.nil)
  go_simp
  go_at_call 78
  with_reducible refine (isA_plainY pt pn pa pl pc ⟨xz, xc, xg, xra, xrl, xrc, xrows, xca, xcl, xcc, xcells, xpa, xpl, xpc⟩ HP.out XSS.out _ (XAA.out.below (hB1.trans ((D0.out).mono hB1.size))) false HR1.out).mono ?_
  rintro e z1 ⟨rfl, hz1⟩
  have D1 : Hid (Below w1.heap.size w1 z1) := Lib.hid (D0.out.trans (hz1.mono D0.out.size))
  dsimp only
  refine hK.out _ _ (by with_reducible exact EN.out _ D1.out) (fun hHeld1 => ?_)
  clear hK K
  try simp only [Act.put, List.setIfInBounds_toArray, List.set_cons_zero, List.set_cons_succ]
  refine wpAnyH_take (i := 19) (oi := { dst := some 31, op := Op.pick (Operand.tmp 21) (Operand.tmp 30) (Operand.const (Value.bool false)), type := 4, pos := "weight.go:68", after := #[{ on := 9, ground := Ground.data }, { on := 18, ground := Ground.data }], guard := none }) (v := ?v19x1) rfl (by kernel_rfl) (by kernel_rfl) (by kernel_rfl) (fun _ _ _ h => h) (Or.inl ⟨by rfl, ?hy19x1⟩) (by assumption) ?rest19x1
  case hy19x1 => (intro w hSw; (try dsimp only at hSw); go_simp; try with_reducible rfl)
  try simp only [Act.put, List.setIfInBounds_toArray, List.set_cons_zero, List.set_cons_succ]
  refine wpAnyH_take (i := 20) (oi := { dst := some 32, op := Op.move (Operand.tmp 31), type := 4, pos := "weight.go:68", after := #[{ on := 19, ground := Ground.data }, { on := 18, ground := Ground.chain }], guard := none }) (v := ?v20x1) rfl (by kernel_rfl) (by kernel_rfl) (by kernel_rfl) (fun _ _ _ h => h) (Or.inl ⟨by rfl, ?hy20x1⟩) (by assumption) ?rest20x1
  case hy20x1 => (intro w hSw; (try dsimp only at hSw); go_simp; try with_reducible rfl)
  try simp only [Act.put, List.setIfInBounds_toArray, List.set_cons_zero, List.set_cons_succ]
  refine wpAnyH_take (i := 21) (oi := { dst := some 33, op := Op.fieldAddr 25 (Operand.tmp 2) 2, type := 0, pos := "weight.go:68", after := #[{ on := 20, ground := Ground.guard }], guard := some (20, true) }) (v := undef) rfl (by kernel_rfl) (by kernel_rfl) (by kernel_rfl) (fun _ _ _ h => h) (Or.inr ⟨by rfl, rfl⟩) (by assumption) ?rest21x1
  try simp only [Act.put, List.setIfInBounds_toArray, List.set_cons_zero, List.set_cons_succ]
  refine wpAnyH_take (i := 22) (oi := { dst := some 34, op := Op.load 23 (Operand.tmp 33), type := 23, pos := "weight.go:68", after := #[{ on := 21, ground := Ground.data }, { on := 20, ground := Ground.guard }], guard := some (20, true) }) (v := undef) rfl (by kernel_rfl) (by kernel_rfl) (by kernel_rfl) (fun _ _ _ h => h) (Or.inr ⟨by rfl, rfl⟩) (by assumption) ?rest22x1
  try simp only [Act.put, List.setIfInBounds_toArray, List.set_cons_zero, List.set_cons_succ]
  refine wpAnyH_take (i := 23) (oi := { dst := some 35, op := Op.indexAddr 23 (Operand.tmp 34) (Operand.const (Value.int IntKind.i64 1)), type := 0, pos := "weight.go:68", after := #[{ on := 22, ground := Ground.data }, { on := 20, ground := Ground.guard }], guard := some (20, true) }) (v := undef) rfl (by kernel_rfl) (by kernel_rfl) (by kernel_rfl) (fun _ _ _ h => h) (Or.inr ⟨by rfl, rfl⟩) (by assumption) ?rest23x1
  try simp only [Act.put, List.setIfInBounds_toArray, List.set_cons_zero, List.set_cons_succ]
  refine wpAnyH_take (i := 24) (oi := { dst := some 36, op := Op.load 25 (Operand.tmp 35), type := 25, pos := "weight.go:68", after := #[{ on := 23, ground := Ground.data }, { on := 20, ground := Ground.guard }], guard := some (20, true) }) (v := undef) rfl (by kernel_rfl) (by kernel_rfl) (by kernel_rfl) (fun _ _ _ h => h) (Or.inr ⟨by rfl, rfl⟩) (by assumption) ?rest24x1
  try simp only [Act.put, List.setIfInBounds_toArray, List.set_cons_zero, List.set_cons_succ]
  refine wpAnyH_take (i := 25) (oi := { dst := some 37, op := Op.fieldAddr 47 (Operand.tmp 3) 4, type := 0, pos := "weight.go:68", after := #[{ on := 20, ground := Ground.guard }], guard := some (20, true) }) (v := undef) rfl (by kernel_rfl) (by kernel_rfl) (by kernel_rfl) (fun _ _ _ h => h) (Or.inr ⟨by rfl, rfl⟩) (by assumption) ?rest25x1
  try simp only [Act.put, List.setIfInBounds_toArray, List.set_cons_zero, List.set_cons_succ]
  refine wpAnyH_take (i := 26) (oi := { dst := some 38, op := Op.load 45 (Operand.tmp 37), type := 45, pos := "weight.go:68", after := #[{ on := 25, ground := Ground.data }, { on := 20, ground := Ground.guard }], guard := some (20, true) }) (v := undef) rfl (by kernel_rfl) (by kernel_rfl) (by kernel_rfl) (fun _ _ _ h => h) (Or.inr ⟨by rfl, rfl⟩) (by assumption) ?rest26x1
  try simp only [Act.put, List.setIfInBounds_toArray, List.set_cons_zero, List.set_cons_succ]
  refine wpAnyH_take (i := 27) (oi := { dst := some 39, op := Op.indexAddr 45 (Operand.tmp 38) (Operand.const (Value.int IntKind.i64 1)), type := 0, pos := "weight.go:68", after := #[{ on := 26, ground := Ground.data }, { on := 20, ground := Ground.guard }], guard := some (20, true) }) (v := undef) rfl (by kernel_rfl) (by kernel_rfl) (by kernel_rfl) (fun _ _ _ h => h) (Or.inr ⟨by rfl, rfl⟩) (by assumption) ?rest27x1
  try simp only [Act.put, List.setIfInBounds_toArray, List.set_cons_zero, List.set_cons_succ]
  refine wpAnyH_take (i := 28) (oi := { dst := some 40, op := Op.load 47 (Operand.tmp 39), type := 47, pos := "weight.go:68", after := #[{ on := 27, ground := Ground.data }, { on := 20, ground := Ground.guard }], guard := some (20, true) }) (v := undef) rfl (by kernel_rfl) (by kernel_rfl) (by kernel_rfl) (fun _ _ _ h => h) (Or.inr ⟨by rfl, rfl⟩) (by assumption) ?rest28x1
  try simp only [Act.put, List.setIfInBounds_toArray, List.set_cons_zero, List.set_cons_succ]
  refine wpAnyH_take (i := 29) (oi := { dst := some 41, op := Op.call { callee := Callee.value (Operand.func 78), args := #[Operand.tmp 36, Operand.tmp 40], argTypes := #[25, 47] }, type := 4, pos := "weight.go:68", after := #[{ on := 24, ground := Ground.data }, { on := 28, ground := Ground.data }, { on := 20, ground := Ground.chain }, { on := 20, ground := Ground.guard }], guard := some (20, true) }) (v := undef) rfl (by kernel_rfl) (by kernel_rfl) (by kernel_rfl) (fun _ _ _ h => h) (Or.inr ⟨by rfl, rfl⟩) (by assumption) ?rest29x1
  try simp only [Act.put, List.setIfInBounds_toArray, List.set_cons_zero, List.set_cons_succ]
  refine wpAnyH_take (i := 30) (oi := { dst := some 42, op := Op.pick (Operand.tmp 32) (Operand.tmp 41) (Operand.const (Value.bool false)), type := 4, pos := "weight.go:68", after := #[{ on := 20, ground := Ground.data }, { on := 29, ground := Ground.data }], guard := none }) (v := ?v30x1) rfl (by kernel_rfl) (by kernel_rfl) (by kernel_rfl) (fun _ _ _ h => h) (Or.inl ⟨by rfl, ?hy30x1⟩) (by assumption) ?rest30x1
  case hy30x1 => (intro w hSw; (try dsimp only at hSw); go_simp; try with_reducible rfl)
  try simp only [Act.put, List.setIfInBounds_toArray, List.set_cons_zero, List.set_cons_succ]
  refine wpAnyH_take (i := 31) (oi := { dst := some 4, op := Op.assign (Operand.tmp 42), type := 4, pos := "weight.go:68", after := #[{ on := 30, ground := Ground.data }, { on := 29, ground := Ground.chain }, { on := 0, ground := Ground.phase }, { on := 1, ground := Ground.phase }, { on := 2, ground := Ground.phase }, { on := 3, ground := Ground.phase }, { on := 4, ground := Ground.phase }, { on := 5, ground := Ground.phase }, { on := 6, ground := Ground.phase }, { on := 7, ground := Ground.phase }, { on := 8, ground := Ground.phase }, { on := 9, ground := Ground.phase }, { on := 10, ground := Ground.phase }, { on := 11, ground := Ground.phase }, { on := 12, ground := Ground.phase }, { on := 13, ground := Ground.phase }, { on := 14, ground := Ground.phase }, { on := 15, ground := Ground.phase }, { on := 16, ground := Ground.phase }, { on := 17, ground := Ground.phase }, { on := 18, ground := Ground.phase }, { on := 19, ground := Ground.phase }, { on := 20, ground := Ground.phase }, { on := 21, ground := Ground.phase }, { on := 22, ground := Ground.phase }, { on := 23, ground := Ground.phase }, { on := 24, ground := Ground.phase }, { on := 25, ground := Ground.phase }, { on := 26, ground := Ground.phase }, { on := 27, ground := Ground.phase }, { on := 28, ground := Ground.phase }, { on := 29, ground := Ground.phase }, { on := 30, ground := Ground.phase }], guard := none }) (v := ?v31x1) rfl (by kernel_rfl) (by kernel_rfl) (by kernel_rfl) (fun _ _ _ h => h) (Or.inl ⟨by rfl, ?hy31x1⟩) (by assumption) ?rest31x1
  case hy31x1 => (intro w hSw; (try dsimp only at hSw); go_simp; try with_reducible rfl)
  try simp only [Act.put, List.setIfInBounds_toArray, List.set_cons_zero, List.set_cons_succ]
  refine wpAnyH_done (by kernel_rfl) ?_ _
  all_goals (go_wp2_with fail; go_ret; exact ⟨rbool HF.out, hB1.trans (D1.out.mono hB1.size)⟩)
 ·have HF : Hid (r2 = r) := by show _ = _; rw [← HRR.out]; simp
  go_enter Tryd.func78, Tryd.ntmps78
  go_wp2_with fail
  refine (bare_is 5 0 _ 2 sc ⟨false, gc, gg, gra, grl, grc, grows, gca, gcl, gcc, gcells, (some ⟨b2, of2, none⟩), 2, gpc⟩ true HBB.out _).mono ?_
  rintro e w1 ⟨rfl, hb1⟩
  have hB1 := hB.out.trans (hb1.mono hB.out.size)
  have EN : Hid (∀ W : World, Below w1.heap.size w1 W → W.cell? ⟨w.heap.size, 0, none⟩ = some (.int .i64 5) ∧ W.cell? ⟨w.heap.size, 1, none⟩ = some (.int .i64 0) ∧ W.cell? ⟨w.heap.size, 2, none⟩ = some (.slice (some ⟨b, off, none⟩) 2 sc) ∧ W.cell? ⟨w.heap.size + 1, 0, none⟩ = some (.bool false) ∧ W.cell? ⟨w.heap.size + 1, 1, none⟩ = some (.int .i64 gc) ∧ W.cell? ⟨w.heap.size + 1, 2, none⟩ = some (.int .u64 (gg : Int)) ∧ W.cell? ⟨w.heap.size + 1, 3, none⟩ = some (.slice gra grl grc) ∧ W.cell? ⟨w.heap.size + 1, 4, none⟩ = some (.slice gca gcl gcc) ∧ W.cell? ⟨w.heap.size + 1, 5, none⟩ = some (.slice (some ⟨b2, of2, none⟩) 2 gpc) ∧ W.cell? ⟨b, off, none⟩ = some (.int .i64 pt) ∧ W.cell? ⟨b, off + 1, none⟩ = some (.int .i64 pn) ∧ W.cell? ⟨b, off + 2, none⟩ = some (.slice pa pl pc) ∧ W.cell? ⟨b, off + 3, none⟩ = some (.int .i64 qt) ∧ W.cell? ⟨b, off + 4, none⟩ = some (.int .i64 qn) ∧ W.cell? ⟨b, off + 5, none⟩ = some (.slice qa ql qc) ∧ W.cell? ⟨b2, of2, none⟩ = some (.bool xz) ∧ W.cell? ⟨b2, of2 + 1, none⟩ = some (.int .i64 xc) ∧ W.cell? ⟨b2, of2 + 2, none⟩ = some (.int .u64 (xg : Int)) ∧ W.cell? ⟨b2, of2 + 3, none⟩ = some (.slice xra xrl xrc) ∧ W.cell? ⟨b2, of2 + 4, none⟩ = some (.slice xca xcl xcc) ∧ W.cell? ⟨b2, of2 + 5, none⟩ = some (.slice xpa xpl xpc) ∧ W.cell? ⟨b2, of2 + 6, none⟩ = some (.bool yz) ∧ W.cell? ⟨b2, of2 + 7, none⟩ = some (.int .i64 yc) ∧ W.cell? ⟨b2, of2 + 8, none⟩ = some (.int .u64 (yg : Int)) ∧ W.cell? ⟨b2, of2 + 9, none⟩ = some (.slice yra yrl yrc) ∧ W.cell? ⟨b2, of2 + 10, none⟩ = some (.slice yca ycl ycc) ∧ W.cell? ⟨b2, of2 + 11, none⟩ = some (.slice ypa ypl ypc)) := fun W h => by
   obtain ⟨a0, a1, a2⟩ := tri_cells (heap_old (heap_old T0.out hb1) h); obtain ⟨c0, c1, c2, c3, c4, c5⟩ := six_cells (heap_old (heap_old T1.out hb1) h)
   have hww : Below w.heap.size w W := hB1.trans (h.mono hB1.size)
   obtain ⟨d0, d1, d2⟩ := HP3.out.below hww; obtain ⟨e0, e1, e2⟩ := HQ3.out.below hww; obtain ⟨f0, f1, f2, f3, f4, f5⟩ := HX6.out.below hww; obtain ⟨g0, g1, g2, g3, g4, g5⟩ := HY6.out.below hww
   exact ⟨a0, a1, a2, c0, c1, c2, c3, c4, c5, d0, d1, d2, e0, e1, e2, f0, f1, f2, f3, f4, f5, g0, g1, g2, g3, g4, g5⟩
  clear x0 x1 x2 y0 y1 y2 y3 y4 y5
  obtain ⟨m0, m1, m2, m3, m4, m5, m6, m7, m8, m9, m10, m11, m12, m13, m14, m15, m16, m17, m18, m19, m20, m21, m22, m23, m24, m25, m26⟩ := EN.out _ (Below.refl _ _)
  have D0 : Hid (Below w1.heap.size w1 w1.drew) := (Below.refl _ _).drew
  go_wp2_with fail
  refine wp_region_held_drew (S := (fun w' => w'.cell? ⟨w.heap.size, 0, none⟩ = some (.int .i64 5) ∧ w'.cell? ⟨w.heap.size, 1, none⟩ = some (.int .i64 0) ∧ w'.cell? ⟨w.heap.size, 2, none⟩ = some (.slice (some ⟨b, off, none⟩) 2 sc) ∧ w'.cell? ⟨w.heap.size + 1, 0, none⟩ = some (.bool false) ∧ w'.cell? ⟨w.heap.size + 1, 1, none⟩ = some (.int .i64 gc) ∧ w'.cell? ⟨w.heap.size + 1, 2, none⟩ = some (.int .u64 (gg : Int)) ∧ w'.cell? ⟨w.heap.size + 1, 3, none⟩ = some (.slice gra grl grc) ∧ w'.cell? ⟨w.heap.size + 1, 4, none⟩ = some (.slice gca gcl gcc) ∧ w'.cell? ⟨w.heap.size + 1, 5, none⟩ = some (.slice (some ⟨b2, of2, none⟩) 2 gpc) ∧ w'.cell? ⟨b, off, none⟩ = some (.int .i64 pt) ∧ w'.cell? ⟨b, off + 1, none⟩ = some (.int .i64 pn) ∧ w'.cell? ⟨b, off + 2, none⟩ = some (.slice pa pl pc) ∧ w'.cell? ⟨b, off + 3, none⟩ = some (.int .i64 qt) ∧ w'.cell? ⟨b, off + 4, none⟩ = some (.int .i64 qn) ∧ w'.cell? ⟨b, off + 5, none⟩ = some (.slice qa ql qc) ∧ w'.cell? ⟨b2, of2, none⟩ = some (.bool xz) ∧ w'.cell? ⟨b2, of2 + 1, none⟩ = some (.int .i64 xc) ∧ w'.cell? ⟨b2, of2 + 2, none⟩ = some (.int .u64 (xg : Int)) ∧ w'.cell? ⟨b2, of2 + 3, none⟩ = some (.slice xra xrl xrc) ∧ w'.cell? ⟨b2, of2 + 4, none⟩ = some (.slice xca xcl xcc) ∧ w'.cell? ⟨b2, of2 + 5, none⟩ = some (.slice xpa xpl xpc) ∧ w'.cell? ⟨b2, of2 + 6, none⟩ = some (.bool yz) ∧ w'.cell? ⟨b2, of2 + 7, none⟩ = some (.int .i64 yc) ∧ w'.cell? ⟨b2, of2 + 8, none⟩ = some (.int .u64 (yg : Int)) ∧ w'.cell? ⟨b2, of2 + 9, none⟩ = some (.slice yra yrl yrc) ∧ w'.cell? ⟨b2, of2 + 10, none⟩ = some (.slice yca ycl ycc) ∧ w'.cell? ⟨b2, of2 + 11, none⟩ = some (.slice ypa ypl ypc))) (by kernel_rfl) (by with_reducible exact EN.out _ D0.out) (fun hHeld => ?_)
  refine wpAnyH_take (i := 0) (oi := { dst := some 12, op := Op.fieldAddr 47 (Operand.tmp 3) 0, type := 0, pos := "weight.go:68", after := #[], guard := none }) (v := ?v0x2) rfl (by kernel_rfl) (by kernel_rfl) (by kernel_rfl) (fun _ _ _ h => h) (Or.inl ⟨by rfl, ?hy0x2⟩) (by assumption) ?rest0x2
  case hy0x2 => (intro w hSw; (try dsimp only at hSw); go_simp; try with_reducible rfl)
  try simp only [Act.put, List.setIfInBounds_toArray, List.set_cons_zero, List.set_cons_succ]
  refine wpAnyH_take (i := 1) (oi := { dst := some 13, op := Op.load 4 (Operand.tmp 12), type := 4, pos := "weight.go:68", after := #[{ on := 0, ground := Ground.data }], guard := none }) (v := ?v1x2) rfl (by kernel_rfl) (by kernel_rfl) (by kernel_rfl) (fun _ _ _ h => h) (Or.inl ⟨by rfl, ?hy1x2⟩) (by assumption) ?rest1x2
  case hy1x2 => (intro w hSw; (try dsimp only at hSw); go_simp; try with_reducible rfl)
  try simp only [Act.put, List.setIfInBounds_toArray, List.set_cons_zero, List.set_cons_succ]
  refine wpAnyH_take (i := 2) (oi := { dst := some 14, op := Op.unOp UnOp.not 4 (Operand.tmp 13), type := 4, pos := "weight.go:68", after := #[{ on := 1, ground := Ground.data }], guard := none }) (v := ?v2x2) rfl (by kernel_rfl) (by kernel_rfl) (by kernel_rfl) (fun _ _ _ h => h) (Or.inl ⟨by rfl, ?hy2x2⟩) (by assumption) ?rest2x2
  case hy2x2 => (intro w hSw; (try dsimp only at hSw); go_simp; try with_reducible rfl)
  try simp only [Act.put, List.setIfInBounds_toArray, List.set_cons_zero, List.set_cons_succ]
  refine wpAnyH_take (i := 3) (oi := { dst := some 15, op := Op.move (Operand.tmp 14), type := 4, pos := "weight.go:68", after := #[{ on := 2, ground := Ground.data }], guard := none }) (v := ?v3x2) rfl (by kernel_rfl) (by kernel_rfl) (by kernel_rfl) (fun _ _ _ h => h) (Or.inl ⟨by rfl, ?hy3x2⟩) (by assumption) ?rest3x2
  case hy3x2 => (intro w hSw; (try dsimp only at hSw); go_simp; try with_reducible rfl)
  try simp only [Act.put, List.setIfInBounds_toArray, List.set_cons_zero, List.set_cons_succ]
  refine wpAnyH_take (i := 4) (oi := { dst := some 16, op := Op.fieldAddr 47 (Operand.tmp 3) 4, type := 0, pos := "weight.go:68", after := #[{ on := 3, ground := Ground.guard }], guard := some (3, true) }) (v := ?v4x2) rfl (by kernel_rfl) (by kernel_rfl) (by kernel_rfl) (fun _ _ _ h => h) (Or.inl ⟨by rfl, ?hy4x2⟩) (by assumption) ?rest4x2
  case hy4x2 => (intro w hSw; (try dsimp only at hSw); go_simp; try with_reducible rfl)
  try simp only [Act.put, List.setIfInBounds_toArray, List.set_cons_zero, List.set_cons_succ]
  refine wpAnyH_take (i := 5) (oi := { dst := some 17, op := Op.load 45 (Operand.tmp 16), type := 45, pos := "weight.go:68", after := #[{ on := 4, ground := Ground.data }, { on := 3, ground := Ground.guard }], guard := some (3, true) }) (v := ?v5x2) rfl (by kernel_rfl) (by kernel_rfl) (by kernel_rfl) (fun _ _ _ h => h) (Or.inl ⟨by rfl, ?hy5x2⟩) (by assumption) ?rest5x2
  case hy5x2 => (intro w hSw; (try dsimp only at hSw); go_simp; try with_reducible rfl)
  try simp only [Act.put, List.setIfInBounds_toArray, List.set_cons_zero, List.set_cons_succ]
  refine wpAnyH_take (i := 6) (oi := { dst := some 18, op := Op.call { callee := Callee.builtin Builtin.len, args := #[Operand.tmp 17], argTypes := #[45] }, type := 3, pos := "weight.go:68", after := #[{ on := 5, ground := Ground.data }, { on := 3, ground := Ground.guard }], guard := some (3, true) }) (v := ?v6x2) rfl (by kernel_rfl) (by kernel_rfl) (by kernel_rfl) (fun _ _ _ h => h) (Or.inl ⟨by rfl, ?hy6x2⟩) (by assumption) ?rest6x2
  case hy6x2 => (intro w hSw; (try dsimp only at hSw); go_simp; try with_reducible rfl)
  try simp only [Act.put, List.setIfInBounds_toArray, List.set_cons_zero, List.set_cons_succ]
  refine wpAnyH_take (i := 7) (oi := { dst := some 19, op := Op.binOp BinOp.eql 3 (Operand.tmp 18) (Operand.const (Value.int IntKind.i64 2)) 3, type := 4, pos := "weight.go:68", after := #[{ on := 6, ground := Ground.data }, { on := 3, ground := Ground.guard }], guard := some (3, true) }) (v := ?v7x2) rfl (by kernel_rfl) (by kernel_rfl) (by kernel_rfl) (fun _ _ _ h => h) (Or.inl ⟨by rfl, ?hy7x2⟩) (by assumption) ?rest7x2
  case hy7x2 => (intro w hSw; (try dsimp only at hSw); go_simp; try with_reducible rfl)
  try simp only [Act.put, List.setIfInBounds_toArray, List.set_cons_zero, List.set_cons_succ]
  refine wpAnyH_take (i := 8) (oi := { dst := some 20, op := Op.pick (Operand.tmp 15) (Operand.tmp 19) (Operand.const (Value.bool false)), type := 4, pos := "weight.go:68", after := #[{ on := 3, ground := Ground.data }, { on := 7, ground := Ground.data }], guard := none }) (v := ?v8x2) rfl (by kernel_rfl) (by kernel_rfl) (by kernel_rfl) (fun _ _ _ h => h) (Or.inl ⟨by rfl, ?hy8x2⟩) (by assumption) ?rest8x2
  case hy8x2 => (intro w hSw; (try dsimp only at hSw); go_simp; try with_reducible rfl)
  try simp only [Act.put, List.setIfInBounds_toArray, List.set_cons_zero, List.set_cons_succ]
  refine wpAnyH_take (i := 9) (oi := { dst := some 21, op := Op.move (Operand.tmp 20), type := 4, pos := "weight.go:68", after := #[{ on := 8, ground := Ground.data }, { on := 3, ground := Ground.chain }], guard := none }) (v := ?v9x2) rfl (by kernel_rfl) (by kernel_rfl) (by kernel_rfl) (fun _ _ _ h => h) (Or.inl ⟨by rfl, ?hy9x2⟩) (by assumption) ?rest9x2
  case hy9x2 => (intro w hSw; (try dsimp only at hSw); go_simp; try with_reducible rfl)
  try simp only [Act.put, List.setIfInBounds_toArray, List.set_cons_zero, List.set_cons_succ]
  refine wpAnyH_take (i := 10) (oi := { dst := some 22, op := Op.fieldAddr 25 (Operand.tmp 2) 2, type := 0, pos := "weight.go:68", after := #[{ on := 9, ground := Ground.guard }], guard := some (9, true) }) (v := ?v10x2) rfl (by kernel_rfl) (by kernel_rfl) (by kernel_rfl) (fun _ _ _ h => h) (Or.inl ⟨by rfl, ?hy10x2⟩) (by assumption) ?rest10x2
  case hy10x2 => (intro w hSw; (try dsimp only at hSw); go_simp; try with_reducible rfl)
  try simp only [Act.put, List.setIfInBounds_toArray, List.set_cons_zero, List.set_cons_succ]
  refine wpAnyH_take (i := 11) (oi := { dst := some 23, op := Op.load 23 (Operand.tmp 22), type := 23, pos := "weight.go:68", after := #[{ on := 10, ground := Ground.data }, { on := 9, ground := Ground.guard }], guard := some (9, true) }) (v := ?v11x2) rfl (by kernel_rfl) (by kernel_rfl) (by kernel_rfl) (fun _ _ _ h => h) (Or.inl ⟨by rfl, ?hy11x2⟩) (by assumption) ?rest11x2
  case hy11x2 => (intro w hSw; (try dsimp only at hSw); go_simp; try with_reducible rfl)
  try simp only [Act.put, List.setIfInBounds_toArray, List.set_cons_zero, List.set_cons_succ]
  refine wpAnyH_take (i := 12) (oi := { dst := some 24, op := Op.indexAddr 23 (Operand.tmp 23) (Operand.const (Value.int IntKind.i64 0)), type := 0, pos := "weight.go:68", after := #[{ on := 11, ground := Ground.data }, { on := 9, ground := Ground.guard }], guard := some (9, true) }) (v := ?v12x2) rfl (by kernel_rfl) (by kernel_rfl) (by kernel_rfl) (fun _ _ _ h => h) (Or.inl ⟨by rfl, ?hy12x2⟩) (by assumption) ?rest12x2
  case hy12x2 => (intro w hSw; (try dsimp only at hSw); go_simp; try with_reducible rfl)
  try simp only [Act.put, List.setIfInBounds_toArray, List.set_cons_zero, List.set_cons_succ]
  refine wpAnyH_take (i := 13) (oi := { dst := some 25, op := Op.load 25 (Operand.tmp 24), type := 25, pos := "weight.go:68", after := #[{ on := 12, ground := Ground.data }, { on := 9, ground := Ground.guard }], guard := some (9, true) }) (v := ?v13x2) rfl (by kernel_rfl) (by kernel_rfl) (by kernel_rfl) (fun _ _ _ h => h) (Or.inl ⟨by rfl, ?hy13x2⟩) (by assumption) ?rest13x2
  case hy13x2 => (intro w hSw; (try dsimp only at hSw); go_simp; try with_reducible rfl)
  try simp only [Act.put, List.setIfInBounds_toArray, List.set_cons_zero, List.set_cons_succ]
  refine wpAnyH_take (i := 14) (oi := { dst := some 26, op := Op.fieldAddr 47 (Operand.tmp 3) 4, type := 0, pos := "weight.go:68", after := #[{ on := 9, ground := Ground.guard }], guard := some (9, true) }) (v := ?v14x2) rfl (by kernel_rfl) (by kernel_rfl) (by kernel_rfl) (fun _ _ _ h => h) (Or.inl ⟨by rfl, ?hy14x2⟩) (by assumption) ?rest14x2
  case hy14x2 => (intro w hSw; (try dsimp only at hSw); go_simp; try with_reducible rfl)
  try simp only [Act.put, List.setIfInBounds_toArray, List.set_cons_zero, List.set_cons_succ]
  refine wpAnyH_take (i := 15) (oi := { dst := some 27, op := Op.load 45 (Operand.tmp 26), type := 45, pos := "weight.go:68", after := #[{ on := 14, ground := Ground.data }, { on := 9, ground := Ground.guard }], guard := some (9, true) }) (v := ?v15x2) rfl (by kernel_rfl) (by kernel_rfl) (by kernel_rfl) (fun _ _ _ h => h) (Or.inl ⟨by rfl, ?hy15x2⟩) (by assumption) ?rest15x2
  case hy15x2 => (intro w hSw; (try dsimp only at hSw); go_simp; try with_reducible rfl)
  try simp only [Act.put, List.setIfInBounds_toArray, List.set_cons_zero, List.set_cons_succ]
  refine wpAnyH_take (i := 16) (oi := { dst := some 28, op := Op.indexAddr 45 (Operand.tmp 27) (Operand.const (Value.int IntKind.i64 0)), type := 0, pos := "weight.go:68", after := #[{ on := 15, ground := Ground.data }, { on := 9, ground := Ground.guard }], guard := some (9, true) }) (v := ?v16x2) rfl (by kernel_rfl) (by kernel_rfl) (by kernel_rfl) (fun _ _ _ h => h) (Or.inl ⟨by rfl, ?hy16x2⟩) (by assumption) ?rest16x2
  case hy16x2 => (intro w hSw; (try dsimp only at hSw); go_simp; try with_reducible rfl)
  try simp only [Act.put, List.setIfInBounds_toArray, List.set_cons_zero, List.set_cons_succ]
  refine wpAnyH_take (i := 17) (oi := { dst := some 29, op := Op.load 47 (Operand.tmp 28), type := 47, pos := "weight.go:68", after := #[{ on := 16, ground := Ground.data }, { on := 9, ground := Ground.guard }], guard := some (9, true) }) (v := ?v17x2) rfl (by kernel_rfl) (by kernel_rfl) (by kernel_rfl) (fun _ _ _ h => h) (Or.inl ⟨by rfl, ?hy17x2⟩) (by assumption) ?rest17x2
  case hy17x2 => (intro w hSw; (try dsimp only at hSw); go_simp; try with_reducible rfl)
  try simp only [Act.put, List.setIfInBounds_toArray, List.set_cons_zero, List.set_cons_succ]
  refine wpAnyH_ready (rs := [18]) (by kernel_rfl) (by simp) (AllReadyH.cons (o := { dst := some 30, op := Op.call { callee := Callee.value (Operand.func 78), args := #[Operand.tmp 25, Operand.tmp 29], argTypes := #[25, 47] }, type := 4, pos := "weight.go:68", after := #[{ on := 13, ground := Ground.data }, { on := 17, ground := Ground.data }, { on := 9, ground := Ground.chain }, { on := 9, ground := Ground.guard }], guard := some (9, true) }) rfl (fun K hK => ?_) AllReadyH.nil)
  go_simp
  go_at_call 78
  with_reducible refine (isA_plainY pt pn pa pl pc ⟨xz, xc, xg, xra, xrl, xrc, xrows, xca, xcl, xcc, xcells, xpa, xpl, xpc⟩ HP.out XSS.out _ (XAA.out.below (hB1.trans ((D0.out).mono hB1.size))) true HR1.out).mono ?_
  rintro e z1 ⟨rfl, hz1⟩
  have D1 : Hid (Below w1.heap.size w1 z1) := Lib.hid (D0.out.trans (hz1.mono D0.out.size))
  dsimp only
  refine hK.out _ _ (by with_reducible exact EN.out _ D1.out) (fun hHeld1 => ?_)
  clear hK K
  try simp only [Act.put, List.setIfInBounds_toArray, List.set_cons_zero, List.set_cons_succ]
  refine wpAnyH_take (i := 19) (oi := { dst := some 31, op := Op.pick (Operand.tmp 21) (Operand.tmp 30) (Operand.const (Value.bool false)), type := 4, pos := "weight.go:68", after := #[{ on := 9, ground := Ground.data }, { on := 18, ground := Ground.data }], guard := none }) (v := ?v19x2) rfl (by kernel_rfl) (by kernel_rfl) (by kernel_rfl) (fun _ _ _ h => h) (Or.inl ⟨by rfl, ?hy19x2⟩) (by assumption) ?rest19x2
  case hy19x2 => (intro w hSw; (try dsimp only at hSw); go_simp; try with_reducible rfl)
  try simp only [Act.put, List.setIfInBounds_toArray, List.set_cons_zero, List.set_cons_succ]
  refine wpAnyH_take (i := 20) (oi := { dst := some 32, op := Op.move (Operand.tmp 31), type := 4, pos := "weight.go:68", after := #[{ on := 19, ground := Ground.data }, { on := 18, ground := Ground.chain }], guard := none }) (v := ?v20x2) rfl (by kernel_rfl) (by kernel_rfl) (by kernel_rfl) (fun _ _ _ h => h) (Or.inl ⟨by rfl, ?hy20x2⟩) (by assumption) ?rest20x2
  case hy20x2 => (intro w hSw; (try dsimp only at hSw); go_simp; try with_reducible rfl)
  try simp only [Act.put, List.setIfInBounds_toArray, List.set_cons_zero, List.set_cons_succ]
  refine wpAnyH_take (i := 21) (oi := { dst := some 33, op := Op.fieldAddr 25 (Operand.tmp 2) 2, type := 0, pos := "weight.go:68", after := #[{ on := 20, ground := Ground.guard }], guard := some (20, true) }) (v := ?v21x2) rfl (by kernel_rfl) (by kernel_rfl) (by kernel_rfl) (fun _ _ _ h => h) (Or.inl ⟨by rfl, ?hy21x2⟩) (by assumption) ?rest21x2
  case hy21x2 => (intro w hSw; (try dsimp only at hSw); go_simp; try with_reducible rfl)
  try simp only [Act.put, List.setIfInBounds_toArray, List.set_cons_zero, List.set_cons_succ]
  refine wpAnyH_take (i := 22) (oi := { dst := some 34, op := Op.load 23 (Operand.tmp 33), type := 23, pos := "weight.go:68", after := #[{ on := 21, ground := Ground.data }, { on := 20, ground := Ground.guard }], guard := some (20, true) }) (v := ?v22x2) rfl (by kernel_rfl) (by kernel_rfl) (by kernel_rfl) (fun _ _ _ h => h) (Or.inl ⟨by rfl, ?hy22x2⟩) (by assumption) ?rest22x2
  case hy22x2 => (intro w hSw; (try dsimp only at hSw); go_simp; try with_reducible rfl)
  try simp only [Act.put, List.setIfInBounds_toArray, List.set_cons_zero, List.set_cons_succ]
  refine wpAnyH_take (i := 23) (oi := { dst := some 35, op := Op.indexAddr 23 (Operand.tmp 34) (Operand.const (Value.int IntKind.i64 1)), type := 0, pos := "weight.go:68", after := #[{ on := 22, ground := Ground.data }, { on := 20, ground := Ground.guard }], guard := some (20, true) }) (v := ?v23x2) rfl (by kernel_rfl) (by kernel_rfl) (by kernel_rfl) (fun _ _ _ h => h) (Or.inl ⟨by rfl, ?hy23x2⟩) (by assumption) ?rest23x2
  case hy23x2 => (intro w hSw; (try dsimp only at hSw); go_simp; try with_reducible rfl)
  try simp only [Act.put, List.setIfInBounds_toArray, List.set_cons_zero, List.set_cons_succ]
  refine wpAnyH_take (i := 24) (oi := { dst := some 36, op := Op.load 25 (Operand.tmp 35), type := 25, pos := "weight.go:68", after := #[{ on := 23, ground := Ground.data }, { on := 20, ground := Ground.guard }], guard := some (20, true) }) (v := ?v24x2) rfl (by kernel_rfl) (by kernel_rfl) (by kernel_rfl) (fun _ _ _ h => h) (Or.inl ⟨by rfl, ?hy24x2⟩) (by assumption) ?rest24x2
  case hy24x2 => (intro w hSw; (try dsimp only at hSw); go_simp; try with_reducible rfl)
  try simp only [Act.put, List.setIfInBounds_toArray, List.set_cons_zero, List.set_cons_succ]
  refine wpAnyH_take (i := 25) (oi := { dst := some 37, op := Op.fieldAddr 47 (Operand.tmp 3) 4, type := 0, pos := "weight.go:68", after := #[{ on := 20, ground := Ground.guard }], guard := some (20, true) }) (v := ?v25x2) rfl (by kernel_rfl) (by kernel_rfl) (by kernel_rfl) (fun _ _ _ h => h) (Or.inl ⟨by rfl, ?hy25x2⟩) (by assumption) ?rest25x2
  case hy25x2 => (intro w hSw; (try dsimp only at hSw); go_simp; try with_reducible rfl)
  try simp only [Act.put, List.setIfInBounds_toArray, List.set_cons_zero, List.set_cons_succ]
  refine wpAnyH_take (i := 26) (oi := { dst := some 38, op := Op.load 45 (Operand.tmp 37), type := 45, pos := "weight.go:68", after := #[{ on := 25, ground := Ground.data }, { on := 20, ground := Ground.guard }], guard := some (20, true) }) (v := ?v26x2) rfl (by kernel_rfl) (by kernel_rfl) (by kernel_rfl) (fun _ _ _ h => h) (Or.inl ⟨by rfl, ?hy26x2⟩) (by assumption) ?rest26x2
  case hy26x2 => (intro w hSw; (try dsimp only at hSw); go_simp; try with_reducible rfl)
  try simp only [Act.put, List.setIfInBounds_toArray, List.set_cons_zero, List.set_cons_succ]
  refine wpAnyH_take (i := 27) (oi := { dst := some 39, op := Op.indexAddr 45 (Operand.tmp 38) (Operand.const (Value.int IntKind.i64 1)), type := 0, pos := "weight.go:68", after := #[{ on := 26, ground := Ground.data }, { on := 20, ground := Ground.guard }], guard := some (20, true) }) (v := ?v27x2) rfl (by kernel_rfl) (by kernel_rfl) (by kernel_rfl) (fun _ _ _ h => h) (Or.inl ⟨by rfl, ?hy27x2⟩) (by assumption) ?rest27x2
  case hy27x2 => (intro w hSw; (try dsimp only at hSw); go_simp; try with_reducible rfl)
  try simp only [Act.put, List.setIfInBounds_toArray, List.set_cons_zero, List.set_cons_succ]
  refine wpAnyH_take (i := 28) (oi := { dst := some 40, op := Op.load 47 (Operand.tmp 39), type := 47, pos := "weight.go:68", after := #[{ on := 27, ground := Ground.data }, { on := 20, ground := Ground.guard }], guard := some (20, true) }) (v := ?v28x2) rfl (by kernel_rfl) (by kernel_rfl) (by kernel_rfl) (fun _ _ _ h => h) (Or.inl ⟨by rfl, ?hy28x2⟩) (by assumption) ?rest28x2
  case hy28x2 => (intro w hSw; (try dsimp only at hSw); go_simp; try with_reducible rfl)
  try simp only [Act.put, List.setIfInBounds_toArray, List.set_cons_zero, List.set_cons_succ]
  refine wpAnyH_ready (rs := [29]) (by kernel_rfl) (by simp) (AllReadyH.cons (o := { dst := some 41, op := Op.call { callee := Callee.value (Operand.func 78), args := #[Operand.tmp 36, Operand.tmp 40], argTypes := #[25, 47] }, type := 4, pos := "weight.go:68", after := #[{ on := 24, ground := Ground.data }, { on := 28, ground := Ground.data }, { on := 20, ground := Ground.chain }, { on := 20, ground := Ground.guard }], guard := some (20, true) }) rfl (fun K hK => ?_) AllReadyH.nil)
  go_simp
  go_at_call 78
  with_reducible refine (isA_plainY qt qn qa ql qc ⟨yz, yc, yg, yra, yrl, yrc, yrows, yca, ycl, ycc, ycells, ypa, ypl, ypc⟩ HQ.out YSS.out _ (YAA.out.below (hB1.trans ((D1.out).mono hB1.size))) r2 HR2.out).mono ?_
  rintro e z2 ⟨rfl, hz2⟩
  have D2 : Hid (Below w1.heap.size w1 z2) := Lib.hid (D1.out.trans (hz2.mono D1.out.size))
  dsimp only
  refine hK.out _ _ (by with_reducible exact EN.out _ D2.out) (fun hHeld2 => ?_)
  clear hK K
  try simp only [Act.put, List.setIfInBounds_toArray, List.set_cons_zero, List.set_cons_succ]
  refine wpAnyH_take (i := 30) (oi := { dst := some 42, op := Op.pick (Operand.tmp 32) (Operand.tmp 41) (Operand.const (Value.bool false)), type := 4, pos := "weight.go:68", after := #[{ on := 20, ground := Ground.data }, { on := 29, ground := Ground.data }], guard := none }) (v := ?v30x2) rfl (by kernel_rfl) (by kernel_rfl) (by kernel_rfl) (fun _ _ _ h => h) (Or.inl ⟨by rfl, ?hy30x2⟩) (by assumption) ?rest30x2
  case hy30x2 => (intro w hSw; (try dsimp only at hSw); go_simp; try with_reducible rfl)
  try simp only [Act.put, List.setIfInBounds_toArray, List.set_cons_zero, List.set_cons_succ]
  refine wpAnyH_take (i := 31) (oi := { dst := some 4, op := Op.assign (Operand.tmp 42), type := 4, pos := "weight.go:68", after := #[{ on := 30, ground := Ground.data }, { on := 29, ground := Ground.chain }, { on := 0, ground := Ground.phase }, { on := 1, ground := Ground.phase }, { on := 2, ground := Ground.phase }, { on := 3, ground := Ground.phase }, { on := 4, ground := Ground.phase }, { on := 5, ground := Ground.phase }, { on := 6, ground := Ground.phase }, { on := 7, ground := Ground.phase }, { on := 8, ground := Ground.phase }, { on := 9, ground := Ground.phase }, { on := 10, ground := Ground.phase }, { on := 11, ground := Ground.phase }, { on := 12, ground := Ground.phase }, { on := 13, ground := Ground.phase }, { on := 14, ground := Ground.phase }, { on := 15, ground := Ground.phase }, { on := 16, ground := Ground.phase }, { on := 17, ground := Ground.phase }, { on := 18, ground := Ground.phase }, { on := 19, ground := Ground.phase }, { on := 20, ground := Ground.phase }, { on := 21, ground := Ground.phase }, { on := 22, ground := Ground.phase }, { on := 23, ground := Ground.phase }, { on := 24, ground := Ground.phase }, { on := 25, ground := Ground.phase }, { on := 26, ground := Ground.phase }, { on := 27, ground := Ground.phase }, { on := 28, ground := Ground.phase }, { on := 29, ground := Ground.phase }, { on := 30, ground := Ground.phase }], guard := none }) (v := ?v31x2) rfl (by kernel_rfl) (by kernel_rfl) (by kernel_rfl) (fun _ _ _ h => h) (Or.inl ⟨by rfl, ?hy31x2⟩) (by assumption) ?rest31x2
  case hy31x2 => (intro w hSw; (try dsimp only at hSw); go_simp; try with_reducible rfl)
  try simp only [Act.put, List.setIfInBounds_toArray, List.set_cons_zero, List.set_cons_succ]
  refine wpAnyH_done (by kernel_rfl) ?_ _
  all_goals (go_wp2_with fail; go_ret; exact ⟨rbool HF.out, hB1.trans (D2.out.mono hB1.size)⟩)
end Go.Proofs.YtfkbkekgnoanaaaDoor
namespace Go.Proofs.YtfkbkekgnoanaaaDoor
open Go.RowKit
def mixL (ys xs : List Nat) (k : Nat) : List Nat := ys.take k ++ xs.drop k
theorem mixL_set {ys xs : List Nat} {k x y : Nat} (hy : ys[k]? = some y) (hx : xs[k]? = some x) : (mixL ys xs k).set k y = mixL ys xs (k + 1) := by
 obtain ⟨hk, ex⟩ := List.getElem?_eq_some_iff.1 hx
 obtain ⟨hk2, ey⟩ := List.getElem?_eq_some_iff.1 hy
 unfold mixL
 have hl : (ys.take k).length = k := by rw [List.length_take]; omega
 rw [List.set_append_right _ _ (by omega), hl, Nat.sub_self, List.drop_eq_getElem_cons hk, List.set_cons_zero, List.take_succ_eq_append_getElem hk2, ey, List.append_assoc]
 rfl
theorem mixL_at {ys xs : List Nat} {k x : Nat} (hl : ys.length = xs.length) (hx : xs[k]? = some x) : (mixL ys xs k)[k]? = some x := by
 obtain ⟨hk, ex⟩ := List.getElem?_eq_some_iff.1 hx
 unfold mixL
 have h2 : (ys.take k).length = k := by rw [List.length_take]; omega
 rw [List.getElem?_append_right (by omega), h2, Nat.sub_self, List.getElem?_drop, Nat.add_zero, hx]
theorem mixL_zero (ys xs : List Nat) : mixL ys xs 0 = xs := by simp [mixL]
theorem mixL_all {ys xs : List Nat} (hl : ys.length = xs.length) : mixL ys xs xs.length = ys := by
 unfold mixL
 rw [List.take_of_length_le (by omega), List.drop_of_length_le (Nat.le_refl _), List.append_nil]
theorem u64s_set (l : List Nat) (k y : Nat) : (u64s l).set k (.int .u64 (y : Int)) = u64s (l.set k y) := by
 unfold u64s; rw [List.map_set]
theorem u64s_get {l : List Nat} {k x : Nat} (h : l[k]? = some x) : (u64s l)[k]? = some (.int .u64 (x : Int)) := by
 unfold u64s; rw [List.getElem?_map, h]; rfl
theorem news_of_vrow {w : World} {ad : Addr} {vs : List Value} (h : VRow w (some ad) vs) : ∀ j u, vs[j]? = some u → w.cell? (ad.add j) = some u := by
 intro j u hj
 rcases h with h | ⟨b, off, ha, hc⟩
 ·subst h; simp at hj
 ·cases ha
  have := hc j u hj
  rw [← this]
  simp only [Addr.add]; split <;> simp_all
theorem u64s_one (l : List Nat) : ∀ u ∈ u64s l, u.oneCell' = true := by
 intro u hu
 unfold u64s at hu
 rw [List.mem_map] at hu
 obtain ⟨r, _, rfl⟩ := hu
 rfl
set_option maxHeartbeats 1000000 in
theorem clone_is (a : Option Addr) (cap : Nat) (xs : List Nat) (w : World) (hx : xs.length ≤ 100) (hra : URow w a xs) (n : Nat) (hn : xs.length = n) :
  Calls Tryd.prog 79 #[.slice a n cap] w fun e w' => ∃ v, e = .returned v ∧ w'.ownsRow w.heap.size 40 1 v n (u64s xs) ∧ Below w.heap.size w w' := by
 obtain ⟨i0, hi, hz0, hz1, hz2⟩ := info_parts infoU
 have q22 : ∀ (w : World) (a : Option Addr) (n c n' c' : Nat), (binOp .eql 41 (.slice a n c) (.slice none n' c')).run Tryd.prog w = .ok (.bool a.isNone) w := fun w a n c n' c' => Lib.run_eql_slice_nil w _ _ a n c n' c' Tryd.underlying41
 have HN := Lib.hid hn
 rw [hn] at hx
 cases a with
 | none =>
  have hcs : u64s xs = [] := by
   rcases hra with h | ⟨b, off, e, _⟩
   ·exact h
   ·cases e
  have hx0 : xs = [] := List.length_eq_zero_iff.1 (by rw [← u64s_length, hcs]; rfl)
  subst hx0
  obtain rfl : 0 = n := HN.out
  clear hra
  go_enter Tryd.func79, Tryd.ntmps79
  go_wp2
  go_ret
  exact ⟨_, rfl, World.ownsRow_nil _ _ _ _, Below.refl _ _⟩
 | some ad =>
  have HNW := Lib.hid (fun (o : Obj) => news_of_vrow (VRow.below hra ((Below.refl _ w).alloc (Nat.le_refl _) o)))
  have hown : (w.alloc (.cells #[] 40)).ownsRow w.heap.size 40 1 (.slice (some ⟨w.heap.size, 0, none⟩) 0 0) 0 [] := World.ownsRow_lit w #[] 0 (Nat.le_refl _) (by simp) rfl
  have HO := Lib.hid hown
  have hul : Hid ((u64s xs).length = n * 1) := by show _ = _; rw [u64s_length, hn, Nat.mul_one]
  clear hra hown hn
  go_enter Tryd.func79, Tryd.ntmps79
  go_wp2_with (at_builtin; go_loud (refine wpList_append_own _ rfl (.tmp 5) (.tmp 6) 41 rfl w.heap.size 40 i0 _ 1 8 Tryd.underlying41 hi hz0 hz1 hz2 rfl (by decide) _ _ _ rfl HO.out ad n cap (u64s xs) rfl hul.out (HNW.out _) (u64s_one xs) (by unfold maxLen; omega) (by omega) (by simp) ?_; intro v' w2 hown2 hgrow hnil))
  go_ret
  refine ⟨v', rfl, by simpa using hown2, ?_⟩
  exact ((Below.refl _ _).alloc (Nat.le_refl _) _).grown hgrow (by simp) (fun j e => by cases e; exact Nat.le_refl _)
structure OwnPost (w w' : World) (base n : Nat) (v : Value) (xs : List Nat) : Prop where
 own : w'.ownsRow base 40 1 v n (u64s xs)
 below : Below base w w'
 rest : ∀ j, j < w.heap.size → some j ≠ v.ownBlock → w'.heap[j]? = w.heap[j]?
set_option maxHeartbeats 1000000 in
theorem canonical_is (gen : Nat) (base n : Nat) (v : Value) (xs ys : List Nat) (w : World) (hgen : gen < 18446744073709551616) (hall : ∀ r ∈ xs, r < 18446744073709551616) (hx : xs.length ≤ 100) (hn : xs.length = n) (hb0 : base ≤ w.heap.size) (hown : w.ownsRow base 40 1 v n (u64s xs)) (hys : canonL gen xs = ys) :
  Calls Tryd.prog 99 #[.int .u64 gen, v] w fun e w' => e = .returned (.agg #[.int .u64 (gen : Int), v]) ∧ OwnPost w w' base n v ys := by
 have HALL := Lib.hid hall; have HN := Lib.hid hn
 have HYL : Hid (ys.length = xs.length) := by show _ = _; rw [← hys, canonL_length]
 have HYS := Lib.hid hys
 obtain ⟨a, cap, hv⟩ : ∃ a cap, v = .slice a n cap := by
  rcases hown.2 with ⟨h, h0⟩ | ⟨g, cap, cur, h, _⟩
  ·exact ⟨none, 0, by rw [h, h0]⟩
  ·exact ⟨_, _, h⟩
 subst hv
 have HO0 := Lib.hid hown
 rw [hn] at hx
 clear hown hys hall hn
 go_enter Tryd.func99, Tryd.ntmps99
 go_wp2_with fail
 go_loopw [8] (fun i wr => ∃ k : Nat, k ≤ n ∧ i = .int .i64 k ∧ Hid (wr.ownsRow base 40 1 (.slice a n cap) n (u64s (mixL ys xs k))) ∧ Hid (wr.heap[w.heap.size]? = some (.cells #[.int .u64 0, .slice none 0 0] 43 (0, 0))) ∧ Below base w wr ∧ Hid (∀ j, j < w.heap.size → some j ≠ (Value.slice a n cap).ownBlock → wr.heap[j]? = w.heap[j]?)) (fun i _ => n - (intOf i).toNat)
 case atStart =>
  refine ⟨0, Nat.zero_le _, rfl, ?_, heapV_new _ _, (Below.refl _ _).alloc hb0 _, fun j hj _ => Below.heap_alloc _ _ _ hj⟩
  rw [mixL_zero]
  exact HO0.out.alloc _
 case round =>
  obtain ⟨k, hk, rfl, HO, HR, hb, HX⟩ := hrel
  by_cases hlt : k < n
  ·obtain ⟨x, hx1⟩ : ∃ x, xs[k]? = some x := ⟨xs[k]'(by rw [HN.out]; exact hlt), by simp [HN.out, hlt]⟩
   have hx64 := HALL.out x (List.mem_of_getElem? hx1)
   have hag := andn_go x gen hx64 hgen
   obtain ⟨y, hy⟩ : ∃ y, andn x gen = y := ⟨_, rfl⟩
   rw [hy] at hag
   have hy1 : ys[k]? = some y := by rw [← HYS.out, canonL, List.getElem?_map, hx1, ← hy]; rfl
   have HM := Lib.hid (mixL_set hy1 hx1)
   obtain ⟨g, capg, hv, hbg, hgl⟩ := HO.out.form (show 0 < n by omega)
   have hv2 : a = some ⟨g, 0, none⟩ ∧ capg = cap := by cases hv; exact ⟨rfl, rfl⟩
   obtain ⟨rfl, rfl⟩ := hv2
   have d0 := (HO.out.cellAt k (by omega)).trans (u64s_get (mixL_at HYL.out hx1))
   have q0 := HO.out.frozenAt k
   have g0 : (0 : Int) ≤ (k : Int) := by omega
   have g3 : (k : Int) < (n : Int) := by omega
   have HO2 : Hid ((wr.setCell ⟨g, k, none⟩ (.int .u64 (y : Int))).ownsRow base 40 1 (.slice (some ⟨g, 0, none⟩) n capg) n (u64s (mixL ys xs (k + 1)))) := by
    rw [← HM.out, ← u64s_set]
    exact (HO.out.stored k _).1
   have hgr : g ≠ w.heap.size := by
    intro e
    have h1 := not_row HR.out (by decide) HO.out
    apply h1
    show some _ = some g
    rw [e]
   have HR2 := Lib.hid (heap_other (j := k) (c := .int .u64 (y : Int)) HR.out (fun e => hgr e.symm))
   have HX2 : Hid (∀ j, j < w.heap.size → some j ≠ (Value.slice (some ⟨g, 0, none⟩) n capg).ownBlock → (wr.setCell ⟨g, k, none⟩ (.int .u64 (y : Int))).heap[j]? = w.heap[j]?) := fun j h1 h2 => by
    rw [Below.heap_setCell _ _ _ _ (show j ≠ g by intro e; apply h2; rw [e]; rfl)]
    exact HX.out j h1 h2
   have hb2 := hb.setCell (p := ⟨g, k, none⟩) hbg (.int .u64 (y : Int))
   clear hx1 hy hy1 hv hgr
   go_wp2
   go_roundw
   case rel => exact ⟨k + 1, by omega, by go_num, HO2, HR2, hb2, HX2⟩
   case measure => simp [intOf]; omega
  ·obtain rfl : k = n := by omega
   have HO2 : Hid (wr.ownsRow base 40 1 (.slice a k cap) k (u64s ys)) := by
    have := HO.out
    rw [← HN.out] at this ⊢
    rwa [mixL_all HYL.out] at this
   obtain ⟨r0, r1, rf⟩ := two_cells HR.out
   have rf0 := rf 0; have rf1 := rf 1
   have N1 := Lib.hid (two_set1 (c := .slice a k cap) (two_set0 (c := .int .u64 (gen : Int)) HR.out))
   obtain ⟨s0, s1, _⟩ := two_cells N1.out
   have HNB := Lib.hid (not_row HR.out (by decide) HO.out)
   clear rf
   go_wp2
   refine bodyPost_ret (v := .agg #[.int .u64 (gen : Int), .slice a k cap]) ?_ rfl ⟨rfl, ?_, (hb.setCell (p := ⟨w.heap.size, 0, none⟩) hb0 _).setCell (p := ⟨w.heap.size, 1, none⟩) hb0 _, ?_⟩
   ·simp [results, Tryd.results99, go_sem, s0, s1]
   ·exact (HO2.out.kept (grownBy_set _ _ _ _) (.inr HNB.out.symm)).kept (grownBy_set _ _ _ _) (.inr HNB.out.symm)
   ·intro j h1 h2
    rw [Below.heap_setCell _ _ _ _ (show j ≠ w.heap.size by omega), Below.heap_setCell _ _ _ _ (show j ≠ w.heap.size by omega)]
    exact HX.out j h1 h2
end Go.Proofs.YtfkbkekgnoanaaaDoor
namespace Go.Proofs.YtfkbkekgnoanaaaDoor
open Go.RowKit
def FRet (gen : Nat) (rows : List Nat) (err : Int) (w : World) (e : Ending) (w' : World) : Prop :=
 ∃ a cap, e = .returned (.tuple #[.agg #[.int .u64 (gen : Int), .slice a rows.length cap], .int .i64 err]) ∧ VRow w' a (u64s rows) ∧ (∀ ad, a = some ad → w.heap.size ≤ ad.block ∧ ad.block < w'.heap.size) ∧ Below w.heap.size w w'
theorem fret_nil {w w' : World} (err : Int) (hb : Below w.heap.size w w') : FRet 0 [] err w (.returned (.tuple #[.agg #[.int .u64 0, .slice none 0 0], .int .i64 err])) w' :=
 ⟨none, 0, rfl, .inl rfl, (fun ad e => by cases e), hb⟩
theorem own_slice {w : World} {base n : Nat} {E : TypeId} {v : Value} {xs : List Value} (h : w.ownsRow base E 1 v n xs) : ∃ a cap, v = .slice a n cap := by
 rcases h.2 with ⟨h, h0⟩ | ⟨g, cap, cur, h, _⟩
 ·exact ⟨none, 0, by rw [h, h0]⟩
 ·exact ⟨_, _, h⟩
theorem fret_own {w w' : World} {gen n : Nat} {v : Value} {rows : List Nat} {base : Nat} (hb0 : w.heap.size ≤ base) (h : w'.ownsRow base 40 1 v n (u64s rows)) (hb : Below w.heap.size w w') (err : Int) : FRet gen rows err w (.returned (.tuple #[.agg #[.int .u64 (gen : Int), v], .int .i64 err])) w' := by
 obtain ⟨hn, a, cap, rfl, hr, hf⟩ := VRow.of_own h
 exact ⟨a, cap, by rw [u64s_length], hr, fun ad e => ⟨Nat.le_trans hb0 (hf ad e).1, (hf ad e).2⟩, hb⟩
def bothE (n : Int) (ga : Nat) (xs : List Nat) (gb : Nat) (ys : List Nat) : Int := if checkE n ga xs = 0 then checkE n gb ys else checkE n ga xs
set_option maxHeartbeats 1000000 in
theorem bothA_is (n : Int) (a b : Option Addr) (capa capb ga gb : Nat) (xs ys : List Nat) (w : World) (hfa : FAt w a ga xs) (hfb : FAt w b gb ys) (r : Int) (hr : bothE n ga xs gb ys = r) (la lb : Nat) (hla : xs.length = la) (hlb : ys.length = lb) :
  Calls Tryd.prog 97 #[.int .i64 n, fval ga a la capa, fval gb b lb capb] w fun e w' => e = .returned (.int .i64 r) ∧ Below w.heap.size w w' := by
 unfold fval
 have hB0 : Below w.heap.size w ((w.alloc (.cells #[.int .u64 (ga : Int), .slice a la capa] 43)).alloc (.cells #[.int .u64 (gb : Int), .slice b lb capb] 43)) := ((Below.refl _ _).alloc (Nat.le_refl _) _).alloc (by simp) _
 have HA := Lib.hid (hfa.below hB0); have HB := Lib.hid (hfb.below hB0); have HLA := Lib.hid hla; have HLB := Lib.hid hlb
 obtain ⟨t0, t1⟩ := two_boxes w #[.int .u64 (ga : Int), .slice a la capa] #[.int .u64 (gb : Int), .slice b lb capb] 43
 have T1 := Lib.hid t1
 obtain ⟨s, hs⟩ : ∃ s, checkE n ga xs = s := ⟨_, rfl⟩
 have HS := Lib.hid hs
 by_cases h0 : s = 0
 ·subst h0
  have HR : Hid (checkE n gb ys = r) := by show _ = _; rw [← hr, bothE, if_pos hs]
  clear hfa hfb hr hla hlb t0 t1 hs
  go_enter Tryd.func97, Tryd.ntmps97
  go_wp2_with fail
  refine (checkA_is n a capa ga xs _ HA.out 0 HS.out la HLA.out).mono ?_
  rintro e w1 ⟨rfl, hb1⟩
  have hB1 := hB0.trans (hb1.mono hB0.size)
  obtain ⟨d0, d1, _⟩ := two_cells (heap_old T1.out hb1)
  go_wp2_with fail
  refine (checkA_is n b capb gb ys _ (HB.out.below hb1) r HR.out lb HLB.out).mono ?_
  rintro e w2 ⟨rfl, hb2⟩
  go_wp2
  go_ret
  exact ⟨rfl, hB1.trans (hb2.mono hB1.size)⟩
 ·have HR : Hid (s = r) := by show _ = _; rw [← hr, bothE, hs, if_neg h0]
  have hne : (s != 0) = true := by simpa using h0
  clear hfa hfb hr hla hlb t0 t1 hs h0
  go_enter Tryd.func97, Tryd.ntmps97
  go_wp2_with fail
  refine (checkA_is n a capa ga xs _ HA.out s HS.out la HLA.out).mono ?_
  rintro e w1 ⟨rfl, hb1⟩
  go_wp2
  go_ret
  exact ⟨rint HR.out, hB0.trans (hb1.mono hB0.size)⟩
set_option maxHeartbeats 1000000 in
theorem twoR_is (n : Int) (a b : Option Addr) (capa capb ga gb : Nat) (xs ys : List Nat) (w : World) (hfa : FAt w a ga xs) (hfb : FAt w b gb ys) (r : Int) (hr : bothE n ga xs gb ys = r) (la lb : Nat) (hla : xs.length = la) (hlb : ys.length = lb) :
  Calls Tryd.prog 64 #[.int .i64 n, fval ga a la capa, fval gb b lb capb] w fun e w' => e = .returned (.int .i64 r) ∧ Below w.heap.size w w' := by
 unfold fval
 have hB0 : Below w.heap.size w ((w.alloc (.cells #[.int .u64 (ga : Int), .slice a la capa] 43)).alloc (.cells #[.int .u64 (gb : Int), .slice b lb capb] 43)) := ((Below.refl _ _).alloc (Nat.le_refl _) _).alloc (by simp) _
 have HA := Lib.hid (hfa.below hB0); have HB := Lib.hid (hfb.below hB0); have HLA := Lib.hid hla; have HLB := Lib.hid hlb
 obtain ⟨t0, t1⟩ := two_boxes w #[.int .u64 (ga : Int), .slice a la capa] #[.int .u64 (gb : Int), .slice b lb capb] 43
 have T1 := Lib.hid t1
 obtain ⟨s, hs⟩ : ∃ s, checkE n ga xs = s := ⟨_, rfl⟩
 have HS := Lib.hid hs
 by_cases h0 : s = 0
 ·subst h0
  have HR : Hid (checkE n gb ys = r) := by show _ = _; rw [← hr, bothE, if_pos hs]
  clear hfa hfb hr hla hlb t0 t1 hs
  go_enter Tryd.func64, Tryd.ntmps64
  go_wp2_with fail
  refine (checkR_is n a capa ga xs _ HA.out 0 HS.out la HLA.out).mono ?_
  rintro e w1 ⟨rfl, hb1⟩
  have hB1 := hB0.trans (hb1.mono hB0.size)
  obtain ⟨d0, d1, _⟩ := two_cells (heap_old T1.out hb1)
  go_wp2_with fail
  refine (checkR_is n b capb gb ys _ (HB.out.below hb1) r HR.out lb HLB.out).mono ?_
  rintro e w2 ⟨rfl, hb2⟩
  go_wp2
  go_ret
  exact ⟨rfl, hB1.trans (hb2.mono hB1.size)⟩
 ·have HR : Hid (s = r) := by show _ = _; rw [← hr, bothE, hs, if_neg h0]
  have hne : (s != 0) = true := by simpa using h0
  clear hfa hfb hr hla hlb t0 t1 hs h0
  go_enter Tryd.func64, Tryd.ntmps64
  go_wp2_with fail
  refine (checkR_is n a capa ga xs _ HA.out s HS.out la HLA.out).mono ?_
  rintro e w1 ⟨rfl, hb1⟩
  go_wp2
  go_ret
  exact ⟨rint HR.out, hB0.trans (hb1.mono hB0.size)⟩
end Go.Proofs.YtfkbkekgnoanaaaDoor
namespace Go.Proofs.YtfkbkekgnoanaaaDoor
open Go.RowKit
structure TabC (W : World) : Prop where
 ctz : Lib.TabIs Tryd.prog W "math/bits.deBruijn64tab" .u8 tab64
theorem TabC.below {W W' : World} (h : TabC W) (hb : Below W.heap.size W W') : TabC W' := ⟨var?_below hb gCtz (var_lt gCtz h.ctz) h.ctz⟩
theorem ctzC_calls (x : Nat) (hx0 : x ≠ 0) (hx : x < 18446744073709551616) (w : World) (ht : TabC w) :
  Calls Tryd.prog 112 #[.int .u64 x] w fun e w' => e = .returned (.int .i64 (Lib.ctz 64 x)) ∧ w = w' := by
 obtain ⟨hlow, hk⟩ := Lib.lowest_bit 64 x hx0 hx
 obtain ⟨hi, htab⟩ := Lib.deBruijn64_at _ hk
 have hcell := ht.ctz.cell gCtz _ (by rw [tab64, List.length_map]; exact hi)
 have e : tab64.getD (2 ^ Lib.ctz 64 x * 285870213051353865 % 18446744073709551616 / 288230376151711744) 0 = ((Lib.ctz 64 x : Nat) : Int) := by
  have : tab64.getD (2 ^ Lib.ctz 64 x * 285870213051353865 % 18446744073709551616 / 288230376151711744) 0 = Int.ofNat (Lib.deBruijn64tab.getD (2 ^ Lib.ctz 64 x * 285870213051353865 % 18446744073709551616 / 288230376151711744) 0) := by
   simp only [tab64, List.getD, List.getElem?_map]
   cases Lib.deBruijn64tab[2 ^ Lib.ctz 64 x * 285870213051353865 % 18446744073709551616 / 288230376151711744]? <;> rfl
  rw [this, htab]; rfl
 rw [e] at hcell
 exact tz_core x _ _ w (by simp; omega) (Go.Proofs.tz64_key x _ hx hx0 hlow) hi hk hcell
theorem nextC_is (f : Nat) (i : Int) (r : Int) (b : Bool) (h : IsNext f i r b) (hf : f < 18446744073709551616) (w : World) (ht : TabC w) :
  Calls Tryd.prog 116 #[.int .u64 f, .int .i64 i] w fun e w' => e = .returned (.tuple #[.int .i64 r, .bool b]) ∧ w = w' := by
 have HT := Lib.hid ht
 by_cases hi : 63 < i
 ·have e : r = 0 ∧ b = false := isNext_uniq h (.inr ⟨rfl, rfl, fun j hj hij => by omega⟩)
  obtain ⟨rfl, rfl⟩ := e
  clear h ht
  go_enter Tryd.func116, Tryd.ntmps116
  go_wp2
  go_ret2
  exact ⟨rfl, rfl⟩
 ·have hc := Lib.hid (next_of_rest f i i.toNat (by omega) rfl hf r b h)
  have HA : bits BinOp.andNot IntKind.u64 (f : Int) ((2 ^ i.toNat - 1 : Nat) : Int) = ((restN f i.toNat : Nat) : Int) := u64_andNot_nat f _ hf (mask_lt (by omega))
  have hmx : (if i < 0 then (0 : Int) else i) = ((i.toNat : Nat) : Int) := by split <;> omega
  have hmx2 : max i 0 = ((i.toNat : Nat) : Int) := by omega
  have hlt := restN_lt f i.toNat hf
  obtain ⟨m, hm⟩ : ∃ m, i.toNat = m := ⟨_, rfl⟩
  rw [hm] at HA hc hmx hmx2 hlt
  have hm63 : m ≤ 63 := by omega
  obtain ⟨q, hq⟩ : ∃ q, restN f m = q := ⟨_, rfl⟩
  rw [hq] at HA hc hlt
  obtain ⟨p, hp⟩ : ∃ p : Nat, 2 ^ m - 1 = p := ⟨_, rfl⟩
  rw [hp] at HA
  have HP := Lib.hid hp
  clear ht h hq hp hf hm
  rcases hc.out with ⟨h0, rfl, rfl⟩ | ⟨h0, hr, rfl⟩
  ·subst h0
   go_enter Tryd.func116, Tryd.ntmps116
   go_wp2_with fail
   refine (mask_any m (by omega) _).mono ?_
   rintro e w1 ⟨rfl, rfl⟩
   rw [HP.out]
   go_wp2
   go_ret2
   exact ⟨rfl, rfl⟩
  ·have HR := Lib.hid hr
   have hq0 : ((q : Int) == 0) = false := by simp; omega
   clear hr hc
   go_enter Tryd.func116, Tryd.ntmps116
   go_wp2_with fail
   refine (mask_any m (by omega) _).mono ?_
   rintro e w1 ⟨rfl, rfl⟩
   rw [HP.out]
   go_wp2_with fail
   refine (ctzC_calls q (by omega) hlt _ HT.out).mono ?_
   rintro e w1 ⟨rfl, rfl⟩
   go_wp2
   go_ret2
   exact ⟨rib HR.out.symm rfl, rfl⟩
end Go.Proofs.YtfkbkekgnoanaaaDoor
namespace Go.Proofs.YtfkbkekgnoanaaaDoor
open Go.RowKit Go.Shelf
def NextOf (rest : List Nat) (r : Int) (b : Bool) : Prop := (rest = [] ∧ r = 0 ∧ b = false) ∨ (∃ x l, rest = x :: l ∧ r = (x : Int) ∧ b = true)
theorem mem_of_bit {s j : Nat} (hj : j < 64) (h : s.testBit j = true) : j ∈ mem s := by
 unfold mem
 rw [List.mem_filter]
 exact ⟨List.mem_range.2 hj, h⟩
theorem mem_sorted (s : Nat) : (mem s).Pairwise (· < ·) := List.Pairwise.filter _ List.pairwise_lt_range
theorem next_rest {s : Nat} {pre rest : List Nat} {i r : Int} {b : Bool} (hm : mem s = pre ++ rest) (hp : ∀ p ∈ pre, (p : Int) < i) (hr : ∀ q ∈ rest, i ≤ (q : Int)) (h : IsNext s i r b) : NextOf rest r b := by
 have hs := mem_sorted s
 rw [hm, List.pairwise_append] at hs
 cases rest with
 | nil =>
  have : IsNext s i 0 false := .inr ⟨rfl, rfl, fun j hj hij => by
   cases hb : s.testBit j
   ·rfl
   ·have := mem_of_bit hj hb
    rw [hm, List.append_nil] at this
    have := hp j this
    omega⟩
  obtain ⟨e1, e2⟩ := isNext_uniq h this
  exact .inl ⟨rfl, e1, e2⟩
 | cons y l =>
  have hy : y ∈ mem s := by rw [hm]; simp
  have hyl : ∀ q ∈ l, y < q := fun q hq => (List.pairwise_cons.1 hs.2.1).1 q hq
  have : IsNext s i y true := .inl ⟨rfl, y, rfl, mem_lt hy, hr y (by simp), mem_bit hy, fun j hj hij => by
   cases hb : s.testBit j
   ·rfl
   ·have hj64 := mem_lt hy
    have := mem_of_bit (by omega) hb
    rw [hm, List.mem_append, List.mem_cons] at this
    rcases this with h1 | h1 | h1
    ·have := hp j h1; omega
    ·omega
    ·have := hyl j h1; omega⟩
  obtain ⟨e1, e2⟩ := isNext_uniq h this
  exact .inr ⟨y, l, rfl, e1, e2⟩
theorem next_step {s : Nat} {pre l : List Nat} {x : Nat} (hm : mem s = pre ++ x :: l) {r : Int} {b : Bool} (h : IsNext s ((x : Int) + 1) r b) : NextOf l r b := by
 have hs := mem_sorted s
 rw [hm, List.pairwise_append] at hs
 refine next_rest (pre := pre ++ [x]) (by rw [hm]; simp) (fun p hp => ?_) (fun q hq => ?_) h
 ·rw [List.mem_append, List.mem_singleton] at hp
  rcases hp with hp | rfl
  ·have := hs.2.2 p hp x (by simp); omega
  ·omega
 ·have := (List.pairwise_cons.1 hs.2.1).1 q hq
  omega
def boolOf : Value → Bool
 | .bool b => b
 | _ => false
section iter
attribute [local go_sem] Oper.semAt_some
set_option maxHeartbeats 1000000 in
theorem fmembers1 (n : Nat) (hn : 1 ≤ n) (l B s : Nat) (hs : s < 18446744073709551616) (J : List Nat → World → Prop) (hA : Abide B J) (hT : ∀ pre X, J pre X → TabC X)
  (hY : ∀ (pre : List Nat) (x : Nat) (rest : List Nat) X, mem s = pre ++ x :: rest → J pre X → YieldAt Fence.wide (n - 1) Tryd.prog l #[.int .i64 x] X fun e X' => e = .returned (.bool true) ∧ J (pre ++ [x]) X' ∧ X'.heap[B]? = X.heap[B]?)
  (W : World) (hB : Boxed W B 40 (.int .u64 s)) (h0 : J [] W) :
  CallsIn Fence.wide n Tryd.prog 115 #[.func (.yield l) #[] #[], .pointer (some ⟨B, 0, none⟩)] W fun e W' => (∃ v, e = .returned v) ∧ J (mem s) W' := by
 have HY := Lib.hid hY
 have HJ0 := Lib.hid h0
 have HB0 := Lib.hid hB
 have hc0 := hB.cell
 obtain ⟨r0, b0, hn0⟩ := isNext_ex s 0
 have HN0 := Lib.hid hn0
 have HNR := Lib.hid (next_rest (pre := []) (rest := mem s) rfl (by simp) (fun q _ => by omega) hn0)
 clear hY h0 hB hn0
 refine callsIn_of_wp Tryd.func115 rfl trivial ?_ rfl
 simp only [Tryd.ntmps115, List.size_toArray, List.length_cons, List.length_nil, Nat.reduceAdd, Nat.reduceSub, Array.replicate_succ, Array.replicate_zero, List.push_toArray, List.append_toArray, List.nil_append, List.cons_append]
 gi_wp2_with (refine ⟨trivial, ?_⟩; gi_at_call 116; refine (callsIn_wide.2 (nextC_is s 0 r0 b0 HN0.out hs _ (hT _ _ HJ0.out))).mono ?_; rintro e w' ⟨rfl, rfl⟩)
 gi_loopw [3, 4] (fun i ok wr => ∃ (pre rest : List Nat) (r : Int) (b : Bool), i = .int .i64 r ∧ ok = .bool b ∧ Hid (mem s = pre ++ rest) ∧ Hid (NextOf rest r b) ∧ Hid (Boxed wr B 40 (.int .u64 s)) ∧ Hid (J pre wr))
  (fun i ok _ => if boolOf ok = true then 65 - (intOf i).toNat else 0)
 case atStart => exact ⟨[], mem s, r0, b0, rfl, rfl, rfl, HNR.out, HB0.out, HJ0.out⟩
 case round =>
  obtain ⟨pre, rest, r, b, rfl, rfl, hm, hnx, hb, hJ⟩ := hrel
  have hc := hb.out.cell
  rcases hnx.out with ⟨rfl, rfl, rfl⟩ | ⟨x, tl, rfl, rfl, rfl⟩
  ·have hall : Hid (pre = mem s) := by show _ = _; rw [hm.out, List.append_nil]
   gi_wp2
   go_end0
   exact ⟨⟨_, rfl⟩, by rw [← hall.out]; exact hJ.out⟩
  ·have hx64 : x < 64 := mem_lt (s := s) (by rw [hm.out]; simp)
   obtain ⟨r2, b2, hn2⟩ := isNext_ex s ((x : Int) + 1)
   have HN2 := Lib.hid hn2
   have HNR2 := Lib.hid (next_step hm.out hn2)
   have hM3 : Hid (mem s = (pre ++ [x]) ++ tl) := by show _ = _; rw [hm.out]; simp
   obtain ⟨fn, tmps, assign, body, hy, hR⟩ := HY.out pre x tl wr hm.out hJ.out
   have hmx : Hid (∀ y l2, tl = y :: l2 → x < y) := fun y l2 e => by
    have hs := mem_sorted s
    rw [hm.out, List.pairwise_append] at hs
    exact (List.pairwise_cons.1 hs.2.1).1 y (by rw [e]; simp)
   clear hn2
   gi_wp2
   refine hR.mono ?_
   rintro e W3 ⟨rfl, hJ3, hk3⟩
   have HB3 : Hid (Boxed W3 B 40 (.int .u64 s)) := hk3.trans hb.out
   have HJ3 := Lib.hid hJ3
   have hc3 := HB3.out.cell
   clear hk3 hJ3
   gi_wp2_with (refine ⟨trivial, ?_⟩; gi_at_call 116; refine (callsIn_wide.2 (nextC_is s ((x : Int) + 1) r2 b2 HN2.out hs _ (hT _ _ HJ3.out))).mono ?_; rintro e w' ⟨rfl, rfl⟩)
   go_roundw
   case rel => exact ⟨pre ++ [x], tl, r2, b2, rfl, rfl, hM3, HNR2, HB3, HJ3⟩
   case measure =>
    rcases HNR2.out with ⟨_, rfl, rfl⟩ | ⟨y, l2, e, rfl, rfl⟩
    ·simp [intOf, boolOf]; omega
    ·have := hmx.out y l2 e
     simp [intOf, boolOf]; omega
end iter
theorem fmembers_any (s : Nat) (w : World) :
  Calls Tryd.prog 109 #[.int .u64 s] w fun e w' => e = .returned (.func (.func 115) #[] #[.pointer (some ⟨w.heap.size, 0, none⟩)]) ∧ w' = w.alloc (.cells #[.int .u64 s] 40) := by
 go_enter Tryd.func109, Tryd.ntmps109
 go_wp2
 go_ret
 exact ⟨rfl, rfl⟩
theorem fmembers_seq (n : Nat) (hn : 1 ≤ n) (B s : Nat) (hs : s < 18446744073709551616) (w : World) (hB : Boxed w B 40 (.int .u64 s)) :
  SeqCell Fence.wide n Tryd.prog 115 #[.pointer (some ⟨B, 0, none⟩)] (fun x : Nat => #[Value.int .i64 x]) (mem s) B TabC w :=
 fun l J W hW hA hT hY h0 => fmembers1 n hn l B s hs J hA hT hY W (hW.trans hB) h0
def accF (rows : List Nat) (gen : Nat) (l : List Nat) : Nat := l.foldl (fun c i => c ||| rows.getD i 0) gen
def madeF (gen : Nat) (rows : List Nat) (s : Nat) : Nat := accF rows gen (mem s)
theorem accF_snoc (rows : List Nat) (gen : Nat) (l : List Nat) (x : Nat) : accF rows gen (l ++ [x]) = accF rows gen l ||| rows.getD x 0 := by
 unfold accF; rw [List.foldl_append]; rfl
theorem or64 {a b : Nat} (ha : a < 18446744073709551616) (hb : b < 18446744073709551616) : a ||| b < 18446744073709551616 := by
 have e : (18446744073709551616 : Nat) = 2 ^ 64 := rfl
 rw [e] at *; exact Nat.or_lt_two_pow ha hb
theorem accF_lt {rows : List Nat} (hr : ∀ r ∈ rows, r < 18446744073709551616) : ∀ (l : List Nat) (gen : Nat), gen < 18446744073709551616 → accF rows gen l < 18446744073709551616
 | [], gen, h => h
 | x :: l, gen, h => by
  have : rows.getD x 0 < 18446744073709551616 := by
   rw [List.getD_eq_getElem?_getD]
   cases hx : rows[x]? with
   | none => simp
   | some y => exact hr y (List.mem_of_getElem? hx)
  exact accF_lt hr l _ (or64 h this)
theorem madeF_lt {rows : List Nat} {gen s : Nat} (hr : ∀ r ∈ rows, r < 18446744073709551616) (hg : gen < 18446744073709551616) : madeF gen rows s < 18446744073709551616 := accF_lt hr _ _ hg
end Go.Proofs.YtfkbkekgnoanaaaDoor
namespace Go.Proofs.YtfkbkekgnoanaaaDoor
open Go.RowKit Go.Shelf
theorem abide_made {B C D : Nat} {t : TypeId} {f : List Nat → Value} {o : Obj} {w : World} (hBC : B ≠ C) (hBD : B ≠ D) (hBn : w.heap.size ≤ B) {tB : TypeId} {vB : Value} :
  Abide B (fun (pre : List Nat) W => (∃ v, Boxed W B tB v) ∧ W.heap[D]? = some o ∧ Boxed W C t (f pre) ∧ Below w.heap.size w W) where
 cell := by
  rintro pre X u ⟨⟨v, hB⟩, hD, hC, hb⟩
  exact ⟨⟨u, hB.set u⟩, (Below.heap_setCell _ _ _ _ hBD.symm).trans hD, hC.other hBC.symm _, hb.setCell (p := ⟨B, 0, none⟩) hBn _⟩
 drew := by
  rintro pre X m ⟨hB, hD, hC, hb⟩
  exact ⟨hB, hD, hC, below_drewN hb m⟩
theorem own_made {B C D E : Nat} {t tB T : TypeId} {f : List Nat → Value} {cs : Array Value} {w : World} (hE : w.heap.size ≤ E) :
  OwnFrom E (fun (pre : List Nat) W => (∃ v, Boxed W B tB v) ∧ W.heap[D]? = some (.cells cs T (0, 0)) ∧ Boxed W C t (f pre) ∧ Below w.heap.size w W) := by
 rintro s X Y row ⟨⟨vB, hB⟩, hD, hC, hb⟩ hg hrow
 have ne : ∀ (b : Nat) (tt : TypeId) (u : Array Value), X.heap[b]? = some (.cells u tt (0, 0)) → some b ≠ row := fun b tt u hbx e' => by
  obtain ⟨_, o, ho, hc⟩ := hrow b e'.symm
  rw [hbx] at ho; cases ho; cases hc
 exact ⟨⟨vB, hB.kept hg (ne _ _ _ hB)⟩, (hg.block D (Array.getElem?_eq_some_iff.1 hD).1 (ne _ _ _ hD)).trans hD, hC.kept hg (ne _ _ _ hC), hb.grown hg hb.size fun k e' => Nat.le_trans hE (hrow k e').1⟩
section madeA
attribute [local go_sem] Oper.semAt_some
set_option maxHeartbeats 2000000 in
theorem madeA_in (a : Option Addr) (cap gen : Nat) (rows : List Nat) (s : Nat) (hs : s < 18446744073709551616) (w : World) (hf : FAt w a gen rows) (hin : ∀ i ∈ mem s, i < rows.length) (ht : TabC w) (r : Nat) (hr : madeF gen rows s = r) (len : Nat) (hl : rows.length = len) :
  CallsIn Fence.wide 5 Tryd.prog 98 #[fval gen a len cap, .int .u64 s] w fun e W' => e = .returned (.int .u64 r) ∧ Below w.heap.size w W' := by
 unfold fval
 have HF := Lib.hid hf; have HIN := Lib.hid hin; have HR := Lib.hid hr; have HL := Lib.hid hl; have HT := Lib.hid ht
 have hgen := hf.gen
 have HALL := Lib.hid hf.all
 have hlen : len ≤ 100 := by rw [← hl]; exact hf.len
 clear hin hr hl
 refine callsIn_of_wp_marks Tryd.func98 rfl trivial ?_ rfl
 simp only [Tryd.ntmps98, List.size_toArray, List.length_cons, List.length_nil, Nat.reduceAdd, Nat.reduceSub, Array.replicate_succ, Array.replicate_zero, List.push_toArray, List.append_toArray, List.nil_append, List.cons_append]
 gi_wp2_with (refine ⟨trivial, ?_⟩; gi_at_call 109; refine (callsIn_wide.2 (fmembers_any s _)).mono ?_; rintro e w' ⟨rfl, rfl⟩)
 have b0 := heapV_new w (.cells #[.int .u64 (gen : Int), .slice a len cap] 43)
 have bO := Boxed.new (w.alloc (.cells #[.int .u64 (gen : Int), .slice a len cap] 43)) 40 (.int .u64 (gen : Int))
 have bN := Boxed.new ((w.alloc (.cells #[.int .u64 (gen : Int), .slice a len cap] 43)).alloc (.cells #[.int .u64 (gen : Int)] 40)) 40 (.int .u64 s)
 rw [World.size_alloc] at bO
 rw [World.size_alloc, World.size_alloc] at bN
 have hB0 : Below w.heap.size w (((w.alloc (.cells #[.int .u64 (gen : Int), .slice a len cap] 43)).alloc (.cells #[.int .u64 (gen : Int)] 40)).alloc (.cells #[.int .u64 s] 40)) := (((Below.refl _ w).alloc (Nat.le_refl _) _).alloc (by simp) _).alloc (by simp; omega) _
 refine range_cell (F := Fence.wide) (n := 5) rfl (by omega) (gf := 115) (lb := #[.pointer (some ⟨w.heap.size + 1 + 1, 0, none⟩)]) (by simp [go_sem]) trivial (enters_of Tryd.func115 (by kernel_rfl) rfl)
  (B := w.heap.size + 1 + 1) (Kw := TabC) (by simp) (fmembers_seq 4 (by omega) (w.heap.size + 1 + 1) s hs _ bN) (fun _ => rfl)
  (fun pre W => (∃ v, Boxed W (w.heap.size + 1 + 1) 40 v) ∧ W.heap[w.heap.size]? = some (.cells #[.int .u64 (gen : Int), .slice a len cap] 43 (0, 0)) ∧ Boxed W (w.heap.size + 1) 40 (.int .u64 (accF rows gen pre : Nat)) ∧ Below w.heap.size w W)
  (own_made (by simp; omega)) (abide_made (by omega) (by omega) (by omega) (vB := undef)) (fun pre X h => HT.out.below h.2.2.2) ⟨⟨_, bN⟩, heap_allocd (heap_allocd b0 _) _, bO.alloc _, hB0⟩
  (fun x => { tmps := #[.agg #[.int .u64 (gen : Int), .slice a len cap], .int .u64 s, .pointer (some ⟨w.heap.size, 0, none⟩), undef, .int .u64 0, .pointer (some ⟨w.heap.size + 1, 0, none⟩), .int .i64 x, .pointer (some ⟨w.heap.size, 0, none⟩), .int .u64 (gen : Int), .int .u64 s, .func (.func 115) #[] #[.pointer (some ⟨w.heap.size + 1 + 1, 0, none⟩)], .int .i64 x, undef, undef, undef, undef, undef, undef, undef, undef], defers := [] }) ?assign ?body ?done
 case assign =>
  intro l x W K hK
  gi_wp2
  exact hK
 case body =>
  rintro l pre x rest W hx ⟨⟨vB, hvB⟩, h0, hv, hB⟩
  have hc := hv.cell
  have hfr := hv.frozen
  obtain ⟨c0, c1, _⟩ := two_cells h0
  have hxm : x ∈ mem s := by rw [hx]; simp
  have hxl : x < len := by rw [← HL.out]; exact HIN.out x hxm
  obtain ⟨ba, offa, z, rfl, hz, hz64, hba, a0⟩ := (HF.out.below hB).at_ (i := x) (by rw [HL.out]; exact hxl)
  have g0 : (0 : Int) ≤ (x : Int) := by omega
  have g1 : (x : Int) < (len : Int) := by omega
  have hacc := accF_lt HALL.out pre gen hgen
  have hor := u64_or_nat (accF rows gen pre) z hacc hz64
  have HS : Hid (accF rows gen (pre ++ [x]) = accF rows gen pre ||| z) := by
   show _ = _
   rw [accF_snoc, List.getD_eq_getElem?_getD, hz]; rfl
  obtain ⟨u, hu⟩ : ∃ u, accF rows gen pre = u := ⟨_, rfl⟩
  rw [hu] at hor hc HS hv
  obtain ⟨q, hq⟩ : ∃ q, u ||| z = q := ⟨_, rfl⟩
  rw [hq] at hor HS
  have HV := Lib.hid hv; have H0 := Lib.hid h0; have HVB := Lib.hid hvB
  clear hz hu hq hx hacc hv h0 hvB
  have hmix : Tryd.prog.follows .mixedOrders = true := by kernel_rfl
  gi_wp2_with fail
  gi_region_with_o (fail)
  all_goals
   refine ⟨((KeepsOthers.setCell _ _ _).trans (KeepsOthers.drew _)).from _, Below.heap_setCell _ _ _ _ (show w.heap.size + 1 + 1 ≠ w.heap.size + 1 by omega), ⟨vB, HVB.out.other (by omega) _⟩, heap_other H0.out (by omega), ?_, (hB.setCell (p := ⟨w.heap.size + 1, 0, none⟩) (by simp) _).drew⟩
   rw [HS.out]
   exact HV.out.set _
 case done =>
  rintro D W hD ⟨⟨vB, hvB⟩, h0, hv, hB⟩ hK
  have hc := hv.cell
  have HQ : Hid (accF rows gen (mem s) = r) := HR.out
  gi_wp2
  refine ⟨by simp, .inl ⟨_, _, rfl, run_takeDeferred hK, ?_⟩⟩
  exact ⟨_, results_tmp rfl _ _ _, by rw [← HQ.out]; rfl, hB.trans (belowK_b (w := w) (Nat.le_refl _) W D _ _ (by simp at hD; omega) hK rfl rfl)⟩
end madeA
theorem madeA_is (a : Option Addr) (cap gen : Nat) (rows : List Nat) (s : Nat) (hs : s < 18446744073709551616) (w : World) (hf : FAt w a gen rows) (hin : ∀ i ∈ mem s, i < rows.length) (ht : TabC w) (r : Nat) (hr : madeF gen rows s = r) (len : Nat) (hl : rows.length = len) :
  Calls Tryd.prog 98 #[fval gen a len cap, .int .u64 s] w fun e W' => e = .returned (.int .u64 r) ∧ Below w.heap.size w W' :=
 callsIn_wide.1 (madeA_in a cap gen rows s hs w hf hin ht r hr len hl)
theorem memK_mem {s m : Nat} (hs : s < 2 ^ m) (hm : m ≤ 64) : memK s m = mem s := by
 unfold memK mem
 obtain ⟨d, hd⟩ : ∃ d, 64 = m + d := ⟨64 - m, by omega⟩
 rw [hd, List.range_add, List.filter_append]
 have : ((List.range d).map (m + ·)).filter s.testBit = [] := by
  rw [List.filter_eq_nil_iff]
  intro x hx
  rw [List.mem_map] at hx
  obtain ⟨y, _, rfl⟩ := hx
  rw [Nat.testBit_lt_two_pow (Nat.lt_of_lt_of_le hs (Nat.pow_le_pow_right (by omega) (by omega)))]
  simp
 rw [this, List.append_nil]
set_option maxHeartbeats 1000000 in
theorem madeR_is (a : Option Addr) (cap gen : Nat) (rows : List Nat) (s : Nat) (hs : s < 2 ^ rows.length) (hl64 : rows.length ≤ 64) (w : World) (hf : FAt w a gen rows) (r : Nat) (hr : madeF gen rows s = r) (len : Nat) (hl : rows.length = len) :
  Calls Tryd.prog 65 #[fval gen a len cap, .int .u64 s] w fun e W' => e = .returned (.int .u64 r) ∧ Below w.heap.size w W' := by
 unfold fval
 have hs64 : s < 18446744073709551616 := Nat.lt_of_lt_of_le hs (pow_le64 hl64)
 have hB0 : Below w.heap.size w (w.alloc (.cells #[.int .u64 (gen : Int), .slice a len cap] 43)) := (Below.refl _ _).alloc (Nat.le_refl _) _
 have HF1 : Hid (FAt (w.alloc (.cells #[.int .u64 (gen : Int), .slice a len cap] 43)) a gen rows) := hf.below hB0
 have hgen := hf.gen
 have HALL := Lib.hid hf.all
 have HL := Lib.hid hl
 rw [hl] at hl64 hs
 have HR : Hid (accF rows gen (memK s len) = r) := by show _ = _; rw [memK_mem hs hl64]; exact hr
 clear hf hr hl hs
 go_enter Tryd.func65, Tryd.ntmps65
 go_wp2_with fail
 go_loopw [5, 6] (fun o i wr => ∃ (k u : Nat), k ≤ len ∧ i = .int .i64 k ∧ o = .int .u64 u ∧ u < 18446744073709551616 ∧ Hid (accF rows gen (memK s k) = u) ∧ (w.alloc (.cells #[.int .u64 (gen : Int), .slice a len cap] 43)) = wr) (fun _ i _ => len - (intOf i).toNat)
 case atStart => exact ⟨0, gen, Nat.zero_le _, rfl, rfl, hgen, rfl, rfl⟩
 case round =>
  obtain ⟨k, u, hk, rfl, rfl, hu, HU, rfl⟩ := hrel
  by_cases hlt : k < len
  ·cases hbit : s.testBit k
   ·have HN : Hid (accF rows gen (memK s (k + 1)) = u) := by show _ = _; rw [memK_no hbit]; exact HU.out
    have HH := Lib.hid (show hasB s k = false by simp [hasB, hbit])
    clear hbit
    go_wp2_with fail
    refine (hasR_is s k false HH.out hs64 _).mono ?_
    rintro e w1 ⟨rfl, rfl⟩
    go_wp2
    go_roundw
    case rel => exact ⟨k + 1, u, by omega, by go_num, rfl, hu, HN, by trivial⟩
    case measure => simp [intOf]; omega
   ·obtain ⟨ba, offa, z, rfl, hz, hz64, hba, a0⟩ := HF1.out.at_ (i := k) (by rw [HL.out]; exact hlt)
    obtain ⟨q, hq⟩ : ∃ q, u ||| z = q := ⟨_, rfl⟩
    have hq64 : q < 18446744073709551616 := by rw [← hq]; exact or64 hu hz64
    have HN : Hid (accF rows gen (memK s (k + 1)) = q) := by
     show _ = _
     rw [memK_yes hbit, accF_snoc, HU.out, List.getD_eq_getElem?_getD, hz, ← hq]; rfl
    have HH := Lib.hid (show hasB s k = true by simp [hasB, hbit]; omega)
    have HQ := Lib.hid hq
    have g0 : (0 : Int) ≤ (k : Int) := by omega
    have g1 : (k : Int) < (len : Int) := by omega
    clear hbit hz hq
    go_wp2_with fail
    refine (hasR_is s k true HH.out hs64 _).mono ?_
    rintro e w1 ⟨rfl, rfl⟩
    go_wp2_with fail
    refine (or_is u z q hu hz64 HQ.out _).mono ?_
    rintro e w1 ⟨rfl, rfl⟩
    go_wp2
    go_roundw
    case rel => exact ⟨k + 1, q, by omega, by go_num, rfl, hq64, HN, by trivial⟩
    case measure => simp [intOf]; omega
  ·have HE : Hid ((u : Int) = (r : Int)) := by
    show _ = _
    rw [← HU.out, ← HR.out, show k = len by omega]
   go_wp2
   go_ret
   exact ⟨rint HE.out, hB0⟩
end Go.Proofs.YtfkbkekgnoanaaaDoor
namespace Go.Proofs.YtfkbkekgnoanaaaDoor
open Go.RowKit
theorem checkE_ok {n : Int} {gen : Nat} {rows : List Nat} (h : checkE n gen rows = 0) : dimB n = true ∧ shapeB n.toNat gen rows = true ∧ clearB gen rows = true := by
 unfold checkE at h
 split at h
 ·rename_i hd
  split at h
  ·rename_i hs
   rw [Bool.and_eq_true] at hs
   exact ⟨hd, hs.1, hs.2⟩
  ·cases h
 ·cases h
theorem shapeB_len {m gen : Nat} {rows : List Nat} (h : shapeB m gen rows = true) : rows.length = m ∧ insN m gen = true ∧ ∀ r ∈ rows, insN m r = true := by
 unfold shapeB at h
 simp only [Bool.and_eq_true, decide_eq_true_eq, List.all_eq_true] at h
 exact h
theorem mem_below {s m i : Nat} (hs : s < 2 ^ m) (hi : i ∈ mem s) : i < m := by
 rcases Nat.lt_or_ge i m with h | h
 ·exact h
 ·have := mem_bit hi
  rw [Nat.testBit_lt_two_pow (Nat.lt_of_lt_of_le hs (Nat.pow_le_pow_right (by omega) h))] at this
  cases this
end Go.Proofs.YtfkbkekgnoanaaaDoor
namespace Go.Proofs.YtfkbkekgnoanaaaDoor
open Go.RowKit
def orL (xs ys : List Nat) : List Nat := List.zipWith (fun a b : Nat => a ||| b) xs ys
def combG (n : Int) (ga : Nat) (xs : List Nat) (gb : Nat) (ys : List Nat) : Nat := if bothE n ga xs gb ys = 0 then ga ||| gb else 0
def combV (n : Int) (ga : Nat) (xs : List Nat) (gb : Nat) (ys : List Nat) : List Nat := if bothE n ga xs gb ys = 0 then canonL (ga ||| gb) (orL xs ys) else []
theorem bothE_ok {n : Int} {ga gb : Nat} {xs ys : List Nat} (h : bothE n ga xs gb ys = 0) : checkE n ga xs = 0 ∧ checkE n gb ys = 0 := by
 unfold bothE at h
 split at h
 ·rename_i h1; exact ⟨h1, h⟩
 ·rename_i h1; exact absurd h h1
theorem bothE_len {n : Int} {ga gb : Nat} {xs ys : List Nat} (h : bothE n ga xs gb ys = 0) : ∃ m : Nat, n = m ∧ m ≤ 64 ∧ xs.length = m ∧ ys.length = m := by
 obtain ⟨h1, h2⟩ := bothE_ok h
 obtain ⟨hd, s1, _⟩ := checkE_ok h1
 obtain ⟨_, s2, _⟩ := checkE_ok h2
 obtain ⟨m, rfl, hm⟩ := dim_nat hd
 rw [Int.toNat_natCast] at s1 s2
 exact ⟨m, rfl, hm, (shapeB_len s1).1, (shapeB_len s2).1⟩
theorem three_boxes (w : World) (a b c : Array Value) (T : TypeId) :
  (((w.alloc (.cells a T)).alloc (.cells b T)).alloc (.cells c T)).heap[w.heap.size]? = some (.cells a T (0, 0)) ∧ (((w.alloc (.cells a T)).alloc (.cells b T)).alloc (.cells c T)).heap[w.heap.size + 1]? = some (.cells b T (0, 0)) ∧ (((w.alloc (.cells a T)).alloc (.cells b T)).alloc (.cells c T)).heap[w.heap.size + 1 + 1]? = some (.cells c T (0, 0)) := by
 obtain ⟨t0, t1⟩ := two_boxes w a b T
 refine ⟨heap_allocd t0 _, heap_allocd t1 _, ?_⟩
 have := heapV_new ((w.alloc (.cells a T)).alloc (.cells b T)) (.cells c T)
 rwa [World.size_alloc, World.size_alloc] at this
end Go.Proofs.YtfkbkekgnoanaaaDoor
namespace Go.Proofs.YtfkbkekgnoanaaaDoor
open Go.RowKit
def extG (n : Int) (ga : Nat) (xs : List Nat) (gb : Nat) (ys : List Nat) : Nat := if bothE n ga xs gb ys = 0 then madeF gb ys ga else 0
def extV (n : Int) (ga : Nat) (xs : List Nat) (gb : Nat) (ys : List Nat) : List Nat := if bothE n ga xs gb ys = 0 then canonL (madeF gb ys ga) (xs.map (madeF gb ys)) else []
theorem extA_is (n : Int) (a b : Option Addr) (capa capb ga gb : Nat) (xs ys : List Nat) (w : World) (hfa : FAt w a ga xs) (hfb : FAt w b gb ys) (ht : TabC w) (e0 : Int) (he : bothE n ga xs gb ys = e0) (g : Nat) (hg : extG n ga xs gb ys = g) (zs : List Nat) (hz : extV n ga xs gb ys = zs) (la lb : Nat) (hla : xs.length = la) (hlb : ys.length = lb) :
  Calls Tryd.prog 82 #[.int .i64 n, fval ga a la capa, fval gb b lb capb] w (FRet g zs e0 w) := by
 unfold fval
 have hB0 : Below w.heap.size w (((w.alloc (.cells #[.int .u64 (ga : Int), .slice a la capa] 43)).alloc (.cells #[.int .u64 (gb : Int), .slice b lb capb] 43)).alloc (.cells #[.int .u64 0, .slice none 0 0] 43)) := (((Below.refl _ _).alloc (Nat.le_refl _) _).alloc (by simp) _).alloc (by simp; omega) _
 have HA := Lib.hid (hfa.below hB0); have HB := Lib.hid (hfb.below hB0); have HLA := Lib.hid hla; have HLB := Lib.hid hlb
 obtain ⟨t0, t1, t2⟩ := three_boxes w #[.int .u64 (ga : Int), .slice a la capa] #[.int .u64 (gb : Int), .slice b lb capb] #[.int .u64 0, .slice none 0 0] 43
 have T0 := Lib.hid t0; have T1 := Lib.hid t1; have T2 := Lib.hid t2
 have hga := hfa.gen; have hgb := hfb.gen
 have HXA := Lib.hid hfa.all; have HYA := Lib.hid hfb.all
 have HXL := Lib.hid hfa.len
 have HE := Lib.hid he
 by_cases h0 : e0 = 0
 ·subst h0
  obtain ⟨m, rfl, hm, hxm, hym⟩ := bothE_len he
  obtain rfl : m = la := by omega
  obtain rfl : m = lb := by omega
  obtain rfl : madeF gb ys ga = g := by rw [← hg, extG, if_pos he]
  have HZ : Hid (canonL (madeF gb ys ga) (xs.map (madeF gb ys)) = zs) := by show _ = _; rw [← hz, extV, if_pos he]
  have HOL : Hid ((xs.map (madeF gb ys)).length = (List.replicate m 0).length) := by show _ = _; simp; omega
  obtain ⟨hc1, hc2⟩ := bothE_ok he
  obtain ⟨hd, sh1, _⟩ := checkE_ok hc1
  rw [Int.toNat_natCast] at sh1
  obtain ⟨_, ig, ir⟩ := shapeB_len sh1
  have HINg : Hid (∀ i ∈ mem ga, i < ys.length) := fun i hi => by rw [hym]; exact mem_below ((insN_iff hm hga).1 ig) hi
  have HINr : Hid (∀ x ∈ xs, ∀ i ∈ mem x, i < ys.length) := fun x hx i hi => by rw [hym]; exact mem_below ((insN_iff hm (hfa.all x hx)).1 (ir x hx)) hi
  have hgg : madeF gb ys ga < 18446744073709551616 := madeF_lt hfb.all hgb
  have HGG : Hid (madeF gb ys ga = madeF gb ys ga) := rfl
  obtain ⟨gg, hggq⟩ : ∃ gg, madeF gb ys ga = gg := ⟨_, rfl⟩
  have HGQ := Lib.hid hggq
  rw [hggq] at hgg HZ ⊢
  obtain ⟨i0, hi, hz0, hz1, hz2⟩ := info_parts infoU
  have HT := Lib.hid ht
  have hm0 : (0 : Int) ≤ (m : Int) := by omega
  have hm64 : (m : Int) ≤ 64 := by omega
  clear hfa hfb he hg hz hla hlb t0 t1 t2 hxm hym hggq hc1 hc2 hd sh1 ig ir HGG ht
  go_enter Tryd.func82, Tryd.ntmps82
  go_wp2_with fail
  refine (bothA_is m a b capa capb ga gb xs ys _ HA.out HB.out 0 HE.out m m HLA.out HLB.out).mono ?_
  rintro e w1 ⟨rfl, hb1⟩
  have hB1 := hB0.trans (hb1.mono hB0.size)
  have U0 := Lib.hid (heap_old T0.out hb1); have U1 := Lib.hid (heap_old T1.out hb1); have U2 := Lib.hid (heap_old T2.out hb1)
  go_wp2_with (at_make; go_loud (refine wpList_make_full _ rfl (.tmp 20) (.tmp 20) 41 rfl w1.heap.size 40 i0 _ 1 Tryd.underlying41 hi hz0 hz1 .i64 .i64 (m : Int) (m : Int) m rfl rfl rfl rfl (by rw [hz2]; omega) (by unfold maxLen; omega) (Nat.le_refl _) ?_; intro w2 hown2 hgrow2; have hb2 : Below w1.heap.size w1 w2 := (Below.refl _ _).grown hgrow2 (Nat.le_refl _) (fun j e => by cases e); have V0 := Lib.hid (heap_old U0.out hb2); obtain ⟨c0, c1, _⟩ := two_cells V0.out))
  have hB2 := hB1.trans (hb2.mono hB1.size)
  have V1 := Lib.hid (heap_old U1.out hb2); have V2 := Lib.hid (heap_old U2.out hb2)
  have hw1 : w.heap.size + 1 + 1 < w1.heap.size := (Array.getElem?_eq_some_iff.1 U2.out).1
  have HO0 : Hid (w2.ownsRow w1.heap.size 40 1 (.slice (some ⟨w1.heap.size, 0, none⟩) m m) m (u64s (mixL (xs.map (madeF gb ys)) (List.replicate m 0) 0))) := by
   rw [mixL_zero]
   have e : u64s (List.replicate m 0) = List.replicate m (.int .u64 0) := by simp [u64s]
   have e2 : (madeCells (Value.int IntKind.u64 0).cells (m * 1)).toList = List.replicate m (.int .u64 0) := by
    rw [Nat.mul_one]
    apply List.ext_getElem
    ·simp [madeCells]
    ·intro i h1 h2
     simp [madeCells, Value.cells, Nat.mod_one]
   rw [e, ← e2]
   exact hown2
  clear hown2 c0 c1
  go_wp2_with fail
  go_loopw [25] (fun i wr => ∃ k : Nat, k ≤ m ∧ i = .int .i64 k ∧ Hid (wr.ownsRow w1.heap.size 40 1 (.slice (some ⟨w1.heap.size, 0, none⟩) m m) m (u64s (mixL (xs.map (madeF gb ys)) (List.replicate m 0) k))) ∧ Hid (wr.heap[w.heap.size]? = some (.cells #[.int .u64 (ga : Int), .slice a m capa] 43 (0, 0))) ∧ Hid (wr.heap[w.heap.size + 1]? = some (.cells #[.int .u64 (gb : Int), .slice b m capb] 43 (0, 0))) ∧ Hid (wr.heap[w.heap.size + 1 + 1]? = some (.cells #[.int .u64 0, .slice none 0 0] 43 (0, 0))) ∧ Below w1.heap.size w1 wr) (fun i _ => m - (intOf i).toNat)
  case atStart => exact ⟨0, Nat.zero_le _, rfl, HO0, V0, V1, V2, hb2⟩
  case round =>
   obtain ⟨k, hk, rfl, HO, R0, R1, R2, hb⟩ := hrel
   have HFB := Lib.hid ((HB.out.below hb1).below hb)
   obtain ⟨d0, d1, _⟩ := two_cells R1.out
   by_cases hlt : k < m
   ·obtain ⟨ba, offa, x, rfl, hx, hx64, hba, a0⟩ := ((HA.out.below hb1).below hb).at_ (i := k) (by rw [HLA.out]; exact hlt)
    have HXI := Lib.hid (HINr.out x (List.mem_of_getElem? hx))
    have hxk : (List.replicate m 0)[k]? = some 0 := by simp [hlt]
    have hmx : (xs.map (madeF gb ys))[k]? = some (madeF gb ys x) := by rw [List.getElem?_map, hx]; rfl
    have HM := Lib.hid (mixL_set hmx hxk)
    obtain ⟨q, hq⟩ : ∃ q, madeF gb ys x = q := ⟨_, rfl⟩
    have HQ := Lib.hid hq
    rw [hq] at HM
    have z0 := Lib.hid (u64s_get (mixL_at HOL.out hxk))
    have g0 : (0 : Int) ≤ (k : Int) := by omega
    have g3 : (k : Int) < (m : Int) := by omega
    have hbw : Hid (Below w.heap.size w wr) := hB1.trans (hb.mono hB1.size)
    clear hx hq hmx hxk
    go_wp2_with fail
    refine (madeA_is b capb gb ys x hx64 _ HFB.out HXI.out (HT.out.below hbw.out) q HQ.out m HLB.out).mono ?_
    rintro e w4 ⟨rfl, hb4⟩
    have HO4 := Lib.hid (ownV_below HO.out hb4)
    have dd := (HO4.out.cellAt k (by omega)).trans z0.out
    have q0 := HO4.out.frozenAt k
    have HO2 : Hid ((w4.setCell ⟨w1.heap.size, k, none⟩ (.int .u64 (q : Int))).ownsRow w1.heap.size 40 1 (.slice (some ⟨w1.heap.size, 0, none⟩) m m) m (u64s (mixL (xs.map (madeF gb ys)) (List.replicate m 0) (k + 1)))) := by
     rw [← HM.out, ← u64s_set]
     exact (HO4.out.stored k _).1
    have R0' := Lib.hid (heap_other (B := w1.heap.size) (j := k) (c := .int .u64 (q : Int)) (heap_old R0.out hb4) (by omega))
    have R1' := Lib.hid (heap_other (B := w1.heap.size) (j := k) (c := .int .u64 (q : Int)) (heap_old R1.out hb4) (by omega))
    have R2' := Lib.hid (heap_other (B := w1.heap.size) (j := k) (c := .int .u64 (q : Int)) (heap_old R2.out hb4) (by omega))
    have hb' := (hb.trans (hb4.mono hb.size)).setCell (p := ⟨w1.heap.size, k, none⟩) (Nat.le_refl _) (.int .u64 (q : Int))
    go_wp2
    go_roundw
    case rel => exact ⟨k + 1, by omega, by go_num, HO2, R0', R1', R2', hb'⟩
    case measure => simp [intOf]; omega
   ·obtain rfl : k = m := by omega
    have HO2 : Hid (wr.ownsRow w1.heap.size 40 1 (.slice (some ⟨w1.heap.size, 0, none⟩) k k) k (u64s (xs.map (madeF gb ys)))) := by
     have := HO.out
     have e : mixL (xs.map (madeF gb ys)) (List.replicate k 0) k = xs.map (madeF gb ys) := by
      have := mixL_all HOL.out
      rwa [List.length_replicate] at this
     rwa [e] at this
    obtain ⟨a0, a1, _⟩ := two_cells R0.out
    have hol100 : Hid ((xs.map (madeF gb ys)).length ≤ 100) := by show _ ≤ _; rw [List.length_map]; exact HXL.out
    have holn : Hid ((xs.map (madeF gb ys)).length = k) := by show _ = _; rw [List.length_map]; exact HLA.out
    have HOLT : Hid (∀ r ∈ xs.map (madeF gb ys), r < 18446744073709551616) := fun r hr => by
     rw [List.mem_map] at hr
     obtain ⟨x, _, rfl⟩ := hr
     exact madeF_lt HYA.out hgb
    have hbw : Hid (Below w.heap.size w wr) := hB1.trans (hb.mono hB1.size)
    go_wp2_with fail
    refine (madeA_is b capb gb ys ga hga _ HFB.out HINg.out (HT.out.below hbw.out) gg HGQ.out k HLB.out).mono ?_
    rintro e w3 ⟨rfl, hb3⟩
    have hb3w : w1.heap.size ≤ w3.heap.size := Nat.le_trans hb.size hb3.size
    have HO3 := Lib.hid (ownV_below HO2.out hb3)
    have R3 := Lib.hid (heap_old R2.out hb3)
    go_wp2_with fail
    refine (canonical_is gg w1.heap.size k _ (xs.map (madeF gb ys)) zs _ hgg HOLT.out hol100.out holn.out hb3w HO3.out HZ.out).mono ?_
    rintro e w4 ⟨rfl, post⟩
    have POST := Lib.hid post
    have hB4 : Below w.heap.size w w4 := (hbw.out.trans (hb3.mono hbw.out.size)).trans (post.below.mono hB1.size)
    have W2 := Lib.hid ((post.rest (w.heap.size + 1 + 1) ((Array.getElem?_eq_some_iff.1 R3.out).1) (fun e => by have h9 := (HO3.out.lt _ e.symm).1; omega)).trans R3.out)
    obtain ⟨p0, p1, ff⟩ := two_cells W2.out
    have f0 := ff 0; have f1 := ff 1
    have N1 := Lib.hid (two_set1 (c := .slice (some ⟨w1.heap.size, 0, none⟩) k k) (two_set0 (c := .int .u64 (gg : Int)) W2.out))
    obtain ⟨s0, s1, _⟩ := two_cells N1.out
    have HNB := Lib.hid (not_row W2.out (by decide) POST.out.own)
    have HO5 := Lib.hid ((POST.out.own.kept (grownBy_set _ _ 0 (.int .u64 (gg : Int))) (.inr HNB.out.symm)).kept (grownBy_set _ (w.heap.size + 1 + 1) 1 (.slice (some ⟨w1.heap.size, 0, none⟩) k k)) (.inr HNB.out.symm))
    have HB5 := Lib.hid ((hB4.setCell (p := ⟨w.heap.size + 1 + 1, 0, none⟩) (by simp; omega) (.int .u64 (gg : Int))).setCell (p := ⟨w.heap.size + 1 + 1, 1, none⟩) (by simp; omega) (.slice (some ⟨w1.heap.size, 0, none⟩) k k))
    clear post ff a0 a1 d0 d1
    go_wp2
    refine bodyPost_ret (v := .tuple #[.agg #[.int .u64 (gg : Int), .slice (some ⟨w1.heap.size, 0, none⟩) k k], .int .i64 0]) ?_ rfl (fret_own hB1.size HO5.out HB5.out 0)
    simp [results, Tryd.results82, go_sem, s0, s1]
 ·obtain rfl : 0 = g := by rw [← hg, extG, he, if_neg h0]
  obtain rfl : [] = zs := by rw [← hz, extV, he, if_neg h0]
  have hne : (e0 != 0) = true := by simpa using h0
  clear hfa hfb he hg hz hla hlb t0 t1 t2 h0
  go_enter Tryd.func82, Tryd.ntmps82
  go_wp2_with fail
  refine (bothA_is n a b capa capb ga gb xs ys _ HA.out HB.out e0 HE.out la lb HLA.out HLB.out).mono ?_
  rintro e w1 ⟨rfl, hb1⟩
  have hB1 := hB0.trans (hb1.mono hB0.size)
  have U2 := Lib.hid (heap_old T2.out hb1)
  obtain ⟨d0, d1, df⟩ := two_cells U2.out
  have f0 := df 0; have f1 := df 1
  have N1 := Lib.hid (two_set1 (c := .slice none 0 0) (two_set0 (c := .int .u64 0) U2.out))
  obtain ⟨s0, s1, _⟩ := two_cells N1.out
  clear df
  go_wp2
  refine bodyPost_ret (v := .tuple #[.agg #[.int .u64 0, .slice none 0 0], .int .i64 e0]) ?_ rfl (fret_nil e0 ((hB1.setCell (p := ⟨w.heap.size + 1 + 1, 0, none⟩) (by simp; omega) _).setCell (p := ⟨w.heap.size + 1 + 1, 1, none⟩) (by simp; omega) _))
  simp [results, Tryd.results82, go_sem, s0, s1]
end Go.Proofs.YtfkbkekgnoanaaaDoor
namespace Go.Proofs.YtfkbkekgnoanaaaDoor
open Go.RowKit
structure KeepK (w wr : World) (A B : Nat) (ca cb : Array Value) : Prop where
 hA : wr.heap[A]? = some (.cells ca 43 (0, 0))
 hB : wr.heap[B]? = some (.cells cb 43 (0, 0))
 below : Below w.heap.size w wr
theorem KeepK.drew {w wr : World} {A B : Nat} {ca cb : Array Value} (h : KeepK w wr A B ca cb) : KeepK w wr.drew A B ca cb := ⟨h.hA, h.hB, h.below.drew⟩
theorem KeepK.alloc {w wr : World} {A B : Nat} {ca cb : Array Value} (h : KeepK w wr A B ca cb) (o : Obj) : KeepK w (wr.alloc o) A B ca cb := ⟨heap_allocd h.hA o, heap_allocd h.hB o, h.below.alloc h.below.size o⟩
theorem KeepK.call {w wr w' : World} {A B : Nat} {ca cb : Array Value} (h : KeepK w wr A B ca cb) (hb : Below wr.heap.size wr w') : KeepK w w' A B ca cb := ⟨heap_old h.hA hb, heap_old h.hB hb, h.below.trans (hb.mono h.below.size)⟩
theorem KeepK.set {w wr : World} {A B F j : Nat} {ca cb : Array Value} (h : KeepK w wr A B ca cb) (h1 : A ≠ F) (h2 : B ≠ F) (h3 : w.heap.size ≤ F) (v : Value) : KeepK w (wr.setCell ⟨F, j, none⟩ v) A B ca cb := ⟨heap_other h.hA h1, heap_other h.hB h2, h.below.setCell (p := ⟨F, j, none⟩) h3 v⟩
theorem KeepK.grown {w wr w' : World} {A B base n : Nat} {ca cb : Array Value} {v : Value} {xs : List Value} (h : KeepK w wr A B ca cb) (hr : wr.ownsRow base 40 1 v n xs) (hb : w.heap.size ≤ base) (hg : wr.grownBy w' v.ownBlock) : KeepK w w' A B ca cb :=
 ⟨heap_grown h.hA (by decide) hr hg, heap_grown h.hB (by decide) hr hg, h.below.grown hg h.below.size (fun j e => Nat.le_trans hb (hr.lt j e).1)⟩
end Go.Proofs.YtfkbkekgnoanaaaDoor
namespace Go.Proofs.YtfkbkekgnoanaaaDoor
open Go.RowKit
theorem KeepK.cells4 {w wr : World} {A B : Nat} {u1 u2 v1 v2 : Value} (h : KeepK w wr A B #[u1, u2] #[v1, v2]) {p : Addr} {x : Value} (hp : w.cell? p = some x) :
  wr.cell? ⟨A, 1, none⟩ = some u2 ∧ wr.cell? p = some x ∧ wr.cell? ⟨B, 0, none⟩ = some v1 ∧ wr.cell? ⟨B, 1, none⟩ = some v2 :=
 ⟨(two_cells h.hA).2.1, (h.below.cell (cell_lt hp)).trans hp, (two_cells h.hB).1, (two_cells h.hB).2.1⟩
theorem map_take {f : Nat → Nat} {xs : List Nat} {k x q : Nat} (hx : xs[k]? = some x) (hq : f x = q) : (xs.map f).take (k + 1) = (xs.map f).take k ++ [q] := by
 have h2 : (xs.map f)[k]? = some q := by rw [List.getElem?_map, hx, ← hq]; rfl
 obtain ⟨hk, e⟩ := List.getElem?_eq_some_iff.1 h2
 rw [List.take_succ_eq_append_getElem hk, e]
set_option maxHeartbeats 20000000 in
theorem extR_is (n : Int) (a b : Option Addr) (capa capb ga gb : Nat) (xs ys : List Nat) (w : World) (hfa : FAt w a ga xs) (hfb : FAt w b gb ys) (e0 : Int) (he : bothE n ga xs gb ys = e0) (g : Nat) (hg : extG n ga xs gb ys = g) (zs : List Nat) (hz : extV n ga xs gb ys = zs) (la lb : Nat) (hla : xs.length = la) (hlb : ys.length = lb) :
  Calls Tryd.prog 48 #[.int .i64 n, fval ga a la capa, fval gb b lb capb] w (FRet g zs e0 w) := by
 unfold fval
 have hB0 : Below w.heap.size w (((w.alloc (.cells #[.int .u64 (ga : Int), .slice a la capa] 43)).alloc (.cells #[.int .u64 (gb : Int), .slice b lb capb] 43)).alloc (.cells #[.int .u64 0, .slice none 0 0] 43)) := (((Below.refl _ _).alloc (Nat.le_refl _) _).alloc (by simp) _).alloc (by simp; omega) _
 have HA0 := Lib.hid hfa; have HBB0 := Lib.hid hfb
 have HA := Lib.hid (hfa.below hB0); have HB := Lib.hid (hfb.below hB0); have HLA := Lib.hid hla; have HLB := Lib.hid hlb
 obtain ⟨t0, t1, t2⟩ := three_boxes w #[.int .u64 (ga : Int), .slice a la capa] #[.int .u64 (gb : Int), .slice b lb capb] #[.int .u64 0, .slice none 0 0] 43
 have T0 := Lib.hid t0; have T1 := Lib.hid t1; have T2 := Lib.hid t2
 have hga := hfa.gen; have hgb := hfb.gen
 have HXA := Lib.hid hfa.all; have HYA := Lib.hid hfb.all
 have HXL := Lib.hid hfa.len
 have HE := Lib.hid he
 by_cases h0 : e0 = 0
 ·subst h0
  obtain ⟨m, rfl, hm, hxm, hym⟩ := bothE_len he
  obtain rfl : m = la := by omega
  obtain rfl : m = lb := by omega
  obtain rfl : madeF gb ys ga = g := by rw [← hg, extG, if_pos he]
  have HZ : Hid (canonL (madeF gb ys ga) (xs.map (madeF gb ys)) = zs) := by show _ = _; rw [← hz, extV, if_pos he]
  have HOL : Hid ((xs.map (madeF gb ys)).length = m) := by show _ = _; rw [List.length_map]; exact hla
  obtain ⟨hc1, hc2⟩ := bothE_ok he
  obtain ⟨_, sh1, _⟩ := checkE_ok hc1
  rw [Int.toNat_natCast] at sh1
  obtain ⟨_, ig, ir⟩ := shapeB_len sh1
  have HINg : Hid (ga < 2 ^ ys.length) := by show _ < _; rw [hym]; exact (insN_iff hm hga).1 ig
  have HINr : Hid (∀ x ∈ xs, x < 2 ^ ys.length) := fun x hx => by rw [hym]; exact (insN_iff hm (hfa.all x hx)).1 (ir x hx)
  have HY64 : Hid (ys.length ≤ 64) := by show _ ≤ _; omega
  have hgg : madeF gb ys ga < 18446744073709551616 := madeF_lt hfb.all hgb
  obtain ⟨gg, hggq⟩ : ∃ gg, madeF gb ys ga = gg := ⟨_, rfl⟩
  have HGQ := Lib.hid hggq
  rw [hggq] at hgg HZ ⊢
  obtain ⟨i0, hi, hz0, hz1, hz2⟩ := info_parts infoU
  clear hfa hfb he hg hz hla hlb t0 t1 t2 hxm hym hggq hc1 hc2 sh1 ig ir
  go_enter Tryd.func48, Tryd.ntmps48
  go_wp2_with fail
  refine (twoR_is m a b capa capb ga gb xs ys _ HA.out HB.out 0 HE.out m m HLA.out HLB.out).mono ?_
  rintro e w1 ⟨rfl, hb1⟩
  have hB1 := hB0.trans (hb1.mono hB0.size)
  have U0 := Lib.hid (heap_old T0.out hb1); have U1 := Lib.hid (heap_old T1.out hb1); have U2 := Lib.hid (heap_old T2.out hb1)
  obtain ⟨c0, c1, _⟩ := two_cells U0.out
  obtain ⟨k0, k1, _⟩ := two_cells U1.out
  go_wp2_with fail
  refine (madeR_is b capb gb ys ga HINg.out HY64.out _ (HB.out.below hb1) gg HGQ.out m HLB.out).mono ?_
  rintro e w2 ⟨rfl, hb2⟩
  have U0 := Lib.hid (heap_old U0.out hb2); have U1 := Lib.hid (heap_old U1.out hb2); have U2 := Lib.hid (heap_old U2.out hb2)
  have hB1 := hB1.trans (hb2.mono hB1.size)
  have hw1 : w.heap.size + 1 + 1 < w2.heap.size := (Array.getElem?_eq_some_iff.1 U2.out).1
  have UF := Lib.hid (heapV_new w2 (.cells #[.int .u64 (gg : Int), .slice none 0 0] 43))
  have K0 : Hid (KeepK w (w2.alloc (.cells #[.int .u64 (gg : Int), .slice none 0 0] 43)) w.heap.size (w.heap.size + 1) #[.int .u64 (ga : Int), .slice a m capa] #[.int .u64 (gb : Int), .slice b m capb]) := KeepK.alloc ⟨U0.out, U1.out, hB1⟩ _
  have S0 := Lib.hid (heap_allocd U2.out (.cells #[.int .u64 (gg : Int), .slice none 0 0] 43))
  obtain ⟨F, hF⟩ : ∃ F, w2.heap.size = F := ⟨_, rfl⟩
  have HFL : Hid ((w2.alloc (.cells #[.int .u64 (gg : Int), .slice none 0 0] 43)).heap.size = F + 1) := by show _ = _; rw [World.size_alloc, hF]
  rw [hF] at UF hw1
  clear c0 c1 k0 k1
  go_wp2_with fail
  go_loopw [10] (fun i wr => ∃ (k : Nat) (v : Value), k ≤ m ∧ i = .int .i64 k ∧ Hid (KeepK w wr w.heap.size (w.heap.size + 1) #[.int .u64 (ga : Int), .slice a m capa] #[.int .u64 (gb : Int), .slice b m capb]) ∧ Hid (wr.heap[w.heap.size + 1 + 1]? = some (.cells #[.int .u64 0, .slice none 0 0] 43 (0, 0))) ∧ Hid (wr.heap[F]? = some (.cells #[.int .u64 (gg : Int), v] 43 (0, 0))) ∧ Hid (wr.ownsRow F 40 1 v k (u64s ((xs.map (madeF gb ys)).take k))) ∧ F ≤ wr.heap.size) (fun i _ => m - (intOf i).toNat)
  case atStart => exact ⟨0, .slice none 0 0, Nat.zero_le _, rfl, K0, S0, UF, World.ownsRow_nil _ _ _ _, by have := HFL.out; omega⟩
  case round =>
   obtain ⟨k, v, hk, rfl, K, R2, RF, HO, hFw⟩ := hrel
   obtain ⟨f0, f1, ff⟩ := two_cells RF.out
   have ff1 := ff 1
   by_cases hlt : k < m
   ·obtain ⟨ba, offa, x, rfl, hx, hx64, hba, a0⟩ := HA0.out.at_ (i := k) (by rw [HLA.out]; exact hlt)
    obtain ⟨q, hq⟩ : ∃ q, madeF gb ys x = q := ⟨_, rfl⟩
    have HQ := Lib.hid hq
    have HT := Lib.hid (map_take hx hq)
    have HX2 := Lib.hid (HINr.out x (List.mem_of_getElem? hx))
    have A0 := Lib.hid a0
    have g0 : (0 : Int) ≤ (k : Int) := by omega
    have g1 : (k : Int) < (m : Int) := by omega
    obtain ⟨s1, s2, s3, s4⟩ := K.out.cells4 a0
    clear hx hq ff a0
    go_wp2_with fail
    go_region_law (first | (refine step_append_lies (w3.alloc (.cells #[.int .u64 (q : Int)] 40)) ?_ (.tmp 30) (.tmp 38) 41 ?_ F 40 i0 _ 1 8 Tryd.underlying41 hi hz0 hz1 hz2 ?_ ?_ v k (u64s ((xs.map (madeF gb ys)).take k)) ?_ ?_ ⟨w3.heap.size, 0, none⟩ 1 1 [.int .u64 (q : Int)] ?_ ?_ ?_ ?_ ?_ ?_ ?_ ?_ (w3.heap.size + 1) ?_ ?_; rfl; rfl; rfl; omega; rfl; exact HO3.out.alloc _; rfl; rfl; exact (World.news_of_block (cs := #[.int .u64 (q : Int)]) (t := 40) (fr := (0, 0)) (heapV_new w3 _)); simp [Value.oneCell']; omega; (unfold maxLen; omega); omega; (simp; omega); simp; intro gg9 cp w5 hown1 hgrow hat hlt5; have HOA := Lib.hid (HO3.out.alloc (.cells #[.int .u64 (q : Int)] 40)); have K5 := Lib.hid (KA.out.grown HOA.out (by omega) hgrow); have D2 := Lib.hid (heap_grown (heap_allocd R23.out (.cells #[.int .u64 (q : Int)] 40)) (by decide) HOA.out hgrow); have DF := Lib.hid (heap_grown (heap_allocd RF3.out (.cells #[.int .u64 (q : Int)] 40)) (by decide) HOA.out hgrow); have hs5 := hgrow.size; obtain ⟨_, d1, df⟩ := two_cells DF.out; have df1 := df 1; clear df) | (go_simp; go_at_call 65; refine (madeR_is b capb gb ys x HX2.out HY64.out _ (by first | exact HBB0.out.below K.out.drew.below | exact HBB0.out.below K.out.below) q HQ.out m HLB.out).mono ?_; rintro e w3 ⟨rfl, hb3⟩; have K3 := Lib.hid (K.out.drew.call hb3); have R23 := Lib.hid (heap_old (w := wr.drew) R2.out hb3); have RF3 := Lib.hid (heap_old (w := wr.drew) RF.out hb3); have HO3 := Lib.hid (ownV_below (w := wr.drew) HO.out hb3); have hFw3 : F ≤ w3.heap.size := Nat.le_trans hFw hb3.size; have x1 := (two_cells RF3.out).2.1; have q1 := (two_cells (heap_allocd RF3.out (.cells #[.int .u64 (q : Int)] 40))).2.1; have KA := Lib.hid (K3.out.alloc (.cells #[.int .u64 (q : Int)] 40))) | fail)
    all_goals
     have hsl : Hid (F ≤ w5.heap.size) := by show _ ≤ _; simp at hs5; omega
     have HO5 := Lib.hid (show (w5.setCell ⟨F, 1, none⟩ (.slice (some ⟨gg9, 0, none⟩) (k + 1) cp)).ownsRow F 40 1 (.slice (some ⟨gg9, 0, none⟩) (k + 1) cp) (k + 1) (u64s ((xs.map (madeF gb ys)).take (k + 1))) by
      rw [HT.out, u64s_snoc]; exact hown1.kept (grownBy_set w5 _ _ _) (.inr (not_row DF.out (by decide) hown1).symm))
     have N2 := Lib.hid (heap_other (B := F) (j := 1) (c := .slice (some ⟨gg9, 0, none⟩) (k + 1) cp) D2.out (by omega))
     have NF := Lib.hid (two_set1 (c := .slice (some ⟨gg9, 0, none⟩) (k + 1) cp) DF.out)
     have NK := Lib.hid (K5.out.set (F := F) (j := 1) (by omega) (by omega) (by omega) (.slice (some ⟨gg9, 0, none⟩) (k + 1) cp))
     clear hown1 hgrow hat d1 df1 q1 x1 s1 s2 s3 s4 f0 f1 ff1 hs5 hb3
     go_wp2
     go_roundw
     case rel => exact ⟨k + 1, _, by omega, by go_num, NK, N2, NF, HO5, by have := hsl.out; simpa [World.setCell] using this⟩
     case measure => simp [intOf]; omega
   ·obtain rfl : k = m := by omega
    have HO2 : Hid (wr.ownsRow F 40 1 v k (u64s (xs.map (madeF gb ys)))) := by
     have := HO.out
     rwa [List.take_of_length_le (by rw [HOL.out]; exact Nat.le_refl _)] at this
    obtain ⟨hvn, a3, cap3, hv3, hr3, hf3⟩ := VRow.of_own HO2.out
    have hol : (u64s (xs.map (madeF gb ys))).length = k := hvn.symm
    rw [hol] at hv3
    subst hv3
    have HMLT : Hid (∀ r ∈ xs.map (madeF gb ys), r < 18446744073709551616) := fun r hr => by obtain ⟨x, _, e⟩ := List.mem_map.1 hr; rw [← e]; exact madeF_lt HYA.out hgb
    have holn : (xs.map (madeF gb ys)).length = k := by rw [← hol, u64s_length]
    have hfat : FAt wr a3 gg (xs.map (madeF gb ys)) := ⟨hr3, hgg, HMLT.out, by rw [holn, ← HLA.out]; exact HXL.out⟩
    have can : ∀ (W : World), FAt W a3 gg (xs.map (madeF gb ys)) → Calls Tryd.prog 66 #[.agg #[.int .u64 (gg : Int), .slice a3 k cap3]] W (FOne gg zs W) := fun W hW => by
     have := canonR_is a3 cap3 gg (xs.map (madeF gb ys)) W hW zs HZ.out
     rwa [holn] at this
    have HCAN := Lib.hid can; have HFAT := Lib.hid hfat
    have hrel := K.out.below
    have hsz : w.heap.size ≤ wr.heap.size := hrel.size
    have R3 := R2
    clear hvn hr3 hf3 hol holn hfat can ff ff1
    go_wp2_with fail
    refine (HCAN.out _ HFAT.out).mono ?_
    rintro e w4 ⟨a4, cap4, rfl, hr4, hf4, hb4⟩
    unfold fval
    have hB4 := hrel.trans (hb4.mono hrel.size)
    have U4 := Lib.hid (heap_old R3.out hb4)
    obtain ⟨k0, k1, df⟩ := two_cells U4.out
    have y0 := df 0; have y1 := df 1
    have N1 := Lib.hid (two_set1 (c := .slice a4 zs.length cap4) (two_set0 (c := .int .u64 (gg : Int)) U4.out))
    obtain ⟨s0, s1, _⟩ := two_cells N1.out
    have hne : ∀ ad, a4 = some ad → ad.block ≠ w.heap.size + 1 + 1 := fun ad e => by
     have h1 := (hf4 ad e).1
     omega
    have NR := Lib.hid (vrow_set (vrow_set hr4 (B := w.heap.size + 1 + 1) (j := 0) (v := .int .u64 (gg : Int)) hne) (B := w.heap.size + 1 + 1) (j := 1) (v := .slice a4 zs.length cap4) hne)
    have HF4 := Lib.hid hf4
    clear df hr4 hf4 hne
    go_wp2
    refine bodyPost_ret (v := .tuple #[.agg #[.int .u64 (gg : Int), .slice a4 zs.length cap4], .int .i64 0]) ?_ rfl ⟨a4, cap4, rfl, NR.out, fun ad e => ⟨Nat.le_trans hsz (HF4.out ad e).1, by simpa [World.setCell] using (HF4.out ad e).2⟩, (hB4.setCell (p := ⟨w.heap.size + 1 + 1, 0, none⟩) (by simp; omega) _).setCell (p := ⟨w.heap.size + 1 + 1, 1, none⟩) (by simp; omega) _⟩
    simp [results, Tryd.results48, go_sem, s0, s1]
 ·obtain rfl : 0 = g := by rw [← hg, extG, he, if_neg h0]
  obtain rfl : [] = zs := by rw [← hz, extV, he, if_neg h0]
  have hne : (e0 != 0) = true := by simpa using h0
  clear hfa hfb he hg hz hla hlb t0 t1 t2 h0
  go_enter Tryd.func48, Tryd.ntmps48
  go_wp2_with fail
  refine (twoR_is n a b capa capb ga gb xs ys _ HA.out HB.out e0 HE.out la lb HLA.out HLB.out).mono ?_
  rintro e w1 ⟨rfl, hb1⟩
  have hB1 := hB0.trans (hb1.mono hB0.size)
  have U2 := Lib.hid (heap_old T2.out hb1)
  obtain ⟨d0, d1, df⟩ := two_cells U2.out
  have f0 := df 0; have f1 := df 1
  have N1 := Lib.hid (two_set1 (c := .slice none 0 0) (two_set0 (c := .int .u64 0) U2.out))
  obtain ⟨s0, s1, _⟩ := two_cells N1.out
  clear df
  go_wp2
  refine bodyPost_ret (v := .tuple #[.agg #[.int .u64 0, .slice none 0 0], .int .i64 e0]) ?_ rfl (fret_nil e0 ((hB1.setCell (p := ⟨w.heap.size + 1 + 1, 0, none⟩) (by simp; omega) _).setCell (p := ⟨w.heap.size + 1 + 1, 1, none⟩) (by simp; omega) _))
  simp [results, Tryd.results48, go_sem, s0, s1]
end Go.Proofs.YtfkbkekgnoanaaaDoor
namespace Go.Proofs.YtfkbkekgnoanaaaDoor
open Go.RowKit
def FOwn (gen : Nat) (rows : List Nat) (err : Int) (w : World) (e : Ending) (w' : World) : Prop :=
 ∃ v, e = .returned (.tuple #[.agg #[.int .u64 (gen : Int), v], .int .i64 err]) ∧ w'.ownsRow w.heap.size 40 1 v rows.length (u64s rows) ∧ Below w.heap.size w w'
theorem fown_nil {w w' : World} (err : Int) (hb : Below w.heap.size w w') : FOwn 0 [] err w (.returned (.tuple #[.agg #[.int .u64 0, .slice none 0 0], .int .i64 err])) w' :=
 ⟨_, rfl, World.ownsRow_nil _ _ _ _, hb⟩
theorem fown_own {w w' : World} {gen n : Nat} {v : Value} {rows : List Nat} (h : w'.ownsRow w.heap.size 40 1 v n (u64s rows)) (hb : Below w.heap.size w w') (err : Int) : FOwn gen rows err w (.returned (.tuple #[.agg #[.int .u64 (gen : Int), v], .int .i64 err])) w' := by
 have hn : n = rows.length := by have := h.1; rw [u64s_length] at this; omega
 subst hn
 exact ⟨v, rfl, h, hb⟩
theorem FOwn.ret {gen : Nat} {rows : List Nat} {err : Int} {w w' : World} {e : Ending} (h : FOwn gen rows err w e w') : FRet gen rows err w e w' := by
 obtain ⟨v, rfl, ho, hb⟩ := h
 exact fret_own (Nat.le_refl _) ho hb err
def onesL (m : Nat) : List Nat := (List.range m).map fun i => 2 ^ i
theorem onesL_length (m : Nat) : (onesL m).length = m := by simp [onesL]
theorem onesL_at {m k : Nat} (h : k < m) : (onesL m)[k]? = some (2 ^ k) := by
 unfold onesL
 rw [List.getElem?_map, List.getElem?_range h]; rfl
def oneV (n : Int) : List Nat := if dimB n = true then onesL n.toNat else []
def oneE (n : Int) : Int := if dimB n = true then 0 else 31
set_option maxHeartbeats 2000000 in
theorem oneA_is (n : Int) (w : World) (e0 : Int) (he : oneE n = e0) (ys : List Nat) (hys : oneV n = ys) :
  Calls Tryd.prog 76 #[.int .i64 n] w (FOwn 0 ys e0 w) := by
 have hB0 : Below w.heap.size w (w.alloc (.cells #[.int .u64 0, .slice none 0 0] 43)) := (Below.refl _ _).alloc (Nat.le_refl _) _
 have T0 := Lib.hid (heapV_new w (.cells #[.int .u64 0, .slice none 0 0] 43))
 obtain ⟨i0, hi, hz0, hz1, hz2⟩ := info_parts infoU
 cases hd : dimB n
 ·obtain rfl : 31 = e0 := by rw [← he, oneE, hd]; rfl
  obtain rfl : [] = ys := by rw [← hys, oneV, hd]; rfl
  obtain ⟨d0, d1, df⟩ := two_cells T0.out
  have f0 := df 0; have f1 := df 1
  have hx : n < 0 ∨ 64 < n := by
   by_cases h : n < 0
   ·exact .inl h
   ·simp [dimB, show 0 ≤ n by omega] at hd; exact .inr hd
  clear df hd he hys
  rcases hx with hx | hx
  all_goals
   go_enter Tryd.func76, Tryd.ntmps76
   go_wp2
   refine bodyPost_ret (v := .tuple #[.agg #[.int .u64 0, .slice none 0 0], .int .i64 31]) ?_ rfl (fown_nil 31 hB0)
   simp [results, Tryd.results76, go_sem, d0, d1]
 ·obtain ⟨m, rfl, hm⟩ := dim_nat hd
  obtain rfl : 0 = e0 := by rw [← he, oneE, hd]; rfl
  have HY : Hid (onesL m = ys) := by show _ = _; rw [← hys, oneV, hd, if_pos rfl, Int.toNat_natCast]
  have hm0 : (0 : Int) ≤ (m : Int) := by omega
  have hm64 : (m : Int) ≤ 64 := by omega
  clear hd he hys
  go_enter Tryd.func76, Tryd.ntmps76
  go_wp2_with (at_make; go_loud (refine wpList_make_full _ rfl (.tmp 13) (.tmp 13) 41 rfl w.heap.size 40 i0 _ 1 Tryd.underlying41 hi hz0 hz1 .i64 .i64 (m : Int) (m : Int) m rfl rfl rfl rfl (by rw [hz2]; omega) (by unfold maxLen; omega) hB0.size ?_; intro w2 hown2 hgrow2))
  have hbl : (w.alloc (.cells #[.int .u64 0, .slice none 0 0] 43)).heap.size = w.heap.size + 1 := by simp
  have hzz : Hid (w2.ownsRow w.heap.size 40 1 (.slice (some ⟨w.heap.size + 1, 0, none⟩) m m) m (u64s (mixL (onesL m) (List.replicate m 0) 0))) := by
   rw [mixL_zero, ← hbl]
   have e : u64s (List.replicate m 0) = List.replicate m (.int .u64 0) := by simp [u64s]
   have e2 : (madeCells (Value.int IntKind.u64 0).cells (m * 1)).toList = List.replicate m (.int .u64 0) := by
    rw [Nat.mul_one]
    apply List.ext_getElem
    ·simp [madeCells]
    ·intro i h1 h2
     simp [madeCells, Value.cells, Nat.mod_one]
   rw [e, ← e2]
   exact hown2
  have U0 := Lib.hid ((hgrow2.block _ (Array.getElem?_eq_some_iff.1 T0.out).1 (by simp)).trans T0.out)
  have hB2 : Below w.heap.size w w2 := hB0.grown hgrow2 hB0.size (fun j e => by cases e)
  clear hown2
  go_wp2_with fail
  go_loopw [17] (fun i wr => ∃ k : Nat, k ≤ m ∧ i = .int .i64 k ∧ Hid (wr.ownsRow w.heap.size 40 1 (.slice (some ⟨w.heap.size + 1, 0, none⟩) m m) m (u64s (mixL (onesL m) (List.replicate m 0) k))) ∧ Hid (wr.heap[w.heap.size]? = some (.cells #[.int .u64 0, .slice none 0 0] 43 (0, 0))) ∧ Below w.heap.size w wr) (fun i _ => m - (intOf i).toNat)
  case atStart => exact ⟨0, Nat.zero_le _, rfl, hzz, U0, hB2⟩
  case round =>
   obtain ⟨k, hk, rfl, HO, HR, hb⟩ := hrel
   by_cases hlt : k < m
   ·have hsh : IntKind.u64.wrap ((2 : Int) ^ k) = ((2 ^ k : Nat) : Int) := by
     have hpw : 2 ^ k ≤ 9223372036854775808 := pow_lt64 (by omega)
     rw [IntKind.wrap_u64]
     have e : ((2 : Int) ^ k) = ((2 ^ k : Nat) : Int) := by simp
     rw [e]
     generalize 2 ^ k = q at *
     omega
    have hxk : (List.replicate m 0)[k]? = some 0 := by simp [hlt]
    have HM := Lib.hid (mixL_set (onesL_at hlt) hxk)
    obtain ⟨q, hq⟩ : ∃ q : Nat, 2 ^ k = q := ⟨_, rfl⟩
    rw [hq] at hsh HM
    have q0 := HO.out.frozenAt k
    have d0 := (HO.out.cellAt k (by omega)).trans (u64s_get (mixL_at (by rw [onesL_length]; simp) hxk))
    have g0 : (0 : Int) ≤ (k : Int) := by omega
    have g3 : (k : Int) < (m : Int) := by omega
    have HO2 : Hid ((wr.setCell ⟨w.heap.size + 1, k, none⟩ (.int .u64 (q : Int))).ownsRow w.heap.size 40 1 (.slice (some ⟨w.heap.size + 1, 0, none⟩) m m) m (u64s (mixL (onesL m) (List.replicate m 0) (k + 1)))) := by
     rw [← HM.out, ← u64s_set]
     exact (HO.out.stored k _).1
    have HR2 := Lib.hid (heap_other (B := w.heap.size + 1) (j := k) (c := .int .u64 (q : Int)) HR.out (by omega))
    have hb2 := hb.setCell (p := ⟨w.heap.size + 1, k, none⟩) (by simp) (.int .u64 (q : Int))
    clear hxk hq
    go_wp2
    go_roundw
    case rel => exact ⟨k + 1, by omega, by go_num, HO2, HR2, hb2⟩
    case measure => simp [intOf]; omega
   ·obtain rfl : k = m := by omega
    have HO2 : Hid (wr.ownsRow w.heap.size 40 1 (.slice (some ⟨w.heap.size + 1, 0, none⟩) k k) k (u64s ys)) := by
     have := HO.out
     have e : mixL (onesL k) (List.replicate k 0) k = onesL k := by
      have := mixL_all (ys := onesL k) (xs := List.replicate k 0) (by rw [onesL_length]; simp)
      simpa using this
     rwa [e, HY.out] at this
    obtain ⟨r0, r1, rf⟩ := two_cells HR.out
    have rf0 := rf 0; have rf1 := rf 1
    have N1 := Lib.hid (two_set1 (c := .slice (some ⟨w.heap.size + 1, 0, none⟩) k k) (two_set0 (c := .int .u64 0) HR.out))
    obtain ⟨s0, s1, _⟩ := two_cells N1.out
    have HO5 := Lib.hid ((HO2.out.kept (grownBy_set _ _ 0 (.int .u64 0)) (.inr (not_row HR.out (by decide) HO2.out).symm)).kept (grownBy_set _ w.heap.size 1 (.slice (some ⟨w.heap.size + 1, 0, none⟩) k k)) (.inr (not_row HR.out (by decide) HO2.out).symm))
    have HB5 := Lib.hid ((hb.setCell (p := ⟨w.heap.size, 0, none⟩) (Nat.le_refl _) (.int .u64 0)).setCell (p := ⟨w.heap.size, 1, none⟩) (Nat.le_refl _) (.slice (some ⟨w.heap.size + 1, 0, none⟩) k k))
    clear rf
    go_wp2
    refine bodyPost_ret (v := .tuple #[.agg #[.int .u64 0, .slice (some ⟨w.heap.size + 1, 0, none⟩) k k], .int .i64 0]) ?_ rfl (fown_own (gen := 0) HO5.out HB5.out 0)
    simp [results, Tryd.results76, go_sem, s0, s1]
theorem oneR_is (n : Int) (w : World) (e0 : Int) (he : oneE n = e0) (ys : List Nat) (hys : oneV n = ys) :
  Calls Tryd.prog 46 #[.int .i64 n] w (FOwn 0 ys e0 w) := by
 have hB0 : Below w.heap.size w (w.alloc (.cells #[.int .u64 0, .slice none 0 0] 43)) := (Below.refl _ _).alloc (Nat.le_refl _) _
 have T0 := Lib.hid (heapV_new w (.cells #[.int .u64 0, .slice none 0 0] 43))
 obtain ⟨i0, hi, hz0, hz1, hz2⟩ := info_parts infoU
 cases hd : dimB n
 ·obtain rfl : 31 = e0 := by rw [← he, oneE, hd]; rfl
  obtain rfl : [] = ys := by rw [← hys, oneV, hd]; rfl
  have HD := Lib.hid hd
  obtain ⟨d0, d1, df⟩ := two_cells T0.out
  have f0 := df 0; have f1 := df 1
  clear df hd he hys
  go_enter Tryd.func46, Tryd.ntmps46
  go_wp2_with fail
  refine (dim_is n false HD.out _).mono ?_
  rintro e w1 ⟨rfl, rfl⟩
  go_wp2
  refine bodyPost_ret (v := .tuple #[.agg #[.int .u64 0, .slice none 0 0], .int .i64 31]) ?_ rfl (fown_nil 31 hB0)
  simp [results, Tryd.results46, go_sem, d0, d1]
 ·have HD := Lib.hid hd
  obtain ⟨m, rfl, hm⟩ := dim_nat hd
  obtain rfl : 0 = e0 := by rw [← he, oneE, hd]; rfl
  have HY : Hid (onesL m = ys) := by show _ = _; rw [← hys, oneV, hd, if_pos rfl, Int.toNat_natCast]
  have HYL : Hid (ys.length = m) := by show _ = _; rw [← HY.out, onesL_length]
  clear hd he hys
  obtain ⟨t0, t1⟩ := two_boxes w #[.int .u64 0, .slice none 0 0] #[.int .u64 0, .slice none 0 0] 43
  have A0 := Lib.hid t0; have A1 := Lib.hid t1
  clear t0 t1
  go_enter Tryd.func46, Tryd.ntmps46
  go_wp2_with fail
  refine (dim_is m true HD.out _).mono ?_
  rintro e w1 ⟨rfl, rfl⟩
  go_wp2_with fail
  go_loopw [5] (fun i wr => ∃ (k : Nat) (v : Value), k ≤ m ∧ i = .int .i64 k ∧ Hid (wr.heap[w.heap.size]? = some (.cells #[.int .u64 0, .slice none 0 0] 43 (0, 0))) ∧ Hid (wr.heap[w.heap.size + 1]? = some (.cells #[.int .u64 0, v] 43 (0, 0))) ∧ Hid (wr.ownsRow w.heap.size 40 1 v k (u64s (ys.take k))) ∧ Below w.heap.size w wr) (fun i _ => m - (intOf i).toNat)
  case atStart => exact ⟨0, .slice none 0 0, Nat.zero_le _, rfl, A0, A1, World.ownsRow_nil _ _ _ _, hB0.alloc (by simp) _⟩
  case round =>
   obtain ⟨k, v, hk, rfl, B1, B2, HO, hb⟩ := hrel
   obtain ⟨e0, e1, ef⟩ := two_cells B2.out
   have ef1 := ef 1
   by_cases hlt : k < m
   ·obtain ⟨y, hy⟩ : ∃ y : Nat, 2 ^ k = y := ⟨_, rfl⟩
    have HYK := Lib.hid hy
    have HT : Hid (ys.take (k + 1) = ys.take k ++ [y]) := by
     show _ = _
     have h2 : ys[k]? = some y := by rw [← HY.out, onesL_at hlt, hy]
     obtain ⟨hk2, e⟩ := List.getElem?_eq_some_iff.1 h2
     rw [List.take_succ_eq_append_getElem hk2, e]
    have q1 : (wr.alloc (.cells #[.int .u64 (y : Int)] 40)).cell? ⟨w.heap.size + 1, 1, none⟩ = some v := (two_cells (heap_allocd B2.out _)).2.1
    clear hy ef
    go_wp2_with fail
    go_region_law (first | (refine step_append_lies (wr.drew.alloc (.cells #[.int .u64 (y : Int)] 40)) ?_ (.tmp 17) (.tmp 20) 41 ?_ w.heap.size 40 i0 _ 1 8 Tryd.underlying41 hi hz0 hz1 hz2 ?_ ?_ v k (u64s (ys.take k)) ?_ ?_ ⟨wr.heap.size, 0, none⟩ 1 1 [.int .u64 (y : Int)] ?_ ?_ ?_ ?_ ?_ ?_ ?_ ?_ (wr.heap.size + 1) ?_ ?_; rfl; rfl; rfl; omega; rfl; exact (HO.out : (wr.drew).ownsRow _ _ _ _ _ _).alloc _; rfl; rfl; exact (World.news_of_block (cs := #[.int .u64 (y : Int)]) (t := 40) (fr := (0, 0)) (heapV_new wr.drew _)); simp [Value.oneCell']; omega; (unfold maxLen; omega); omega; (have := hb.size; simp; omega); simp; intro gg cp w5 hown1 hgrow hat hlt5; have hB4 : Below w.heap.size w w5 := (hb.drew.alloc hb.size _).grown hgrow (by have := hb.size; simp; omega) (fun j e => (HO.out.lt j e).1); have D1 := Lib.hid (heap_grown (heap_allocd (w := wr.drew) B1.out (.cells #[.int .u64 (y : Int)] 40)) (by decide) ((HO.out : (wr.drew).ownsRow _ _ _ _ _ _).alloc _) hgrow); have D2 := Lib.hid (heap_grown (heap_allocd (w := wr.drew) B2.out (.cells #[.int .u64 (y : Int)] 40)) (by decide) ((HO.out : (wr.drew).ownsRow _ _ _ _ _ _).alloc _) hgrow); obtain ⟨_, d1, df⟩ := two_cells D2.out; have df1 := df 1; clear df) | (go_simp; go_at_call 47; refine (worth_at k k y rfl HYK.out (by omega) _).mono ?_; rintro e w3 ⟨rfl, rfl⟩) | fail)
    all_goals
     have HO5 := Lib.hid (show (w5.setCell ⟨w.heap.size + 1, 1, none⟩ (.slice (some ⟨gg, 0, none⟩) (k + 1) cp)).ownsRow w.heap.size 40 1 (.slice (some ⟨gg, 0, none⟩) (k + 1) cp) (k + 1) (u64s (ys.take (k + 1))) by
      rw [HT.out, u64s_snoc]; exact hown1.kept (grownBy_set w5 _ _ _) (.inr (not_row D2.out (by decide) hown1).symm))
     have N1 := Lib.hid (heap_other (B := w.heap.size + 1) (j := 1) (c := .slice (some ⟨gg, 0, none⟩) (k + 1) cp) D1.out (by omega))
     have N2 := Lib.hid (two_set1 (c := .slice (some ⟨gg, 0, none⟩) (k + 1) cp) D2.out)
     have NB := Lib.hid (hB4.setCell (p := ⟨w.heap.size + 1, 1, none⟩) (by simp) (.slice (some ⟨gg, 0, none⟩) (k + 1) cp))
     clear hown1 hgrow hat d1 df1 q1 e0 e1 ef1
     go_wp2
     go_roundw
     case rel => exact ⟨k + 1, _, by omega, by go_num, N1, N2, HO5, NB.out⟩
     case measure => simp [intOf]; omega
   ·obtain rfl : k = m := by omega
    obtain ⟨r0, r1, rf⟩ := two_cells B1.out
    have rf0 := rf 0; have rf1 := rf 1
    have HO2 : Hid (wr.ownsRow w.heap.size 40 1 v k (u64s ys)) := by
     have := HO.out
     rwa [List.take_of_length_le (by rw [HYL.out]; exact Nat.le_refl _)] at this
    obtain ⟨a3, cap3, hv3⟩ := own_slice HO2.out
    subst hv3
    have N1 := Lib.hid (two_set1 (c := .slice a3 k cap3) (two_set0 (c := .int .u64 0) B1.out))
    obtain ⟨s0, s1, _⟩ := two_cells N1.out
    have HO5 := Lib.hid ((HO2.out.kept (grownBy_set _ _ 0 (.int .u64 0)) (.inr (not_row B1.out (by decide) HO2.out).symm)).kept (grownBy_set _ w.heap.size 1 (.slice a3 k cap3)) (.inr (not_row B1.out (by decide) HO2.out).symm))
    have HB5 := Lib.hid ((hb.setCell (p := ⟨w.heap.size, 0, none⟩) (Nat.le_refl _) (.int .u64 0)).setCell (p := ⟨w.heap.size, 1, none⟩) (Nat.le_refl _) (.slice a3 k cap3))
    clear rf ef
    go_wp2
    refine bodyPost_ret (v := .tuple #[.agg #[.int .u64 0, .slice a3 k cap3], .int .i64 0]) ?_ rfl (fown_own (gen := 0) HO5.out HB5.out 0)
    simp [results, Tryd.results46, go_sem, s0, s1]
end Go.Proofs.YtfkbkekgnoanaaaDoor
namespace Go.Proofs.YtfkbkekgnoanaaaDoor
open Go.RowKit
theorem u64_nat {a : Int} (h : (Lit.int .u64 a).wf = true) : ∃ n : Nat, a = n ∧ n < 18446744073709551616 := by
 simp only [Lit.wf, IntKind.min, IntKind.max, IntKind.signed, IntKind.bits, Bool.and_eq_true, decide_eq_true_eq] at h
 simp at h
 exact ⟨a.toNat, by omega, by omega⟩
end Go.Proofs.YtfkbkekgnoanaaaDoor
namespace Go.Proofs.YtfkbkekgnoanaaaDoor
open Go.RowKit
theorem same_self (g : Nat) (zs : List Nat) : sameB g zs g zs = true := by simp [sameB]
end Go.Proofs.YtfkbkekgnoanaaaDoor
namespace Go.Proofs.YtfkbkekgnoanaaaDoor
open Go.RowKit
theorem mem_iff {s i : Nat} : i ∈ mem s ↔ i < 64 ∧ s.testBit i = true := ⟨fun h => ⟨mem_lt h, mem_bit h⟩, fun h => mem_of_bit h.1 h.2⟩
theorem acc_bit (rows : List Nat) (j : Nat) : ∀ (l : List Nat) (g : Nat), (accF rows g l).testBit j = true ↔ g.testBit j = true ∨ ∃ i ∈ l, (rows.getD i 0).testBit j = true
 | [], g => by simp [accF]
 | x :: l, g => by
  have := acc_bit rows j l (g ||| rows.getD x 0)
  rw [show accF rows g (x :: l) = accF rows (g ||| rows.getD x 0) l from rfl, this, Nat.testBit_or, Bool.or_eq_true]
  simp only [List.mem_cons, exists_eq_or_imp]
  exact or_assoc
theorem made_bit {g s j : Nat} {rows : List Nat} : (madeF g rows s).testBit j = true ↔ g.testBit j = true ∨ ∃ i, (i < 64 ∧ s.testBit i = true) ∧ (rows.getD i 0).testBit j = true := by
 rw [madeF, acc_bit]
 simp only [mem_iff]
theorem bit_ext {a b : Nat} (h : ∀ j, a.testBit j = true ↔ b.testBit j = true) : a = b := by
 apply Nat.eq_of_testBit_eq
 intro j
 rw [Bool.eq_iff_iff]; exact h j
theorem andn_iff {a b j : Nat} (ha : a < 18446744073709551616) (hb : b < 18446744073709551616) : (andn a b).testBit j = true ↔ a.testBit j = true ∧ ¬ b.testBit j = true := by
 rw [andn_bit ha hb]; simp
theorem getD_lt {rows : List Nat} (h : ∀ r ∈ rows, r < 18446744073709551616) (i : Nat) : rows.getD i 0 < 18446744073709551616 := by
 rw [List.getD_eq_getElem?_getD]
 cases hx : rows[i]? with
 | none => simp
 | some y => exact h y (List.mem_of_getElem? hx)
theorem getD_canon {g : Nat} {rows : List Nat} (i : Nat) : (canonL g rows).getD i 0 = andn (rows.getD i 0) g := by
 rw [List.getD_eq_getElem?_getD, List.getD_eq_getElem?_getD, canonL, List.getElem?_map]
 cases rows[i]? <;> simp [andn]
theorem made_canon {g : Nat} {rows : List Nat} (hg : g < 18446744073709551616) (hr : ∀ r ∈ rows, r < 18446744073709551616) (s : Nat) : madeF g (canonL g rows) s = madeF g rows s := by
 apply bit_ext; intro j
 rw [made_bit, made_bit]
 constructor
 ·rintro (h | ⟨i, hi, h⟩)
  ·exact .inl h
  ·rw [getD_canon, andn_iff (getD_lt hr i) hg] at h
   exact .inr ⟨i, hi, h.1⟩
 ·rintro (h | ⟨i, hi, h⟩)
  ·exact .inl h
  ·by_cases hj : g.testBit j = true
   ·exact .inl hj
   ·exact .inr ⟨i, hi, by rw [getD_canon, andn_iff (getD_lt hr i) hg]; exact ⟨h, hj⟩⟩
theorem getD_map {f : Nat → Nat} {xs : List Nat} (i : Nat) : (xs.map f).getD i 0 = if i < xs.length then f (xs.getD i 0) else 0 := by
 rw [List.getD_eq_getElem?_getD, List.getD_eq_getElem?_getD, List.getElem?_map]
 split
 ·rename_i h; rw [List.getElem?_eq_getElem h]; rfl
 ·rename_i h; rw [List.getElem?_eq_none (by omega)]; rfl
theorem made_then {ga gb : Nat} {xs ys : List Nat} (s : Nat) : madeF (madeF gb ys ga) (xs.map (madeF gb ys)) s = madeF gb ys (madeF ga xs s) := by
 apply bit_ext; intro j
 rw [made_bit, made_bit, made_bit]
 simp only [made_bit]
 constructor
 ·rintro ((h | ⟨k, ⟨hk, hk2⟩, h⟩) | ⟨i, hi, h⟩)
  ·exact .inl h
  ·exact .inr ⟨k, ⟨hk, .inl hk2⟩, h⟩
  ·rw [getD_map] at h
   split at h
   ·rw [made_bit] at h
    rcases h with h | ⟨k, ⟨hk, hk2⟩, h⟩
    ·exact .inl h
    ·exact .inr ⟨k, ⟨hk, .inr ⟨i, hi, hk2⟩⟩, h⟩
   ·simp at h
 ·rintro (h | ⟨k, ⟨hk, (hk2 | ⟨i, hi, hk2⟩)⟩, h⟩)
  ·exact .inl (.inl h)
  ·exact .inl (.inr ⟨k, ⟨hk, hk2⟩, h⟩)
  ·refine .inr ⟨i, hi, ?_⟩
   rw [getD_map]
   split
   ·rw [made_bit]; exact .inr ⟨k, ⟨hk, hk2⟩, h⟩
   ·rename_i hn
    rw [List.getD_eq_getElem?_getD, List.getElem?_eq_none (by omega)] at hk2
    simp at hk2
structure Good (m : Nat) (g : Nat) (rows : List Nat) : Prop where
 hm : m ≤ 64
 hl : rows.length = m
 hg : g < 2 ^ m
 hr : ∀ r ∈ rows, r < 2 ^ m
 hc : ∀ r ∈ rows, r &&& g = 0
theorem Good.g64 {m g : Nat} {rows : List Nat} (h : Good m g rows) : g < 18446744073709551616 := Nat.lt_of_lt_of_le h.hg (pow_le64 h.hm)
theorem Good.r64 {m g : Nat} {rows : List Nat} (h : Good m g rows) : ∀ r ∈ rows, r < 18446744073709551616 := fun r hr => Nat.lt_of_lt_of_le (h.hr r hr) (pow_le64 h.hm)
theorem good_check {m g : Nat} {rows : List Nat} (h : Good m g rows) : checkE m g rows = 0 := by
 have hd : dimB m = true := by simp [dimB]; have := h.hm; omega
 have h1 : shapeB m g rows = true := by
  unfold shapeB
  simp only [Bool.and_eq_true, decide_eq_true_eq, List.all_eq_true]
  exact ⟨h.hl, (insN_iff h.hm h.g64).2 h.hg, fun r hr => (insN_iff h.hm (h.r64 r hr)).2 (h.hr r hr)⟩
 have h2 : clearB g rows = true := by
  unfold clearB
  rw [List.all_eq_true]
  intro r hr
  have := h.hc r hr
  simp [this]
 unfold checkE
 rw [if_pos hd, Int.toNat_natCast, h1, h2]; rfl
theorem check_good {n : Int} {g : Nat} {rows : List Nat} (hg : g < 18446744073709551616) (hr : ∀ r ∈ rows, r < 18446744073709551616) (h : checkE n g rows = 0) : ∃ m : Nat, n = m ∧ Good m g rows := by
 obtain ⟨hd, hs, hc⟩ := checkE_ok h
 obtain ⟨m, rfl, hm⟩ := dim_nat hd
 rw [Int.toNat_natCast] at hs
 obtain ⟨hl, ig, ir⟩ := shapeB_len hs
 unfold clearB at hc
 rw [List.all_eq_true] at hc
 exact ⟨m, rfl, hm, hl, (insN_iff hm hg).1 ig, fun r h => (insN_iff hm (hr r h)).1 (ir r h), fun r h => by simpa using hc r h⟩
theorem canon_good {m g : Nat} {rows : List Nat} (hm : m ≤ 64) (hl : rows.length = m) (hg : g < 2 ^ m) (hr : ∀ r ∈ rows, r < 2 ^ m) : Good m g (canonL g rows) where
 hm := hm
 hl := by rw [canonL_length, hl]
 hg := hg
 hr := fun r h => by
  obtain ⟨x, hx, rfl⟩ := List.mem_map.1 h
  exact Nat.lt_of_le_of_lt Nat.and_le_left (hr x hx)
 hc := fun r h => by
  obtain ⟨x, hx, rfl⟩ := List.mem_map.1 h
  have h1 := Nat.lt_of_lt_of_le (hr x hx) (pow_le64 hm)
  have h2 := Nat.lt_of_lt_of_le hg (pow_le64 hm)
  apply Nat.eq_of_testBit_eq
  intro j
  rw [Nat.testBit_and, andn_bit h1 h2, Nat.zero_testBit]
  cases x.testBit j <;> cases g.testBit j <;> rfl
theorem acc_small {m : Nat} {rows : List Nat} (hr : ∀ r ∈ rows, r < 2 ^ m) : ∀ (l : List Nat) (g : Nat), g < 2 ^ m → accF rows g l < 2 ^ m
 | [], g, h => h
 | x :: l, g, h => by
  have : rows.getD x 0 < 2 ^ m := by
   rw [List.getD_eq_getElem?_getD]
   cases hx : rows[x]? with
   | none => exact Nat.two_pow_pos m
   | some y => exact hr y (List.mem_of_getElem? hx)
  exact acc_small hr l _ (Nat.or_lt_two_pow h this)
theorem Good.made {m g : Nat} {rows : List Nat} (h : Good m g rows) (s : Nat) : madeF g rows s < 2 ^ m := acc_small h.hr _ _ h.hg
theorem Good.ext {m ga gb : Nat} {xs ys : List Nat} (ha : Good m ga xs) (hb : Good m gb ys) : Good m (madeF gb ys ga) (canonL (madeF gb ys ga) (xs.map (madeF gb ys))) :=
 canon_good ha.hm (by rw [List.length_map, ha.hl]) (hb.made ga) (fun r hr => by
  obtain ⟨x, _, rfl⟩ := List.mem_map.1 hr
  exact hb.made x)
theorem both_good {m ga gb : Nat} {xs ys : List Nat} (ha : Good m ga xs) (hb : Good m gb ys) : bothE m ga xs gb ys = 0 := by
 rw [bothE, if_pos (good_check ha)]; exact good_check hb
theorem extG_good {m ga gb : Nat} {xs ys : List Nat} (ha : Good m ga xs) (hb : Good m gb ys) : extG m ga xs gb ys = madeF gb ys ga := by rw [extG, if_pos (both_good ha hb)]
theorem extV_good {m ga gb : Nat} {xs ys : List Nat} (ha : Good m ga xs) (hb : Good m gb ys) : extV m ga xs gb ys = canonL (madeF gb ys ga) (xs.map (madeF gb ys)) := by rw [extV, if_pos (both_good ha hb)]
theorem Good.extT {m ga gb : Nat} {xs ys : List Nat} (ha : Good m ga xs) (hb : Good m gb ys) : Good m (extG m ga xs gb ys) (extV m ga xs gb ys) := by rw [extG_good ha hb, extV_good ha hb]; exact ha.ext hb
theorem made_ext {m ga gb : Nat} {xs ys : List Nat} (ha : Good m ga xs) (hb : Good m gb ys) (s : Nat) : madeF (extG m ga xs gb ys) (extV m ga xs gb ys) s = madeF gb ys (madeF ga xs s) := by
 rw [extG_good ha hb, extV_good ha hb, made_canon (madeF_lt hb.r64 hb.g64) (fun r hr => by obtain ⟨x, _, rfl⟩ := List.mem_map.1 hr; exact madeF_lt hb.r64 hb.g64), made_then]
theorem made_zero (g : Nat) (rows : List Nat) : madeF g rows 0 = g := by rw [madeF, mem_zero]; rfl
theorem made_one {m g : Nat} {rows : List Nat} (h : Good m g rows) {i r : Nat} (hi : rows[i]? = some r) : madeF g rows (2 ^ i) = g ||| r := by
 have hil := (List.getElem?_eq_some_iff.1 hi).1
 have hi64 : i < 64 := by have := h.hl; have := h.hm; omega
 apply bit_ext; intro j
 rw [made_bit, Nat.testBit_or, Bool.or_eq_true]
 constructor
 ·rintro (h1 | ⟨k, ⟨hk, h2⟩, h3⟩)
  ·exact .inl h1
  ·rw [Nat.testBit_two_pow] at h2
   have e : i = k := by simpa using h2
   subst e
   rw [List.getD_eq_getElem?_getD, hi] at h3
   exact .inr h3
 ·rintro (h1 | h1)
  ·exact .inl h1
  ·exact .inr ⟨i, ⟨hi64, by rw [Nat.testBit_two_pow]; simp⟩, by rw [List.getD_eq_getElem?_getD, hi]; exact h1⟩
theorem good_ext {m g h : Nat} {xs ys : List Nat} (hx : Good m g xs) (hy : Good m h ys) (e : ∀ s, madeF g xs s = madeF h ys s) : g = h ∧ xs = ys := by
 have e0 := e 0
 rw [made_zero, made_zero] at e0
 subst e0
 refine ⟨rfl, list_eq_of (by rw [hx.hl, hy.hl]) fun i x y hi hj => ?_⟩
 have e1 := e (2 ^ i)
 rw [made_one hx hi, made_one hy hj] at e1
 have c1 := hx.hc x (List.mem_of_getElem? hi)
 have c2 := hy.hc y (List.mem_of_getElem? hj)
 apply Nat.eq_of_testBit_eq
 intro j
 have b1 := congrArg (fun n => n.testBit j) e1
 have b2 := congrArg (fun n => n.testBit j) c1
 have b3 := congrArg (fun n => n.testBit j) c2
 simp only [Nat.testBit_or, Nat.testBit_and, Nat.zero_testBit] at b1 b2 b3
 cases h1 : x.testBit j <;> cases h2 : y.testBit j <;> cases h3 : g.testBit j <;> simp_all
end Go.Proofs.YtfkbkekgnoanaaaDoor
namespace Go.Proofs.YtfkbkekgnoanaaaDoor
open Go.RowKit
theorem ones_bit {m i j : Nat} : ((onesL m).getD i 0).testBit j = true ↔ i < m ∧ i = j := by
 rw [List.getD_eq_getElem?_getD]
 rcases Nat.lt_or_ge i m with h | h
 ·rw [onesL_at h]
  simp only [Option.getD_some, Nat.testBit_two_pow, decide_eq_true_eq]
  exact ⟨fun e => ⟨h, e⟩, fun e => e.2⟩
 ·rw [List.getElem?_eq_none (by rw [onesL_length]; exact h)]
  simp only [Option.getD_none, Nat.zero_testBit]
  exact ⟨fun e => (Bool.false_ne_true e).elim, fun e => (by omega)⟩
theorem made_ones {m s : Nat} (hm : m ≤ 64) (hs : s < 2 ^ m) : madeF 0 (onesL m) s = s := by
 apply bit_ext; intro j
 rw [made_bit]
 simp only [ones_bit, Nat.zero_testBit]
 constructor
 ·rintro (h | ⟨i, ⟨_, h2⟩, _, rfl⟩)
  ·cases h
  ·exact h2
 ·intro h
  have hj : j < m := by
   rcases Nat.lt_or_ge j m with h1 | h1
   ·exact h1
   ·rw [Nat.testBit_lt_two_pow (Nat.lt_of_lt_of_le hs (Nat.pow_le_pow_right (by omega) h1))] at h; cases h
  exact .inr ⟨j, ⟨by omega, h⟩, hj, rfl⟩
theorem ones_good {m : Nat} (hm : m ≤ 64) : Good m 0 (onesL m) where
 hm := hm
 hl := onesL_length m
 hg := Nat.two_pow_pos m
 hr := fun r hr => by
  obtain ⟨i, hi, rfl⟩ := List.mem_map.1 hr
  exact Nat.pow_lt_pow_right (by omega) (List.mem_range.1 hi)
 hc := fun r _ => Nat.and_zero r
theorem one_good {m : Nat} (hm : m ≤ 64) : oneE m = 0 ∧ oneV m = onesL m := by
 have hd : dimB m = true := by simp [dimB]; omega
 exact ⟨by rw [oneE, if_pos hd], by rw [oneV, if_pos hd, Int.toNat_natCast]⟩
section
variable {m ga gb gc : Nat} {xs ys zs : List Nat}
theorem ring_then (a : Good m ga xs) (b : Good m gb ys) (c : Good m gc zs) : extG m (extG m ga xs gb ys) (extV m ga xs gb ys) gc zs = extG m ga xs (extG m gb ys gc zs) (extV m gb ys gc zs) ∧ extV m (extG m ga xs gb ys) (extV m ga xs gb ys) gc zs = extV m ga xs (extG m gb ys gc zs) (extV m gb ys gc zs) :=
 good_ext ((a.extT b).extT c) (a.extT (b.extT c)) fun s => by rw [made_ext (a.extT b) c, made_ext a (b.extT c), made_ext a b, made_ext b c]
theorem mem_cut {m s : Nat} (hm : m ≤ 64) (g : Nat) (rows : List Nat) (hl : rows.length = m) : madeF g rows s = madeF g rows (s % 2 ^ m) := by
 apply bit_ext; intro j
 rw [made_bit, made_bit]
 constructor
 ·rintro (h | ⟨i, ⟨hi, h2⟩, h3⟩)
  ·exact .inl h
  ·have him : i < m := by
    rcases Nat.lt_or_ge i m with h1 | h1
    ·exact h1
    ·rw [List.getD_eq_getElem?_getD, List.getElem?_eq_none (by omega)] at h3; simp at h3
   exact .inr ⟨i, ⟨hi, by rw [Nat.testBit_mod_two_pow]; simp [him, h2]⟩, h3⟩
 ·rintro (h | ⟨i, ⟨hi, h2⟩, h3⟩)
  ·exact .inl h
  ·rw [Nat.testBit_mod_two_pow, Bool.and_eq_true] at h2
   exact .inr ⟨i, ⟨hi, h2.2⟩, h3⟩
theorem ring_oneL (a : Good m ga xs) : extG m 0 (onesL m) ga xs = ga ∧ extV m 0 (onesL m) ga xs = xs :=
 good_ext ((ones_good a.hm).extT a) a fun s => by
  rw [made_ext (ones_good a.hm) a, mem_cut a.hm 0 (onesL m) (onesL_length m), made_ones a.hm (Nat.mod_lt _ (Nat.two_pow_pos m)), ← mem_cut a.hm ga xs a.hl]
theorem ring_oneR (a : Good m ga xs) : extG m ga xs 0 (onesL m) = ga ∧ extV m ga xs 0 (onesL m) = xs :=
 good_ext (a.extT (ones_good a.hm)) a fun s => by rw [made_ext a (ones_good a.hm), made_ones a.hm (a.made s)]
end
end Go.Proofs.YtfkbkekgnoanaaaDoor
namespace Go.Proofs.YtfkbkekgnoanaaaDoor
open Go.RowKit
def vals (c : Cl) : List Value := [.int .u64 (c.f : Int), .int .i64 c.k, .int .i64 c.v]
def flat (cs : List Cl) : List Value := cs.flatMap vals
theorem flat_length (cs : List Cl) : (flat cs).length = cs.length * 3 := by
 induction cs with
 | nil => rfl
 | cons c r ih => simp [flat, vals] at ih ⊢; omega
theorem flat_cons (c : Cl) (r : List Cl) : flat (c :: r) = vals c ++ flat r := by simp [flat]
theorem flat_snoc (cs : List Cl) (c : Cl) : flat (cs ++ [c]) = flat cs ++ vals c := by simp [flat]
theorem flat_at : ∀ {cs : List Cl} {i : Nat} {c : Cl}, cs[i]? = some c → (flat cs)[i * 3]? = some (.int .u64 (c.f : Int)) ∧ (flat cs)[i * 3 + 1]? = some (.int .i64 c.k) ∧ (flat cs)[i * 3 + 2]? = some (.int .i64 c.v)
 | [], i, c, h => by simp at h
 | x :: r, 0, c, h => by
  simp at h; subst h
  simp [flat_cons, vals]
 | x :: r, i + 1, c, h => by
  simp at h
  have ih := flat_at (cs := r) (i := i) h
  have e0 : (i + 1) * 3 = i * 3 + 3 := by omega
  have e1 : (i + 1) * 3 + 1 = (i * 3 + 1) + 3 := by omega
  have e2 : (i + 1) * 3 + 2 = (i * 3 + 2) + 3 := by omega
  rw [e1, e2, e0, flat_cons]
  simp only [vals, List.cons_append, List.nil_append, List.getElem?_cons_succ]
  exact ih
theorem flat_set : ∀ (cs : List Cl) (i : Nat) (c : Cl), i < cs.length → (((flat cs).set (i * 3) (.int .u64 (c.f : Int))).set (i * 3 + 1) (.int .i64 c.k)).set (i * 3 + 2) (.int .i64 c.v) = flat (cs.set i c)
 | [], i, c, h => by simp at h
 | x :: r, 0, c, h => by simp [flat_cons, vals]
 | x :: r, i + 1, c, h => by
  have ih := flat_set r i c (by simpa using h)
  have e0 : (i + 1) * 3 = i * 3 + 3 := by omega
  have e1 : (i + 1) * 3 + 1 = (i * 3 + 1) + 3 := by omega
  have e2 : (i + 1) * 3 + 2 = (i * 3 + 2) + 3 := by omega
  rw [e1, e2, e0, flat_cons, List.set_cons_succ, flat_cons, ← ih]
  simp [vals]
theorem own_below {w w' : World} {base size n : Nat} {E : Nat} {v : Value} {xs : List Value} (h : w.ownsRow base E size v n xs) (hb : Below w.heap.size w w') : w'.ownsRow base E size v n xs := by
 refine ⟨h.1, ?_⟩
 rcases h.2 with h2 | ⟨g, cap, cur, hv, hg, hh, r⟩
 ·exact .inl h2
 ·exact .inr ⟨g, cap, cur, hv, hg, by rw [hb.block g (Array.getElem?_eq_some_iff.1 hh).1]; exact hh, r⟩
theorem crow_of_own {w : World} {base : Nat} {E : Nat} {v : Value} {n : Nat} {cs : List Cl} (h : w.ownsRow base E 3 v n (flat cs)) :
  n = cs.length ∧ ∃ a cap, v = .slice a n cap ∧ CRow w a cs ∧ ∀ ad, a = some ad → base ≤ ad.block ∧ ad.off = 0 ∧ ad.block < w.heap.size := by
 have hl := h.1
 rw [flat_length] at hl
 have hn : n = cs.length := by omega
 refine ⟨hn, ?_⟩
 rcases h.2 with ⟨rfl, h0⟩ | ⟨g, cap, cur, rfl, hg, hh, hnc, hcm, hcs, ht⟩
 ·subst h0
  have : cs = [] := List.length_eq_zero_iff.1 hn.symm
  exact ⟨none, 0, rfl, .inl this, fun ad e => by cases e⟩
 ·refine ⟨some ⟨g, 0, none⟩, cap, rfl, .inr ⟨g, 0, rfl, fun i c hi => ?_⟩, fun ad e => by cases e; exact ⟨hg, rfl, (Array.getElem?_eq_some_iff.1 hh).1⟩⟩
  obtain ⟨f0, f1, f2⟩ := flat_at hi
  have hi2 : i < cs.length := (List.getElem?_eq_some_iff.1 hi).1
  have c0 := h.cellAt (i * 3) (by omega)
  have c1 := h.cellAt (i * 3 + 1) (by omega)
  have c2 := h.cellAt (i * 3 + 2) (by omega)
  rw [Nat.zero_add]
  exact ⟨c0.trans f0, c1.trans f1, c2.trans f2⟩
def CellsRet (cs : List Cl) (err : Int) (w : World) (e : Ending) (w' : World) : Prop :=
 ∃ a cap, e = .returned (.tuple #[.slice a cs.length cap, .int .i64 err]) ∧ CRow w' a cs ∧ (∀ ad, a = some ad → w.heap.size ≤ ad.block ∧ ad.block < w'.heap.size) ∧ Below w.heap.size w w'
theorem cellsRet_nil (err : Int) {w w' : World} (hb : Below w.heap.size w w') : CellsRet [] err w (.returned (.tuple #[.slice none 0 0, .int .i64 err])) w' :=
 ⟨none, 0, rfl, .inl rfl, (fun ad e => by cases e), hb⟩
theorem cellsRet_own {cs : List Cl} {w w' : World} {E : Nat} {v : Value} {n : Nat} (h : w'.ownsRow w.heap.size E 3 v n (flat cs)) (hb : Below w.heap.size w w') (err : Int) : CellsRet cs err w (.returned (.tuple #[v, .int .i64 err])) w' := by
 obtain ⟨rfl, a, cap, rfl, hr, hf⟩ := crow_of_own h
 exact ⟨a, cap, rfl, hr, fun ad e => ⟨(hf ad e).1, (hf ad e).2.2⟩, hb⟩
def CellsRet1 (cs : List Cl) (w : World) (e : Ending) (w' : World) : Prop :=
 ∃ v, e = .returned v ∧ w'.ownsRow w.heap.size 89 3 v cs.length (flat cs) ∧ Below w.heap.size w w'
theorem infoC : (Tryd.prog.info? 89).map (fun i => (i.zero, i.size, i.bytes)) = some (some (.agg #[.int .u64 0, .int .i64 0, .int .i64 0]), 3, 24) := by kernel_rfl
end Go.Proofs.YtfkbkekgnoanaaaDoor
namespace Go.Proofs.YtfkbkekgnoanaaaDoor
open Go.RowKit
def bothC (xs ys : List Cl) : List Cl := List.zipWith join xs ys
theorem okAt_ok {n : Nat} {c : Cl} (hf : c.f < 18446744073709551616) (h : okAt n c = true) : c.ok := by
 unfold okAt cellOk at h
 simp only [Bool.and_eq_true] at h
 exact ⟨hf, h.2⟩
theorem chkC_zero {d : Int} {cs : List Cl} (h : chkC d cs = 0) : 0 ≤ d ∧ d ≤ 64 ∧ (cs.length : Int) = d ∧ cs.all (okAt d.toNat) = true := by
 unfold chkC at h
 split at h
 ·omega
 ·split at h
  ·omega
  ·cases hz : cs.all (okAt d.toNat) <;> rw [hz] at h <;> simp at h
   exact ⟨by omega, by omega, by omega, rfl⟩
theorem chk2C_zero {d : Int} {xs ys : List Cl} (h : chk2C d xs ys = 0) : chkC d xs = 0 ∧ chkC d ys = 0 := by
 unfold chk2C at h
 split at h
 ·exact ⟨by assumption, h⟩
 ·exact absurd h (by assumption)
theorem ok_get {n : Nat} {cs : List Cl} (hb : Bits cs) (h : cs.all (okAt n) = true) {i : Nat} {c : Cl} (hi : cs[i]? = some c) : c.ok := by
 rw [List.all_eq_true] at h
 exact okAt_ok (hb c (List.mem_of_getElem? hi)) (h c (List.mem_of_getElem? hi))
theorem joined_is (x y z : Cl) (hx : x.ok) (hy : y.ok) (hz : join x y = z) (w : World) : Calls Tryd.prog 111 #[x.val, y.val] w fun e w' => e = .returned z.val ∧ Below w.heap.size w w' := by
 subst hz; exact joined_any x y hx hy w
end Go.Proofs.YtfkbkekgnoanaaaDoor
namespace Go.Proofs.YtfkbkekgnoanaaaDoor
open Go.RowKit
theorem flat_cells {w : World} {b off : Nat} {cs : List Cl} (h : ∀ i c, cs[i]? = some c → w.cell? ⟨b, off + i * 3, none⟩ = some (.int .u64 (c.f : Int)) ∧ w.cell? ⟨b, off + i * 3 + 1, none⟩ = some (.int .i64 c.k) ∧ w.cell? ⟨b, off + i * 3 + 2, none⟩ = some (.int .i64 c.v)) :
  ∀ j u, (flat cs)[j]? = some u → w.cell? ((⟨b, off, none⟩ : Addr).add j) = some u := by
 intro j u hj
 have hlt : j < cs.length * 3 := by rw [← flat_length]; exact (List.getElem?_eq_some_iff.1 hj).1
 obtain ⟨i, r, hr, rfl⟩ : ∃ i r, r < 3 ∧ j = i * 3 + r := ⟨j / 3, j % 3, by omega, by omega⟩
 have hi : i < cs.length := by omega
 obtain ⟨h0, h1, h2⟩ := h i cs[i] (List.getElem?_eq_getElem hi)
 obtain ⟨f0, f1, f2⟩ := flat_at (List.getElem?_eq_getElem hi)
 have e : ((⟨b, off, none⟩ : Addr).add (i * 3 + r)) = ⟨b, off + (i * 3 + r), none⟩ := by
  simp only [Addr.add]; split <;> simp_all
 rw [e]
 match r, hr with
 | 0, _ => rw [Nat.add_zero] at hj ⊢; rw [f0] at hj; rw [h0]; exact hj
 | 1, _ => rw [f1] at hj; rw [← Nat.add_assoc, h1]; exact hj
 | 2, _ => rw [f2] at hj; rw [← Nat.add_assoc, h2]; exact hj
theorem crow_news {w : World} {ad : Addr} {cs : List Cl} (h : CRow w (some ad) cs) : ∀ j u, (flat cs)[j]? = some u → w.cell? (ad.add j) = some u := by
 rcases h with h | ⟨b, off, e, hc⟩
 ·subst h; intro j u hj; simp [flat] at hj
 ·cases e; exact flat_cells hc
theorem flat_one (cs : List Cl) : ∀ u ∈ flat cs, u.oneCell' = true := by
 intro u hu
 simp only [flat, List.mem_flatMap, vals] at hu
 obtain ⟨c, _, hu⟩ := hu
 simp at hu
 rcases hu with rfl | rfl | rfl <;> rfl
set_option maxHeartbeats 1000000 in
theorem clone_any (a : Option Addr) (cap : Nat) (cs : List Cl) (w : World) (hm : cs.length ≤ 64) (hrow : CRow w a cs) :
  Calls Tryd.prog 80 #[.slice a cs.length cap] w (CellsRet1 cs w) := by
 obtain ⟨i0, hi, hz0, hz1, hz2⟩ := info_parts infoC
 have q22 : ∀ (w : World) (a : Option Addr) (n c n' c' : Nat), (binOp .eql 44 (.slice a n c) (.slice none n' c')).run Tryd.prog w = .ok (.bool a.isNone) w := fun w a n c n' c' => Lib.run_eql_slice_nil w _ _ a n c n' c' Tryd.underlying44
 cases a with
 | none =>
  have hcs : cs = [] := by
   rcases hrow with h | ⟨b, off, e, _⟩
   ·exact h
   ·cases e
  subst hcs
  clear hrow
  go_enter Tryd.func80, Tryd.ntmps80
  go_wp2
  go_ret
  exact ⟨_, rfl, World.ownsRow_nil _ _ _ _, Below.refl _ _⟩
 | some ad =>
  have HN := Lib.hid (fun (o : Obj) => crow_news (hrow.below ((Below.refl _ w).alloc (Nat.le_refl _) o)))
  have hown : (w.alloc (.cells #[] 89)).ownsRow w.heap.size 89 3 (.slice (some ⟨w.heap.size, 0, none⟩) 0 0) 0 [] := World.ownsRow_lit w #[] 0 (Nat.le_refl _) (by simp) rfl
  have HO := Lib.hid hown
  clear hrow hown
  go_enter Tryd.func80, Tryd.ntmps80
  go_wp2_with (at_builtin; refine wpList_append_own _ rfl (.tmp 5) (.tmp 6) 44 rfl w.heap.size 89 i0 _ 3 24 Tryd.underlying44 hi hz0 hz1 hz2 rfl (by decide) _ _ _ rfl HO.out ad cs.length cap (flat cs) rfl (flat_length cs) (HN.out _) (flat_one cs) (by unfold maxLen; omega) (by omega) (by simp) ?_; intro v' w2 hown2 hgrow hnil)
  go_ret
  refine ⟨v', rfl, by simpa using hown2, ?_⟩
  exact ((Below.refl _ _).alloc (Nat.le_refl _) _).grown hgrow (by simp) (fun j e => by cases e; exact Nat.le_refl _)
theorem own_store3 {w : World} {base g n cap k : Nat} {E : Nat} {cs : List Cl} (h : w.ownsRow base E 3 (.slice (some ⟨g, 0, none⟩) n cap) n (flat cs)) (hk : k < cs.length) (z : Cl) :
  (((w.setCell ⟨g, k * 3, none⟩ (.int .u64 (z.f : Int))).setCell ⟨g, k * 3 + 1, none⟩ (.int .i64 z.k)).setCell ⟨g, k * 3 + 2, none⟩ (.int .i64 z.v)).ownsRow base E 3 (.slice (some ⟨g, 0, none⟩) n cap) n (flat (cs.set k z)) := by
 rw [← flat_set cs k z hk]
 exact ((((h.stored (k * 3) _).1.stored (k * 3 + 1) _).1.stored (k * 3 + 2) _).1)
end Go.Proofs.YtfkbkekgnoanaaaDoor
namespace Go.Proofs.YtfkbkekgnoanaaaDoor
open Go.RowKit
def sameCl (x y : Cl) : Bool := decide (x.f = y.f) && decide (x.k = y.k) && decide (x.v = y.v)
end Go.Proofs.YtfkbkekgnoanaaaDoor
namespace Go.Proofs.YtfkbkekgnoanaaaDoor
open Go.RowKit
theorem run_neq_cell (f f2 : Nat) (k k2 v v2 : Int) (w : World) :
  (binOp .neq 89 (.agg #[.int .u64 (f : Int), .int .i64 k, .int .i64 v]) (.agg #[.int .u64 (f2 : Int), .int .i64 k2, .int .i64 v2])).run Tryd.prog w = .ok (.bool (!sameCl ⟨f, k, v⟩ ⟨f2, k2, v2⟩)) w := by
 by_cases h1 : f = f2
 ·subst h1
  by_cases h2 : k = k2
  ·subst h2
   by_cases h3 : v = v2
   ·subst h3
    simp [sameCl, go_sem]
   ·have h3' : (v == v2) = false := by simp [h3]
    simp [sameCl, go_sem, h3]
  ·simp [sameCl, go_sem, h2]
 ·simp [sameCl, go_sem, h1]
  intro h; omega
theorem neq_is (x y : Cl) (s : Bool) (h : sameCl x y = s) (w : World) : (binOp .neq 89 x.val y.val).run Tryd.prog w = .ok (.bool (!s)) w := by
 subst h; exact run_neq_cell _ _ _ _ _ _ w
end Go.Proofs.YtfkbkekgnoanaaaDoor
namespace Go.Proofs.YtfkbkekgnoanaaaDoor
open Go.RowKit
def ofStep (row : List Cl) (c : Cl) (out : Cl) (i : Nat) : Cl := if c.f.testBit i then (match row[i]? with | some a => join out a | none => out) else out
def ofTo (row : List Cl) (c : Cl) (n : Nat) : Cl := (List.range n).foldl (ofStep row c) ⟨0, c.k, c.v⟩
def ofC (row : List Cl) (c : Cl) : Cl := ofTo row c row.length
theorem ofTo_succ (row : List Cl) (c : Cl) (n : Nat) : ofTo row c (n + 1) = ofStep row c (ofTo row c n) n := by
 simp [ofTo, List.range_succ]
theorem ofTo_yes {row : List Cl} {c x : Cl} {n : Nat} (hb : c.f.testBit n = true) (hx : row[n]? = some x) : ofTo row c (n + 1) = join (ofTo row c n) x := by
 rw [ofTo_succ, ofStep, if_pos hb, hx]
theorem ofTo_no {row : List Cl} {c : Cl} {n : Nat} (hb : c.f.testBit n = false) : ofTo row c (n + 1) = ofTo row c n := by
 rw [ofTo_succ, ofStep, if_neg (by rw [hb]; simp)]
theorem ofTo_skip {row : List Cl} {c : Cl} {k : Nat} : ∀ {n : Nat}, k ≤ n → (∀ i, k ≤ i → i < n → c.f.testBit i = false) → ofTo row c n = ofTo row c k
 | 0, h, _ => by
  obtain rfl : k = 0 := by omega
  rfl
 | n + 1, h, hb => by
  by_cases e : k = n + 1
  ·subst e; rfl
  ·rw [ofTo_no (hb n (by omega) (by omega))]
   exact ofTo_skip (by omega) (fun i h1 h2 => hb i h1 (by omega))
theorem kindOk_zero {f : Nat} {k v : Int} (h : kindOk f k v = true) : kindOk 0 k v = true := by
 unfold kindOk at *
 split
 ·rw [if_pos (by assumption)] at h; exact h
 ·rw [if_neg (by assumption)] at h
  split
  ·rfl
  ·rw [if_neg (by assumption)] at h
   split
   ·rw [if_pos (by assumption)] at h; simp at h ⊢; exact h.1
   ·rw [if_neg (by assumption)] at h; cases h
theorem join_ok {a b : Cl} (ha : a.ok) (hb : b.ok) : (join a b).ok := by
 obtain ⟨f, k, v⟩ := a
 obtain ⟨f2, k2, v2⟩ := b
 obtain ⟨hf, hk⟩ := ha
 obtain ⟨hf2, hk2⟩ := hb
 simp only at hf hk hf2 hk2
 have hor : f ||| f2 < 18446744073709551616 := Nat.or_lt_two_pow (n := 64) hf hf2
 refine ⟨?_, ?_⟩
 ·show (if joinK k v k2 v2 = 2 then 0 else f ||| f2) < _
  split <;> omega
 ·show kindOk (if joinK k v k2 v2 = 2 then 0 else f ||| f2) (joinK k v k2 v2) (joinV k v k2 v2) = true
  rcases kind_cases hk with ⟨rfl, rfl⟩ | rfl | ⟨rfl, rfl⟩ <;> rcases kind_cases hk2 with ⟨rfl, rfl⟩ | rfl | ⟨rfl, rfl⟩
  all_goals (try (simp [joinK, joinV, kindOk]; done))
  by_cases hv : v = v2 <;> simp [joinK, joinV, kindOk, hv]
theorem ofTo_ok {row : List Cl} {c : Cl} (hc : c.ok) (hr : ∀ (i : Nat) x, row[i]? = some x → x.ok) : ∀ n, (ofTo row c n).ok
 | 0 => ⟨by simp [ofTo], kindOk_zero hc.2⟩
 | n + 1 => by
  rw [ofTo_succ, ofStep]
  split
  ·split
   ·rename_i a h; exact join_ok (ofTo_ok hc hr n) (hr n a h)
   ·exact ofTo_ok hc hr n
  ·exact ofTo_ok hc hr n
theorem three_cells {w : World} {B : Nat} {a b c : Value} {T : Nat} (h : w.heap[B]? = some (.cells #[a, b, c] T (0, 0))) :
  w.cell? ⟨B, 0, none⟩ = some a ∧ w.cell? ⟨B, 1, none⟩ = some b ∧ w.cell? ⟨B, 2, none⟩ = some c ∧ (∀ j, w.frozen? ⟨B, j, none⟩ = false) := by
 refine ⟨by simp [World.cell?, h], by simp [World.cell?, h], by simp [World.cell?, h], fun j => by simp [World.frozen?, h]⟩
theorem three_set {w : World} {B : Nat} {a b c a' b' c' : Value} {T : Nat} (h : w.heap[B]? = some (.cells #[a, b, c] T (0, 0))) :
  (((w.setCell ⟨B, 0, none⟩ a').setCell ⟨B, 1, none⟩ b').setCell ⟨B, 2, none⟩ c').heap[B]? = some (.cells #[a', b', c'] T (0, 0)) := by
 simp [World.setCell, Array.getElem?_modify, h]
theorem three_other {w : World} {B D : Nat} {o : Option Obj} {a' b' c' : Value} (hne : D ≠ B) (h : w.heap[D]? = o) :
  (((w.setCell ⟨B, 0, none⟩ a').setCell ⟨B, 1, none⟩ b').setCell ⟨B, 2, none⟩ c').heap[D]? = o := by
 rw [Below.heap_setCell _ _ _ _ hne, Below.heap_setCell _ _ _ _ hne, Below.heap_setCell _ _ _ _ hne, h]
theorem block_lt {w : World} {B : Nat} {o : Obj} (h : w.heap[B]? = some o) : B < w.heap.size := (Array.getElem?_eq_some_iff.1 h).1
theorem block_stays {w w' : World} {B : Nat} {o : Obj} (h : w.heap[B]? = some o) (hb : Below w.heap.size w w') : w'.heap[B]? = some o := (hb.block B (block_lt h)).trans h
end Go.Proofs.YtfkbkekgnoanaaaDoor
namespace Go.Proofs.YtfkbkekgnoanaaaDoor
open Go.RowKit
theorem and_cast (a b : Nat) (ha : a < 18446744073709551616) (hb : b < 18446744073709551616) : bits .and .u64 (a : Int) (b : Int) = ((a &&& b : Nat) : Int) := bits_and_u64_nat a b ha hb
set_option maxHeartbeats 2000000 in
theorem ofRow_any (a : Option Addr) (cap : Nat) (row : List Cl) (c : Cl) (w : World) (ht : Tabs w) (hm : row.length ≤ 64) (hra : CRow w a row) (hok : ∀ (i : Nat) x, row[i]? = some x → x.ok) (hc : c.ok) (hin : ∀ i, c.f.testBit i = true → i < row.length) (z : Cl) (hz : ofC row c = z) :
  Calls Tryd.prog 101 #[c.val, .slice a row.length cap] w fun e w' => e = .returned z.val ∧ Below w.heap.size w w' := by
 have HT := Lib.hid ht
 have HRA := Lib.hid hra; have HOK := Lib.hid hok; have HC := Lib.hid hc; have HZ := Lib.hid hz; have HIN := Lib.hid hin
 have hf := hc.1
 clear hra hok hc hz ht hin
 go_enter Tryd.func101, Tryd.ntmps101
 go_wp2_with fail
 refine (value_any _ _ _ _).mono ?_
 rintro e w1 ⟨rfl, rfl⟩
 go_wp2_with fail
 go_loopw [6] (fun i wr => ∃ (k x : Nat) (o : Cl), k ≤ row.length ∧ x < 18446744073709551616 ∧ i = .int .u64 x ∧ Hid (∀ i, x.testBit i = (c.f.testBit i && decide (k ≤ i))) ∧ Hid (ofTo row c k = o) ∧ Hid (wr.heap[w.heap.size + 1]? = some (.cells #[.int .u64 0, .int .i64 0, .int .i64 0] 89 (0, 0))) ∧ Hid (wr.heap[w.heap.size + 1 + 1 + 1 + 1]? = some (.cells #[.int .u64 (o.f : Int), .int .i64 o.k, .int .i64 o.v] 89 (0, 0))) ∧ Below w.heap.size w wr) (fun i _ => (intOf i).toNat)
 case atStart =>
  refine ⟨0, c.f, ⟨0, c.k, c.v⟩, Nat.zero_le _, hf, rfl, (fun i => by simp), rfl, ?_, ?_, ((((((Below.refl _ _).alloc (Nat.le_refl _) _).alloc (by simp) _).alloc (by simp; omega) _).alloc (by simp; omega) _).alloc (by simp; omega) _)⟩
  ·show _ = _
   rw [heap_alloc_old _ _ (by simp), heap_alloc_old _ _ (by simp), heap_alloc_old _ _ (by simp), show w.heap.size + 1 = (w.alloc (.cells #[.int .u64 (c.f : Int), .int .i64 c.k, .int .i64 c.v] 89)).heap.size by simp, heap_alloc_new]
  ·show _ = _
   rw [show w.heap.size + 1 + 1 + 1 + 1 = ((((w.alloc (.cells #[.int .u64 (c.f : Int), .int .i64 c.k, .int .i64 c.v] 89)).alloc (.cells #[.int .u64 0, .int .i64 0, .int .i64 0] 89)).alloc (.cells #[.int .u64 0, .int .i64 c.k, .int .i64 c.v] 89)).alloc (.cells #[.int .u64 0, .int .i64 c.k, .int .i64 c.v] 89)).heap.size by simp, heap_alloc_new]
   rfl
 case round =>
  obtain ⟨k, x, o, hk, hx64, rfl, HX, HO, B1, B2, hb⟩ := hrel
  obtain ⟨o0, o1, o2, of⟩ := three_cells B2.out
  have o4 := of 0; have o5 := of 1; have o6 := of 2
  clear of
  by_cases hx0 : x = 0
  ·have hall : ∀ i, k ≤ i → i < row.length → c.f.testBit i = false := fun i h1 _ => by
    have := HX.out i
    rw [hx0, Nat.zero_testBit] at this
    simp [h1] at this
    exact this
   have HE : Hid (o = z) := by show o = z; rw [← HO.out, ← HZ.out]; exact (ofTo_skip hk hall).symm
   have hx00 : (x : Int) = 0 := by omega
   subst hx0
   obtain ⟨d0, d1, d2, df⟩ := three_cells B1.out
   have d4 := df 0; have d5 := df 1; have d6 := df 2
   clear df hx00 hall
   go_wp2
   refine bodyPost_ret (v := .agg #[.int .u64 (o.f : Int), .int .i64 o.k, .int .i64 o.v]) ?_ rfl ⟨by rw [HE.out], ?_⟩
   ·simp [results, Tryd.results101, go_sem, d0, d1, d2]
   ·exact (((hb.setCell (p := ⟨w.heap.size + 1, 0, none⟩) (by simp) _).setCell (p := ⟨w.heap.size + 1, 1, none⟩) (by simp) _).setCell (p := ⟨w.heap.size + 1, 2, none⟩) (by simp) _)
  ·obtain ⟨j, hj⟩ : ∃ j, Lib.ctz 64 x = j := ⟨_, rfl⟩
   have hbx : x.testBit j = true := by rw [← hj]; exact low_bit hx0 hx64
   have hbc : c.f.testBit j = true ∧ k ≤ j := by
    have := HX.out j
    rw [hbx] at this
    simpa using this.symm
   have hjr : j < row.length := HIN.out j hbc.1
   have hskip : ofTo row c j = o := by
    rw [ofTo_skip hbc.2 (fun i h1 h2 => ?_)]
    ·exact HO.out
    ·have h3 := HX.out i
     rw [low_none hx0 hx64 (by omega)] at h3
     simp [h1] at h3
     exact h3
   obtain ⟨ba, offa, y, rfl, hy, hba, a0, a1, a2⟩ := (HRA.out.below hb).at_ hjr
   obtain ⟨t, htt⟩ : ∃ t, join o y = t := ⟨_, rfl⟩
   have HN : Hid (ofTo row c (j + 1) = t) := (ofTo_yes hbc.1 hy).trans (by rw [hskip, htt])
   have OO : Hid o.ok := by rw [← HO.out]; exact ofTo_ok HC.out HOK.out k
   have OY := Lib.hid (HOK.out j y hy)
   have HTT := Lib.hid htt
   have HJ := Lib.hid hj
   have HX2 : Hid (∀ i, (x &&& (x - 1)).testBit i = (c.f.testBit i && decide (j + 1 ≤ i))) := by
    intro i
    rw [clear_low hx0 hx64, hj]
    by_cases h1 : i < j
    ·rw [low_none hx0 hx64 (by omega)]
     have e9 : ¬ (j + 1 ≤ i) := by omega
     simp [e9]
    ·rw [HX.out i]
     by_cases h2 : i = j
     ·subst h2; simp
     ·have e1 : k ≤ i := by omega
      have e2 : j + 1 ≤ i := by omega
      simp [e1, e2, h2]
   have hlt2 : x &&& (x - 1) < x := clear_lt hx0
   have hxp : (1 : Int) ≤ (x : Int) := by omega
   have hand : bits .and .u64 (x : Int) ((x : Int) - 1) = ((x &&& (x - 1) : Nat) : Int) := by
    rw [← and_cast x (x - 1) hx64 (by omega)]
    congr 1
    omega
   obtain ⟨x', hx'⟩ : ∃ x', x' = x &&& (x - 1) := ⟨_, rfl⟩
   rw [← hx'] at HX2 hlt2 hand
   have hne : ((x : Int) != 0) = true := by simp; omega
   have hx9 : (x : Int) ≤ 18446744073709551615 := by omega
   have g0 : (0 : Int) ≤ (j : Int) := by omega
   have g3 : (j : Int) < (row.length : Int) := by omega
   have HX' := Lib.hid hx'
   have HNE := Lib.hid hx0
   have HBC := Lib.hid hbc
   clear hbx hbc hskip hy htt hj hx' hx0
   go_wp2_with fail
   go_region_with (first | (go_at_call 112; refine (ctz_calls x HNE.out hx64 _ (HT.out.below (by repeat (first | exact hb | refine Below.drew ?_)))).mono ?_; rintro e w4 ⟨rfl, rfl⟩; rw [HJ.out]) | (go_at_call 111; refine (joined_is o y t OO.out OY.out HTT.out _).mono ?_; rintro e w3 ⟨rfl, hb3⟩; have hB3 : Below wr.heap.size wr w3 := Below.trans (by repeat (first | exact Below.refl _ _ | refine Below.drew ?_)) hb3; have D1 := Lib.hid (block_stays B1.out hB3); have D2 := Lib.hid (block_stays B2.out hB3); obtain ⟨e0, e1, e2, ef⟩ := three_cells D2.out; have e4 := ef 0; have e5 := ef 1; have e6 := ef 2; clear ef))
   all_goals
    have N2 := Lib.hid (three_set (a' := .int .u64 (t.f : Int)) (b' := .int .i64 t.k) (c' := .int .i64 t.v) D2.out)
    have N1 := Lib.hid (three_other (B := w.heap.size + 1 + 1 + 1 + 1) (a' := .int .u64 (t.f : Int)) (b' := .int .i64 t.k) (c' := .int .i64 t.v) (by omega) D1.out)
    have NB := Lib.hid ((((hb.trans (hB3.mono hb.size)).setCell (p := ⟨w.heap.size + 1 + 1 + 1 + 1, 0, none⟩) (by simp; omega) (.int .u64 (t.f : Int))).setCell (p := ⟨w.heap.size + 1 + 1 + 1 + 1, 1, none⟩) (by simp; omega) (.int .i64 t.k)).setCell (p := ⟨w.heap.size + 1 + 1 + 1 + 1, 2, none⟩) (by simp; omega) (.int .i64 t.v))
    clear e0 e1 e2 e4 e5 e6 hb3
    go_wp2
    go_roundw
    case rel => exact ⟨j + 1, x', t, by omega, by omega, by first | rfl | rw [hand], HX2, HN, N1, N2, NB.out⟩
    case measure => simp [intOf]; omega
end Go.Proofs.YtfkbkekgnoanaaaDoor
namespace Go.Proofs.YtfkbkekgnoanaaaDoor
open Go.RowKit
def thenC (xs ys : List Cl) : List Cl := ys.map (ofC xs)
def thenR (d : Int) (xs ys : List Cl) : List Cl := if chk2C d xs ys = 0 then thenC xs ys else []
theorem then_length {xs ys : List Cl} {n : Nat} (h2 : ys.length = n) : (thenC xs ys).length = n := by simp [thenC, h2]
theorem three_below {w w' : World} {B q : Nat} {o2 : Nat} {u0 u1 u2 : Value} (hb : Below B w w') (hq : q < B)
  (h : w.cell? ⟨q, o2, none⟩ = some u0 ∧ w.cell? ⟨q, o2 + 1, none⟩ = some u1 ∧ w.cell? ⟨q, o2 + 2, none⟩ = some u2) :
  w'.cell? ⟨q, o2, none⟩ = some u0 ∧ w'.cell? ⟨q, o2 + 1, none⟩ = some u1 ∧ w'.cell? ⟨q, o2 + 2, none⟩ = some u2 := by
 obtain ⟨b0, b1, b2⟩ := h
 exact ⟨(hb.cell (p := ⟨q, _, none⟩) hq).trans b0, (hb.cell (p := ⟨q, _, none⟩) hq).trans b1, (hb.cell (p := ⟨q, _, none⟩) hq).trans b2⟩
end Go.Proofs.YtfkbkekgnoanaaaDoor
namespace Go.Proofs.YtfkbkekgnoanaaaDoor
open Go.RowKit
def z0 : Cl := ⟨0, 0, 0⟩
theorem made_flat (n : Nat) : (madeCells (Value.agg #[.int .u64 0, .int .i64 0, .int .i64 0]).cells (n * 3)).toList = flat (List.replicate n z0) := by
 have hc : (Value.agg #[.int .u64 0, .int .i64 0, .int .i64 0]).cells = #[.int .u64 0, .int .i64 0, .int .i64 0] := rfl
 rw [hc]
 apply List.ext_getElem?
 intro j
 by_cases hj : j < n * 3
 ·have e : (List.replicate n z0)[j / 3]? = some z0 := by rw [List.getElem?_replicate, if_pos (by omega)]
  obtain ⟨f0, f1, f2⟩ := flat_at e
  have hr : j % 3 = 0 ∨ j % 3 = 1 ∨ j % 3 = 2 := by omega
  have hlt : j < (madeCells #[Value.int .u64 0, .int .i64 0, .int .i64 0] (n * 3)).toList.length := by simp [madeCells]; exact hj
  rcases hr with h | h | h
  ·have ej : j = j / 3 * 3 := by omega
   rw [← ej] at f0
   rw [f0, List.getElem?_eq_getElem hlt]
   simp [madeCells, h, z0]
  ·have ej : j = j / 3 * 3 + 1 := by omega
   rw [← ej] at f1
   rw [f1, List.getElem?_eq_getElem hlt]
   simp [madeCells, h, z0]
  ·have ej : j = j / 3 * 3 + 2 := by omega
   rw [← ej] at f2
   rw [f2, List.getElem?_eq_getElem hlt]
   simp [madeCells, h, z0]
 ·rw [List.getElem?_eq_none (by simp [madeCells]; omega), List.getElem?_eq_none (by rw [flat_length]; simp; omega)]
theorem fill_step {full : List Cl} {n k : Nat} {z : Cl} (hl : full.length = n) (hz : full[k]? = some z) : (full.take k ++ List.replicate (n - k) z0).set k z = full.take (k + 1) ++ List.replicate (n - (k + 1)) z0 := by
 obtain ⟨hk, ex⟩ := List.getElem?_eq_some_iff.1 hz
 have hl2 : (full.take k).length = k := by simp; omega
 rw [List.set_append_right _ _ (by omega), hl2, Nat.sub_self, show n - k = (n - (k + 1)) + 1 by omega, List.replicate_succ, List.set_cons_zero, List.take_succ_eq_append_getElem hk, List.append_assoc, ex]
 rfl
theorem fill_at {full : List Cl} {n k : Nat} (hl : full.length = n) (hk : k < n) : (full.take k ++ List.replicate (n - k) z0)[k]? = some z0 := by
 have hl2 : (full.take k).length = k := by simp; omega
 rw [List.getElem?_append_right (by omega), hl2, Nat.sub_self, List.getElem?_replicate, if_pos (by omega)]
theorem fill_len {full : List Cl} {n k : Nat} (hl : full.length = n) (hk : k ≤ n) : (full.take k ++ List.replicate (n - k) z0).length = n := by simp; omega
theorem okAt_in {n : Nat} {c : Cl} (hf : c.f < 18446744073709551616) (h : okAt n c = true) (i : Nat) (hb : c.f.testBit i = true) : i < n := by
 have h1 : inside n c.f = true := by
  unfold okAt cellOk at h
  cases hi : inside n c.f
  ·rw [hi] at h; simp at h
  ·rfl
 rcases Nat.lt_or_ge i n with hi | hi
 ·exact hi
 ·rcases Nat.lt_or_ge i 64 with h64 | h64
  ·rw [(inside_bits n c.f hf).1 h1 i hi h64] at hb; cases hb
  ·rw [Nat.testBit_lt_two_pow (Nat.lt_of_lt_of_le hf (Nat.le_trans (by decide : 18446744073709551616 ≤ 2 ^ 64) (Nat.pow_le_pow_right (by decide) h64)))] at hb; cases hb
set_option maxHeartbeats 2000000 in
theorem then_any (d : Int) (a b : Option Addr) (capa capb : Nat) (xs ys : List Cl) (w : World) (ht : Tabs w) (hma : xs.length ≤ maxLen) (hmb : ys.length ≤ maxLen) (hra : CRow w a xs) (hrb : CRow w b ys) (hba : Bits xs) (hbb : Bits ys) (c : Int) (hc : chk2C d xs ys = c) :
  Calls Tryd.prog 83 #[.int .i64 d, .slice a xs.length capa, .slice b ys.length capb] w (CellsRet (thenR d xs ys) c w) := by
 have HT := Lib.hid ht
 have HMA := Lib.hid hma; have HMB := Lib.hid hmb; have HRA := Lib.hid hra; have HRB := Lib.hid hrb; have HBA := Lib.hid hba; have HBB := Lib.hid hbb
 have HC := Lib.hid hc
 clear ht hma hmb hra hrb hba hbb
 by_cases h0 : c = 0
 ·subst h0
  obtain ⟨k1, k2⟩ := chk2C_zero hc
  obtain ⟨d0, d1, la, oka⟩ := chkC_zero k1
  obtain ⟨_, _, lb, okb⟩ := chkC_zero k2
  obtain ⟨n, rfl⟩ : ∃ n : Nat, d = n := ⟨d.toNat, by omega⟩
  have hla : xs.length = n := by omega
  have hlb : ys.length = n := by omega
  have HR := Lib.hid (show thenR n xs ys = thenC xs ys by simp [thenR, hc])
  have HN := Lib.hid (then_length (xs := xs) hlb)
  have OKA := Lib.hid oka; have OKB := Lib.hid okb
  have ga1 : n ≤ xs.length := by omega
  have gb1 : n ≤ ys.length := by omega
  have ga2 : xs.length ≤ n := by omega
  have gb2 : ys.length ≤ n := by omega
  have hn : n ≤ 64 := by omega
  obtain ⟨i0, hi, hz0, hz1, hz2⟩ := info_parts infoC
  clear hc k1 k2 d0 d1 la oka lb okb hla hlb
  go_enter Tryd.func83, Tryd.ntmps83
  go_wp2_with fail
  refine (checkBoth_any _ a b capa capb xs ys _ HMA.out HMB.out HRA.out HRB.out HBA.out HBB.out 0 HC.out).mono ?_
  rintro e w1 ⟨rfl, hb1⟩
  go_wp2_with (at_make; refine wpList_make_full _ rfl (.tmp 18) (.tmp 18) 44 rfl w.heap.size 89 i0 _ 3 Tryd.underlying44 hi hz0 hz1 .i64 .i64 (n : Int) (n : Int) n rfl rfl rfl rfl (by rw [hz2]; omega) (by unfold maxLen; omega) hb1.size ?_; intro w2 hown2 hgrow2)
  have HO1 : Hid (w2.ownsRow w.heap.size 89 3 (.slice (some ⟨w1.heap.size, 0, none⟩) n n) n (flat ((thenC xs ys).take 0 ++ List.replicate (n - 0) z0))) := by
   rw [List.take_zero, List.nil_append, Nat.sub_zero, ← made_flat]; exact hown2
  have hb2 : Below w.heap.size w w2 := hb1.grown hgrow2 hb1.size (fun j e => by cases e)
  have hsz := hb1.size
  clear hown2
  go_wp2_with fail
  go_loopw [21] (fun i wr => ∃ k : Nat, k ≤ n ∧ i = .int .i64 k ∧ Hid (wr.ownsRow w.heap.size 89 3 (.slice (some ⟨w1.heap.size, 0, none⟩) n n) n (flat ((thenC xs ys).take k ++ List.replicate (n - k) z0))) ∧ Below w.heap.size w wr) (fun i _ => n - (intOf i).toNat)
  case atStart => exact ⟨0, Nat.zero_le _, rfl, HO1, hb2⟩
  case round =>
   obtain ⟨k, hk, rfl, HO, hb⟩ := hrel
   by_cases hlt : k < n
   ·obtain ⟨bb, offb, y, rfl, hy, hbb, b0, b1, b2⟩ := HRB.out.at_ (show k < ys.length by omega)
    have HF : Hid (_ ∧ _ ∧ _) := ⟨b0, b1, b2⟩
    clear b0 b1 b2
    obtain ⟨b0, b1, b2⟩ := three_below hb hbb HF.out
    have OY := Lib.hid (ok_get HBB.out OKB.out hy)
    have OIN : Hid (∀ i, y.f.testBit i = true → i < xs.length) := fun i h => Nat.lt_of_lt_of_le (okAt_in OY.out.1 (List.all_eq_true.1 OKB.out y (List.mem_of_getElem? hy)) i h) (by omega)
    have OAL : Hid (∀ (i : Nat) x, xs[i]? = some x → x.ok) := fun i x hi => ok_get HBA.out OKA.out hi
    obtain ⟨z, hz⟩ : ∃ z, ofC xs y = z := ⟨_, rfl⟩
    have HZ := Lib.hid (fill_step (full := thenC xs ys) (n := n) (k := k) (z := z) HN.out (by rw [← hz]; simp [thenC, hy]))
    have HA := Lib.hid (fill_at (full := thenC xs ys) (n := n) HN.out hlt)
    have HLEN := Lib.hid (fill_len (full := thenC xs ys) (n := n) HN.out hk)
    have HJ := Lib.hid hz
    clear hy hz
    have g0 : (0 : Int) ≤ (k : Int) := by omega
    have g2 : (k : Int) < (ys.length : Int) := by omega
    have g3 : (k : Int) < (n : Int) := by omega
    go_wp2_with (go_at_call 101; refine (ofRow_any a capa xs y _ (HT.out.below hb) (by omega) (HRA.out.below hb) OAL.out OY.out OIN.out z HJ.out).mono ?_; rintro e w3 ⟨rfl, hb3⟩; have hB3 : Below wr.heap.size wr w3 := hb3; have o3 := own_below HO.out hB3; have f3 := flat_at HA.out; have e0 := (o3.cellAt (k * 3) (by omega)).trans f3.1; have e1 := (o3.cellAt (k * 3 + 1) (by omega)).trans f3.2.1; have e2 := (o3.cellAt (k * 3 + 2) (by omega)).trans f3.2.2; have q0 := o3.frozenAt (k * 3); have q1 := o3.frozenAt (k * 3 + 1); have q2 := o3.frozenAt (k * 3 + 2); have O3 := Lib.hid o3; clear o3 f3)
    have HS := Lib.hid (own_store3 O3.out (by rw [HLEN.out]; exact hlt) z)
    rw [HZ.out] at HS
    have HB : Hid (Below w.heap.size w (((w3.setCell ⟨w1.heap.size, k * 3, none⟩ (.int .u64 (z.f : Int))).setCell ⟨w1.heap.size, k * 3 + 1, none⟩ (.int .i64 z.k)).setCell ⟨w1.heap.size, k * 3 + 2, none⟩ (.int .i64 z.v))) := (((hb.trans (hB3.mono hb.size)).setCell (p := ⟨w1.heap.size, k * 3, none⟩) hsz _).setCell (p := ⟨w1.heap.size, k * 3 + 1, none⟩) hsz _).setCell (p := ⟨w1.heap.size, k * 3 + 2, none⟩) hsz _
    clear e0 e1 e2 q0 q1 q2 O3
    go_wp2
    go_roundw
    case rel => exact ⟨k + 1, by omega, by go_num, HS, HB.out⟩
    case measure => simp [intOf]; omega
   ·obtain rfl : n = k := by omega
    have HE : Hid (wr.ownsRow w.heap.size 89 3 (.slice (some ⟨w1.heap.size, 0, none⟩) n n) n (flat (thenR n xs ys))) := by
     have := HO.out
     rw [List.take_of_length_le (by rw [HN.out]; exact Nat.le_refl _), Nat.sub_self, List.replicate_zero, List.append_nil] at this
     rw [HR.out]; exact this
    go_wp2
    go_ret2
    exact cellsRet_own HE.out hb 0
 ·have HR := Lib.hid (show thenR d xs ys = [] by simp [thenR, hc, h0])
  have hne : (c != 0) = true := by simpa using h0
  clear hc h0
  go_enter Tryd.func83, Tryd.ntmps83
  go_wp2_with fail
  refine (checkBoth_any _ a b capa capb xs ys _ HMA.out HMB.out HRA.out HRB.out HBA.out HBB.out c HC.out).mono ?_
  rintro e w1 ⟨rfl, hb1⟩
  go_wp2
  go_ret2
  rw [HR.out]
  exact cellsRet_nil c hb1
end Go.Proofs.YtfkbkekgnoanaaaDoor
namespace Go.Proofs.YtfkbkekgnoanaaaDoor
open Go.RowKit
def oneAt (k : Nat) : Cl := ⟨2 ^ k, 0, 0⟩
def unitC (n : Nat) : List Cl := (List.range n).map oneAt
def unitR (d : Int) : List Cl := if dimC d = 0 then unitC d.toNat else []
theorem unit_length (n : Nat) : (unitC n).length = n := by simp [unitC]
theorem unit_at {n k : Nat} (hk : k < n) : (unitC n)[k]? = some (oneAt k) := by
 simp [unitC, List.getElem?_range hk]
theorem unit_snoc {n k : Nat} (hk : k < n) : (unitC n).take (k + 1) = (unitC n).take k ++ [oneAt k] := by
 obtain ⟨h, e⟩ := List.getElem?_eq_some_iff.1 (unit_at hk)
 rw [List.take_succ_eq_append_getElem h, e]
theorem pow_u64 {k : Nat} (hk : k < 64) : IntKind.u64.wrap (2 ^ k : Int) = ((2 ^ k : Nat) : Int) := by
 have h : 2 ^ k < 18446744073709551616 := Nat.lt_of_lt_of_le (Nat.pow_lt_pow_right (by decide) hk) (by decide)
 have e : (2 ^ k : Int) = ((2 ^ k : Nat) : Int) := by simp
 rw [e]
 generalize 2 ^ k = q at h
 simp [IntKind.wrap, IntKind.signed, IntKind.bits]
 omega
end Go.Proofs.YtfkbkekgnoanaaaDoor
namespace Go.Proofs.YtfkbkekgnoanaaaDoor
open Go.RowKit
theorem flat_set1 : ∀ (cs : List Cl) (i : Nat) (f f' : Nat), cs[i]? = some ⟨f, 0, 0⟩ → (flat cs).set (i * 3) (.int .u64 (f' : Int)) = flat (cs.set i ⟨f', 0, 0⟩)
 | [], i, f, f', h => by simp at h
 | x :: r, 0, f, f', h => by
  simp at h; subst h
  simp [flat_cons, vals]
 | x :: r, i + 1, f, f', h => by
  have ih := flat_set1 r i f f' (by simpa using h)
  have e0 : (i + 1) * 3 = i * 3 + 3 := by omega
  rw [e0, flat_cons, List.set_cons_succ, flat_cons, ← ih]
  simp [vals]
theorem own_store1 {w : World} {base g n cap k : Nat} {E : Nat} {cs : List Cl} {f : Nat} (h : w.ownsRow base E 3 (.slice (some ⟨g, 0, none⟩) n cap) n (flat cs)) (hk : cs[k]? = some ⟨f, 0, 0⟩) (f' : Nat) :
  (w.setCell ⟨g, k * 3, none⟩ (.int .u64 (f' : Int))).ownsRow base E 3 (.slice (some ⟨g, 0, none⟩) n cap) n (flat (cs.set k ⟨f', 0, 0⟩)) := by
 rw [← flat_set1 cs k f f' hk]
 exact (h.stored (k * 3) _).1
set_option maxHeartbeats 2000000 in
theorem unit_any (n : Nat) (w : World) (hn : n ≤ 64) : Calls Tryd.prog 91 #[.int .i64 n] w (CellsRet1 (unitC n) w) := by
 obtain ⟨i0, hi, hz0, hz1, hz2⟩ := info_parts infoC
 have HN := Lib.hid (unit_length n)
 go_enter Tryd.func91, Tryd.ntmps91
 go_wp2_with (at_make; refine wpList_make_full _ rfl (.tmp 5) (.tmp 5) 44 rfl w.heap.size 89 i0 _ 3 Tryd.underlying44 hi hz0 hz1 .i64 .i64 (n : Int) (n : Int) n rfl rfl rfl rfl (by rw [hz2]; omega) (by unfold maxLen; omega) (Nat.le_refl _) ?_; intro w2 hown2 hgrow2)
 have HO1 : Hid (w2.ownsRow w.heap.size 89 3 (.slice (some ⟨w.heap.size, 0, none⟩) n n) n (flat ((unitC n).take 0 ++ List.replicate (n - 0) z0))) := by
  rw [List.take_zero, List.nil_append, Nat.sub_zero, ← made_flat]; exact hown2
 have hb2 : Below w.heap.size w w2 := (Below.refl _ _).grown hgrow2 (Nat.le_refl _) (fun j e => by cases e)
 clear hown2
 go_wp2_with fail
 go_loopw [8] (fun i wr => ∃ k : Nat, k ≤ n ∧ i = .int .i64 k ∧ Hid (wr.ownsRow w.heap.size 89 3 (.slice (some ⟨w.heap.size, 0, none⟩) n n) n (flat ((unitC n).take k ++ List.replicate (n - k) z0))) ∧ Below w.heap.size w wr) (fun i _ => n - (intOf i).toNat)
 case atStart => exact ⟨0, Nat.zero_le _, rfl, HO1, hb2⟩
 case round =>
  obtain ⟨k, hk, rfl, HO, hb⟩ := hrel
  by_cases hlt : k < n
  ·have HZ := Lib.hid (fill_step (full := unitC n) (n := n) (k := k) HN.out (unit_at hlt))
   have HA := Lib.hid (fill_at (full := unitC n) (n := n) HN.out hlt)
   have HW := Lib.hid (pow_u64 (k := k) (by omega))
   have f3 := flat_at HA.out
   have e0 := (HO.out.cellAt (k * 3) (by omega)).trans f3.1
   have q0 := HO.out.frozenAt (k * 3)
   clear f3
   have g0 : (0 : Int) ≤ (k : Int) := by omega
   have g1 : k < 64 := by omega
   have g2 : (k : Int) < 64 := by omega
   have g3 : (k : Int) < (n : Int) := by omega
   have HS := Lib.hid (own_store1 HO.out HA.out (2 ^ k))
   rw [show (⟨2 ^ k, 0, 0⟩ : Cl) = oneAt k from rfl, HZ.out, ← HW.out] at HS
   have HB : Hid (Below w.heap.size w (wr.setCell ⟨w.heap.size, k * 3, none⟩ (.int .u64 (IntKind.u64.wrap (2 ^ k))))) := hb.setCell (p := ⟨w.heap.size, k * 3, none⟩) (Nat.le_refl _) _
   go_wp2
   go_roundw
   case rel => exact ⟨k + 1, by omega, by go_num, HS, HB.out⟩
   case measure => simp [intOf]; omega
  ·obtain rfl : n = k := by omega
   have HE : Hid (wr.ownsRow w.heap.size 89 3 (.slice (some ⟨w.heap.size, 0, none⟩) n n) n (flat (unitC n))) := by
    have := HO.out
    rw [List.take_of_length_le (by rw [HN.out]; exact Nat.le_refl _), Nat.sub_self, List.replicate_zero, List.append_nil] at this
    exact this
   go_wp2
   go_ret
   exact ⟨_, rfl, by rw [HN.out]; exact HE.out, hb⟩
theorem cellsRet_of1 {cs : List Cl} {w w1 w2 : World} {v : Value} (hb1 : Below w.heap.size w w1) (hown : w2.ownsRow w1.heap.size 89 3 v cs.length (flat cs)) (hb2 : Below w1.heap.size w1 w2) (err : Int) : CellsRet cs err w (.returned (.tuple #[v, .int .i64 err])) w2 := by
 obtain ⟨_, a2, cap2, rfl, hr2, hf2⟩ := crow_of_own hown
 exact ⟨a2, cap2, rfl, hr2, fun ad e => ⟨Nat.le_trans hb1.size (hf2 ad e).1, (hf2 ad e).2.2⟩, hb1.trans (hb2.mono hb1.size)⟩
theorem ce_dim_nat {d : Int} (h : dimC d = 0) : ∃ n : Nat, d = n ∧ n ≤ 64 := by
 by_cases hd : d < 0 ∨ 64 < d
 ·simp [dimC, hd] at h
 ·exact ⟨d.toNat, by omega, by omega⟩
set_option maxHeartbeats 2000000 in
theorem one_any (d : Int) (w : World) (c : Int) (hc : dimC d = c) :
  Calls Tryd.prog 77 #[.int .i64 d] w (CellsRet (unitR d) c w) := by
 have HC := Lib.hid hc
 by_cases h0 : c = 0
 ·subst h0
  obtain ⟨n, rfl, hn⟩ := ce_dim_nat hc
  have HR := Lib.hid (show unitR n = unitC n by simp [unitR, hc])
  clear hc
  go_enter Tryd.func77, Tryd.ntmps77
  go_wp2_with (go_at_call 90; refine (checkDim_is _ _ 0 HC.out).mono ?_; rintro e w' ⟨rfl, rfl⟩)
  refine (unit_any n _ hn).mono ?_
  rintro e w2 ⟨v, rfl, hown, hb2⟩
  have HO := Lib.hid hown
  clear hown
  go_wp2
  go_ret2
  rw [HR.out]
  exact cellsRet_of1 (Below.refl _ _) HO.out hb2 0
 ·have HR := Lib.hid (show unitR d = [] by simp [unitR, hc, h0])
  have hne : (c != 0) = true := by simpa using h0
  clear hc h0
  go_enter Tryd.func77, Tryd.ntmps77
  go_wp2_with (go_at_call 90; refine (checkDim_is _ _ c HC.out).mono ?_; rintro e w' ⟨rfl, rfl⟩)
  go_ret2
  rw [HR.out]
  exact cellsRet_nil c (Below.refl _ _)
end Go.Proofs.YtfkbkekgnoanaaaDoor
namespace Go.Proofs.YtfkbkekgnoanaaaDoor
open Go.RowKit
structure IsCells (w : World) (a : Option Addr) (len cap : Nat) (xs : List Cl) : Prop where
 len : len = xs.length
 max : xs.length ≤ maxLen
 row : CRow w a xs
 bits : Bits xs
end Go.Proofs.YtfkbkekgnoanaaaDoor
namespace Go.Proofs.YtfkbkekgnoanaaaDoor
open Go.RowKit
set_option linter.unusedSimpArgs false
def manyC : Cl := ⟨0, 2, 0⟩
theorem ok_cases {c : Cl} (h : c.ok) : (∃ f, c = ⟨f, 0, 0⟩) ∨ (∃ f v, c = ⟨f, 1, v⟩) ∨ c = manyC := by
 obtain ⟨f, k, v⟩ := c
 obtain ⟨_, h⟩ := h
 simp only at h
 unfold kindOk at h
 split at h
 ·rename_i h2; left; simp at h; subst h; subst h2; exact ⟨f, rfl⟩
 ·split at h
  ·rename_i h2; right; left; subst h2; exact ⟨f, v, rfl⟩
  ·split at h
   ·rename_i h2; right; right; subst h2; simp at h; obtain ⟨rfl, rfl⟩ := h; rfl
   ·cases h
theorem join_comm {a b : Cl} (ha : a.ok) (hb : b.ok) : join a b = join b a := by
 rcases ok_cases ha with ⟨f, rfl⟩ | ⟨f, v, rfl⟩ | rfl <;> rcases ok_cases hb with ⟨f2, rfl⟩ | ⟨f2, v2, rfl⟩ | rfl
 all_goals (try (simp [join, joinK, joinV, manyC, Nat.or_comm]; done))
 by_cases hv : v = v2
 ·subst hv; simp [join, joinK, joinV, Nat.or_comm]
 ·have hv2 : ¬ v2 = v := fun h => hv h.symm
  simp [join, joinK, joinV, hv, hv2]
theorem join_self {a : Cl} (ha : a.ok) : join a a = a := by
 rcases ok_cases ha with ⟨f, rfl⟩ | ⟨f, v, rfl⟩ | rfl <;> simp [join, joinK, joinV, manyC]
theorem join_many {a : Cl} (ha : a.ok) : join manyC a = manyC := by
 rcases ok_cases ha with ⟨f, rfl⟩ | ⟨f, v, rfl⟩ | rfl <;> simp [join, joinK, joinV, manyC]
theorem join_assoc {a b c : Cl} (ha : a.ok) (hb : b.ok) (hc : c.ok) : join (join a b) c = join a (join b c) := by
 rcases ok_cases ha with ⟨f, rfl⟩ | ⟨f, v, rfl⟩ | rfl <;> rcases ok_cases hb with ⟨f2, rfl⟩ | ⟨f2, v2, rfl⟩ | rfl <;> rcases ok_cases hc with ⟨f3, rfl⟩ | ⟨f3, v3, rfl⟩ | rfl
 all_goals (try (simp [join, joinK, joinV, manyC, Nat.or_assoc]; done))
 all_goals (try (by_cases h1 : v = v2 <;> simp [join, joinK, joinV, manyC, Nat.or_assoc, h1]; done))
 all_goals (try (by_cases h1 : v = v3 <;> simp [join, joinK, joinV, manyC, Nat.or_assoc, h1]; done))
 all_goals (try (by_cases h1 : v2 = v3 <;> simp [join, joinK, joinV, manyC, Nat.or_assoc, h1]; done))
 by_cases h1 : v = v2
 ·subst h1
  by_cases h2 : v = v3 <;> simp [join, joinK, joinV, manyC, Nat.or_assoc, h2]
 ·by_cases h2 : v2 = v3
  ·subst h2; simp [join, joinK, joinV, h1]
  ·simp [join, joinK, joinV, h1, h2]
theorem join_mid {x a y b : Cl} (hx : x.ok) (ha : a.ok) (hy : y.ok) (hb : b.ok) : join (join x a) (join y b) = join (join x y) (join a b) := by
 rw [join_assoc hx ha (join_ok hy hb), ← join_assoc ha hy hb, join_comm ha hy, join_assoc hy ha hb, ← join_assoc hx hy (join_ok ha hb)]
def Oks (xs : List Cl) : Prop := ∀ (i : Nat) x, xs[i]? = some x → x.ok
theorem ofTo_join {row : List Cl} (hr : Oks row) {x y : Cl} (hx : x.ok) (hy : y.ok) : ∀ n, ofTo row (join x y) n = join (ofTo row x n) (ofTo row y n)
 | 0 => by
  show (⟨0, (join x y).k, (join x y).v⟩ : Cl) = join ⟨0, x.k, x.v⟩ ⟨0, y.k, y.v⟩
  simp [join]
 | n + 1 => by
  have ih := ofTo_join hr hx hy n
  have ox := ofTo_ok hx hr n
  have oy := ofTo_ok hy hr n
  have ob := ofTo_ok (join_ok hx hy) hr n
  rcases hrow : row[n]? with _ | A
  ·simp only [ofTo_succ, ofStep, hrow]
   split <;> split <;> split <;> exact ih
  ·have oA := hr n A hrow
   by_cases hm : joinK x.k x.v y.k y.v = 2
   ·have hz : join x y = manyC := by
     rcases ok_cases (join_ok hx hy) with ⟨f, e⟩ | ⟨f, v, e⟩ | e
     ·have := congrArg Cl.k e; simp [join, hm] at this
     ·have := congrArg Cl.k e; simp [join, hm] at this
     ·exact e
    have hall : ∀ m, ofTo row (join x y) m = manyC := by
     intro m
     rw [hz, ofTo_skip (Nat.zero_le m) (fun i _ _ => by simp [manyC])]
     rfl
    have e1 : join (ofTo row x n) (ofTo row y n) = manyC := by rw [← ih, hall n]
    rw [hall]
    simp only [ofTo_succ, ofStep, hrow]
    split <;> split
    ·rw [join_mid ox oA oy oA, e1, join_many (join_ok oA oA)]
    ·rw [join_comm ox oA, join_assoc oA ox oy, e1, join_comm oA (by rw [← e1]; exact join_ok ox oy), join_many oA]
    ·rw [← join_assoc ox oy oA, e1, join_many oA]
    ·exact e1.symm
   ·have hf : (join x y).f = x.f ||| y.f := by simp [join, hm]
    simp only [ofTo_succ, ofStep, hrow, hf, Nat.testBit_or]
    rw [ih]
    cases hbx : x.f.testBit n <;> cases hby : y.f.testBit n <;> simp
    ·rw [join_assoc ox oy oA]
    ·rw [join_assoc ox oy oA, join_comm oy oA, ← join_assoc ox oA oy]
    ·rw [join_mid ox oA oy oA, join_self oA]
theorem ofC_join {row : List Cl} (hr : Oks row) {x y : Cl} (hx : x.ok) (hy : y.ok) : ofC row (join x y) = join (ofC row x) (ofC row y) := ofTo_join hr hx hy _
theorem ofC_base (row : List Cl) (c : Cl) : ofC row ⟨0, c.k, c.v⟩ = ⟨0, c.k, c.v⟩ := by
 unfold ofC
 rw [ofTo_skip (Nat.zero_le _) (fun i _ _ => by simp)]
 rfl
theorem ofTo_then {xs ys : List Cl} (hx : Oks xs) (hy : Oks ys) {c : Cl} (hc : c.ok) : ∀ n, ofTo (ys.map (ofC xs)) c n = ofC xs (ofTo ys c n)
 | 0 => (ofC_base xs c).symm
 | n + 1 => by
  have ih := ofTo_then hx hy hc n
  rcases hrow : ys[n]? with _ | A
  ·have h2 : (ys.map (ofC xs))[n]? = none := by simp [hrow]
   simp only [ofTo_succ, ofStep, hrow, h2]
   split <;> exact ih
  ·have h2 : (ys.map (ofC xs))[n]? = some (ofC xs A) := by simp [hrow]
   simp only [ofTo_succ, ofStep, hrow, h2]
   split
   ·rw [ih, ofC_join hx (ofTo_ok hc hy n) (hy n A hrow)]
   ·exact ih
theorem then_assoc {xs ys zs : List Cl} (hx : Oks xs) (hy : Oks ys) (hz : Oks zs) : thenC (thenC xs ys) zs = thenC xs (thenC ys zs) := by
 unfold thenC
 rw [List.map_map]
 apply List.map_congr_left
 intro c hc
 obtain ⟨i, hi, e⟩ := List.mem_iff_getElem.1 hc
 have h := ofTo_then hx hy (hz i c (by rw [← e]; exact List.getElem?_eq_getElem hi)) ys.length
 show ofTo (ys.map (ofC xs)) c (ys.map (ofC xs)).length = ofC xs (ofTo ys c ys.length)
 rw [List.length_map, h]
end Go.Proofs.YtfkbkekgnoanaaaDoor
namespace Go.Proofs.YtfkbkekgnoanaaaDoor
open Go.RowKit
set_option linter.unusedSimpArgs false
theorem okAt_iff {n : Nat} {c : Cl} : okAt n c = true ↔ c.f < 2 ^ n ∧ kindOk c.f c.k c.v = true := by
 unfold okAt cellOk inside
 rw [Bool.and_eq_true, beq_iff_eq, Nat.div_eq_zero_iff]
 constructor
 ·rintro ⟨h | h, h2⟩
  ·have := Nat.two_pow_pos n; omega
  ·exact ⟨h, h2⟩
 ·rintro ⟨h, h2⟩; exact ⟨.inr h, h2⟩
theorem ce_pow_le64 {n f : Nat} (hn : n ≤ 64) (h : f < 2 ^ n) : f < 18446744073709551616 :=
 Nat.lt_of_lt_of_le h (Nat.le_trans (Nat.pow_le_pow_right (by decide) hn) (by decide))
structure Val (n : Nat) (xs : List Cl) : Prop where
 le : n ≤ 64
 len : xs.length = n
 ok : ∀ (i : Nat) c, xs[i]? = some c → okAt n c = true
theorem Val.oks {n : Nat} {xs : List Cl} (h : Val n xs) : Oks xs := fun i c hi => by
 obtain ⟨h1, h2⟩ := okAt_iff.1 (h.ok i c hi)
 exact ⟨ce_pow_le64 h.le h1, h2⟩
theorem Val.bits {n : Nat} {xs : List Cl} (h : Val n xs) : Bits xs := fun c hc => by
 obtain ⟨i, hi, e⟩ := List.mem_iff_getElem.1 hc
 exact (h.oks i c (by rw [← e]; exact List.getElem?_eq_getElem hi)).1
theorem Val.chk {n : Nat} {xs : List Cl} (h : Val n xs) : chkC n xs = 0 := by
 refine chkC_good h.le h.len (Nat.le_refl _) ?_
 rw [List.take_length, List.all_eq_true]
 intro c hc
 obtain ⟨i, hi, e⟩ := List.mem_iff_getElem.1 hc
 exact h.ok i c (by rw [← e]; exact List.getElem?_eq_getElem hi)
theorem Val.chk2 {n : Nat} {xs ys : List Cl} (h : Val n xs) (h2 : Val n ys) : chk2C n xs ys = 0 := by
 unfold chk2C
 rw [h.chk, h2.chk]; rfl
theorem val_of {d : Int} {xs : List Cl} (h : chkC d xs = 0) : ∃ n : Nat, d = n ∧ Val n xs := by
 obtain ⟨d0, d1, la, oka⟩ := chkC_zero h
 refine ⟨d.toNat, by omega, by omega, by omega, fun i c hi => ?_⟩
 exact List.all_eq_true.1 oka c (List.mem_of_getElem? hi)
theorem okAt_join {n : Nat} {a b : Cl} (ha : okAt n a = true) (hb : okAt n b = true) (hn : n ≤ 64) : okAt n (join a b) = true := by
 obtain ⟨h1, h2⟩ := okAt_iff.1 ha
 obtain ⟨h3, h4⟩ := okAt_iff.1 hb
 have h5 := join_ok (a := a) (b := b) ⟨ce_pow_le64 hn h1, h2⟩ ⟨ce_pow_le64 hn h3, h4⟩
 refine okAt_iff.2 ⟨?_, h5.2⟩
 show (if joinK a.k a.v b.k b.v = 2 then 0 else a.f ||| b.f) < 2 ^ n
 split
 ·exact Nat.two_pow_pos n
 ·exact Nat.or_lt_two_pow h1 h3
theorem okAt_ofTo {n : Nat} {xs : List Cl} (hx : Val n xs) {c : Cl} (hc : okAt n c = true) : ∀ m, okAt n (ofTo xs c m) = true
 | 0 => okAt_iff.2 ⟨Nat.two_pow_pos n, kindOk_zero (okAt_iff.1 hc).2⟩
 | m + 1 => by
  have ih := okAt_ofTo hx hc m
  rw [ofTo_succ, ofStep]
  split
  ·split
   ·rename_i a h; exact okAt_join ih (hx.ok m a h) hx.le
   ·exact ih
  ·exact ih
theorem val_then {n : Nat} {xs ys : List Cl} (hx : Val n xs) (hy : Val n ys) : Val n (thenC xs ys) := by
 refine ⟨hx.le, by simp [thenC, hy.len], fun i c hi => ?_⟩
 simp [thenC] at hi
 obtain ⟨y, h1, rfl⟩ := hi
 exact okAt_ofTo hx (hy.ok i y h1) _
theorem val_unit {n : Nat} (hn : n ≤ 64) : Val n (unitC n) := by
 refine ⟨hn, unit_length n, fun i c hi => ?_⟩
 have h1 : i < n := by rw [← unit_length n]; exact (List.getElem?_eq_some_iff.1 hi).1
 rw [unit_at h1] at hi
 cases hi
 exact okAt_iff.2 ⟨Nat.pow_lt_pow_right (by decide) h1, by simp [kindOk, oneAt]⟩
theorem ofTo_unit {n : Nat} {c : Cl} (hc : okAt n c = true) : ∀ m, m ≤ n → ofTo (unitC n) c m = ⟨c.f % 2 ^ m, c.k, c.v⟩
 | 0, _ => by simp [ofTo, Nat.mod_one]
 | m + 1, hm => by
  have ih := ofTo_unit hc m (by omega)
  have hrow : (unitC n)[m]? = some (oneAt m) := unit_at (by omega)
  rw [ofTo_succ, ofStep, ih]
  cases hb : c.f.testBit m
  ·rw [if_neg (by simp)]
   congr 1
   apply Nat.eq_of_testBit_eq
   intro i
   rw [Nat.testBit_mod_two_pow, Nat.testBit_mod_two_pow]
   rcases Nat.lt_or_ge i m with h | h
   ·simp [h, Nat.lt_succ_of_lt h]
   ·rcases Nat.eq_or_lt_of_le h with h2 | h2
    ·subst h2; simp [hb]
    ·have e1 : ¬ i < m := by omega
     have e2 : ¬ i < m + 1 := by omega
     simp [e1, e2]
  ·rw [if_pos rfl, hrow]
   have hk : ¬ c.k = 2 := by
    intro h2
    have := (okAt_iff.1 hc).2
    simp [kindOk, h2] at this
    rw [this.2] at hb; simp at hb
   have hk0 : c.k = 0 → c.v = 0 := by
    intro h2
    have := (okAt_iff.1 hc).2
    simpa [kindOk, h2] using this
   have hf : c.f % 2 ^ m ||| 2 ^ m = c.f % 2 ^ (m + 1) := by
    apply Nat.eq_of_testBit_eq
    intro i
    rw [Nat.testBit_or, Nat.testBit_mod_two_pow, Nat.testBit_mod_two_pow, Nat.testBit_two_pow]
    rcases Nat.lt_or_ge i m with h | h
    ·have e3 : ¬ m = i := by omega
     simp [h, Nat.lt_succ_of_lt h, e3]
    ·rcases Nat.eq_or_lt_of_le h with h2 | h2
     ·subst h2; simp [hb]
     ·have e1 : ¬ i < m := by omega
      have e2 : ¬ i < m + 1 := by omega
      have e3 : ¬ m = i := by omega
      simp [e1, e2, e3]
   by_cases h0 : c.k = 0
   ·simp [join, joinK, joinV, oneAt, hk, hf, h0, hk0 h0]
   ·simp [join, joinK, joinV, oneAt, hk, hf, h0]
theorem unit_then {n : Nat} {xs : List Cl} (hx : Val n xs) : thenC (unitC n) xs = xs := by
 apply List.ext_getElem?
 intro i
 simp only [thenC, List.getElem?_map]
 rcases h : xs[i]? with _ | c
 ·rfl
 ·have h2 := ofTo_unit (hx.ok i c h) n (Nat.le_refl _)
  simp
  unfold ofC
  rw [unit_length, h2, Nat.mod_eq_of_lt (okAt_iff.1 (hx.ok i c h)).1]
theorem join_none {c : Cl} (h : c.ok) : join ⟨0, 0, 0⟩ c = c := by
 rcases ok_cases h with ⟨f, rfl⟩ | ⟨f, v, rfl⟩ | rfl <;> simp [join, joinK, joinV, manyC]
theorem ofTo_oneAt {xs : List Cl} {i : Nat} : ∀ m, m ≤ i → ofTo xs (oneAt i) m = ⟨0, 0, 0⟩
 | 0, _ => rfl
 | m + 1, h => by
  rw [ofTo_no (by simp [oneAt, Nat.testBit_two_pow]; omega)]
  exact ofTo_oneAt m (by omega)
theorem ofC_oneAt {n : Nat} {xs : List Cl} (hx : Val n xs) {i : Nat} {c : Cl} (hi : xs[i]? = some c) : ofC xs (oneAt i) = c := by
 have h1 : i < xs.length := (List.getElem?_eq_some_iff.1 hi).1
 have h2 : ofTo xs (oneAt i) (i + 1) = c := by
  rw [ofTo_yes (by simp [oneAt, Nat.testBit_two_pow]) hi, ofTo_oneAt i (Nat.le_refl _), join_none (hx.oks i c hi)]
 unfold ofC
 rw [ofTo_skip (k := i + 1) (by omega) (fun j h3 h4 => by simp [oneAt, Nat.testBit_two_pow]; omega), h2]
theorem then_unit {n : Nat} {xs : List Cl} (hx : Val n xs) : thenC xs (unitC n) = xs := by
 apply List.ext_getElem?
 intro i
 simp only [thenC, List.getElem?_map]
 rcases Nat.lt_or_ge i n with h | h
 ·have e : xs[i]? = some (xs[i]'(by rw [hx.len]; exact h)) := List.getElem?_eq_getElem _
  rw [unit_at h, e]
  simp [ofC_oneAt hx e]
 ·rw [List.getElem?_eq_none (by rw [unit_length]; exact h), List.getElem?_eq_none (by rw [hx.len]; exact h)]
  rfl
end Go.Proofs.YtfkbkekgnoanaaaDoor
namespace Go.Proofs.YtfkbkekgnoanaaaDoor
open Go.RowKit
structure PF where
 z : Bool
 c : Int
 g : Nat
 rows : List Nat
 cells : List Cl
def WF.pf (f : WF) : PF := ⟨f.z, f.c, f.g, f.rows, f.cells⟩
def zeroP : PF := ⟨true, 0, 0, [], []⟩
def pC (c : Int) : PF := ⟨false, c, 0, [], []⟩
def pF (g : Nat) (rows : List Nat) : PF := ⟨false, 0, g, rows, []⟩
def pX (cs : List Cl) : PF := ⟨false, 0, 0, [], cs⟩
inductive OkP (t n : Int) : PF → Prop
 | zero : OkP t n zeroP
 | bool (h : t = 1) : OkP t n (pC 0)
 | cost (c : Int) (h : t = 2) (h0 : 0 ≤ c) (h1 : c ≤ n) : OkP t n (pC c)
 | facts (m g : Nat) (rows : List Nat) (h : t = 3) (hn : n = (m : Int)) (hg : Good m g rows) : OkP t n (pF g rows)
 | cells (m : Nat) (cs : List Cl) (h : t = 4) (hn : n = (m : Int)) (hv : Val m cs) : OkP t n (pX cs)
def combP (t n : Int) (a b : PF) : PF :=
 if a.z = true then b else if b.z = true then a else if t = 2 then pC (min a.c b.c) else if t = 3 then pF (combG n a.g a.rows b.g b.rows) (combV n a.g a.rows b.g b.rows) else if t = 4 then pX (bothC a.cells b.cells) else pC 0
def extP (t n : Int) (a b : PF) : PF :=
 if a.z = true then zeroP else if b.z = true then zeroP else if t = 2 then pC (min (a.c + b.c) n) else if t = 3 then pF (extG n a.g a.rows b.g b.rows) (extV n a.g a.rows b.g b.rows) else if t = 4 then pX (thenC a.cells b.cells) else pC 0
def oneP (t n : Int) : PF := if t = 3 then pF 0 (onesL n.toNat) else if t = 4 then pX (unitC n.toNat) else pC 0
theorem okP_1 {n : Int} {a : PF} (h : OkP 1 n a) : a = zeroP ∨ a = pC 0 := by
 cases h with
 | zero => exact .inl rfl
 | bool h => exact .inr rfl
 | cost c h h0 h1 => omega
 | facts m g rows h => omega
 | cells m cs h => omega
theorem okP_2 {n : Int} {a : PF} (h : OkP 2 n a) : a = zeroP ∨ ∃ c, a = pC c ∧ 0 ≤ c ∧ c ≤ n := by
 cases h with
 | zero => exact .inl rfl
 | bool h => omega
 | cost c h h0 h1 => exact .inr ⟨c, rfl, h0, h1⟩
 | facts m g rows h => omega
 | cells m cs h => omega
theorem okP_3 {m : Nat} {a : PF} (h : OkP 3 m a) : a = zeroP ∨ ∃ g rows, a = pF g rows ∧ Good m g rows := by
 cases h with
 | zero => exact .inl rfl
 | bool h => omega
 | cost c h h0 h1 => omega
 | facts k g rows h hn hg =>
  obtain rfl : m = k := by omega
  exact .inr ⟨g, rows, rfl, hg⟩
 | cells m cs h => omega
theorem okP_4 {m : Nat} {a : PF} (h : OkP 4 m a) : a = zeroP ∨ ∃ cs, a = pX cs ∧ Val m cs := by
 cases h with
 | zero => exact .inl rfl
 | bool h => omega
 | cost c h h0 h1 => omega
 | facts k g rows h hn hg => omega
 | cells k cs h hn hv =>
  obtain rfl : m = k := by omega
  exact .inr ⟨cs, rfl, hv⟩
theorem plainB_cases {t n : Int} {l : Nat} (h : plainB t n l = true) : l = 0 ∧ ((t = 1 ∧ n = 0) ∨ (t = 2 ∧ 0 ≤ n ∧ n ≤ 1048576) ∨ (t = 3 ∧ ∃ m : Nat, n = m ∧ m ≤ 64) ∨ (t = 4 ∧ ∃ m : Nat, n = m ∧ m ≤ 64)) := by
 obtain ⟨h0, ht⟩ := plainB_tag h
 obtain ⟨d0, d1, d2, d3⟩ := plainB_dim h
 refine ⟨h0, ?_⟩
 rcases ht with rfl | rfl | rfl | rfl
 ·exact .inl ⟨rfl, d2 rfl⟩
 ·exact .inr (.inl ⟨rfl, d0, d1⟩)
 ·exact .inr (.inr (.inl ⟨rfl, n.toNat, by omega, by have := d3 (.inl rfl); omega⟩))
 ·exact .inr (.inr (.inr ⟨rfl, n.toNat, by omega, by have := d3 (.inr rfl); omega⟩))
section
variable {t n : Int} {l : Nat} {a b c : PF}
theorem ext_zl : extP t n zeroP a = zeroP := by simp [extP, zeroP]
theorem ext_zr : extP t n a zeroP = zeroP := by simp [extP, zeroP]
theorem ext_1 : extP 1 n (pC 0) (pC 0) = pC 0 := by simp [extP, pC]
theorem ext_2 (x y : Int) : extP 2 n (pC x) (pC y) = pC (min (x + y) n) := by simp [extP, pC]
theorem ext_3 (g h : Nat) (xs ys : List Nat) : extP 3 n (pF g xs) (pF h ys) = pF (extG n g xs h ys) (extV n g xs h ys) := by simp [extP, pF]
theorem ext_4 (xs ys : List Cl) : extP 4 n (pX xs) (pX ys) = pX (thenC xs ys) := by simp [extP, pX]
theorem one_1 : oneP 1 n = pC 0 := by simp [oneP]
theorem one_2 : oneP 2 n = pC 0 := by simp [oneP]
theorem one_3 (m : Nat) : oneP 3 m = pF 0 (onesL m) := by simp [oneP]
theorem one_4 (m : Nat) : oneP 4 m = pX (unitC m) := by simp [oneP]
theorem one_okP (h : plainB t n l = true) : OkP t n (oneP t n) := by
 rcases (plainB_cases h).2 with ⟨rfl, hn⟩ | ⟨rfl, h0, h1⟩ | ⟨rfl, m, rfl, hm⟩ | ⟨rfl, m, rfl, hm⟩
 ·rw [one_1]; exact .bool rfl
 ·rw [one_2]; exact .cost 0 rfl (by omega) h0
 ·rw [one_3]; exact .facts m 0 _ rfl rfl (ones_good hm)
 ·rw [one_4]; exact .cells m _ rfl rfl (val_unit hm)
theorem ext_okP (h : plainB t n l = true) (ha : OkP t n a) (hb : OkP t n b) : OkP t n (extP t n a b) := by
 rcases (plainB_cases h).2 with ⟨rfl, hn⟩ | ⟨rfl, h0, h1⟩ | ⟨rfl, m, rfl, hm⟩ | ⟨rfl, m, rfl, hm⟩
 ·rcases okP_1 ha with rfl | rfl <;> rcases okP_1 hb with rfl | rfl <;> simp only [ext_zl, ext_zr, ext_1] <;> assumption
 ·rcases okP_2 ha with rfl | ⟨x, rfl, hx⟩
  ·rw [ext_zl]; exact .zero
  rcases okP_2 hb with rfl | ⟨y, rfl, hy⟩
  ·rw [ext_zr]; exact .zero
  rw [ext_2]; exact .cost _ rfl (by omega) (by omega)
 ·rcases okP_3 ha with rfl | ⟨g, xs, rfl, hx⟩
  ·rw [ext_zl]; exact .zero
  rcases okP_3 hb with rfl | ⟨g2, ys, rfl, hy⟩
  ·rw [ext_zr]; exact .zero
  rw [ext_3]; exact .facts m _ _ rfl rfl (hx.extT hy)
 ·rcases okP_4 ha with rfl | ⟨xs, rfl, hx⟩
  ·rw [ext_zl]; exact .zero
  rcases okP_4 hb with rfl | ⟨ys, rfl, hy⟩
  ·rw [ext_zr]; exact .zero
  rw [ext_4]; exact .cells m _ rfl rfl (val_then hx hy)
theorem extP_assoc (h : plainB t n l = true) (ha : OkP t n a) (hb : OkP t n b) (hc : OkP t n c) : extP t n (extP t n a b) c = extP t n a (extP t n b c) := by
 by_cases za : a = zeroP
 ·subst za; simp only [ext_zl]
 by_cases zb : b = zeroP
 ·subst zb; simp only [ext_zl, ext_zr]
 by_cases zc : c = zeroP
 ·subst zc; simp only [ext_zr]
 rcases (plainB_cases h).2 with ⟨rfl, hn⟩ | ⟨rfl, h0, h1⟩ | ⟨rfl, m, rfl, hm⟩ | ⟨rfl, m, rfl, hm⟩
 ·obtain rfl := (okP_1 ha).resolve_left za; obtain rfl := (okP_1 hb).resolve_left zb; obtain rfl := (okP_1 hc).resolve_left zc
  simp only [ext_1]
 ·obtain ⟨x, rfl, hx⟩ := (okP_2 ha).resolve_left za; obtain ⟨y, rfl, hy⟩ := (okP_2 hb).resolve_left zb; obtain ⟨w, rfl, hw⟩ := (okP_2 hc).resolve_left zc
  simp only [ext_2]; congr 1; omega
 ·obtain ⟨g, x, rfl, hx⟩ := (okP_3 ha).resolve_left za; obtain ⟨g2, y, rfl, hy⟩ := (okP_3 hb).resolve_left zb; obtain ⟨g3, w, rfl, hw⟩ := (okP_3 hc).resolve_left zc
  simp only [ext_3, (ring_then hx hy hw).1, (ring_then hx hy hw).2]
 ·obtain ⟨x, rfl, hx⟩ := (okP_4 ha).resolve_left za; obtain ⟨y, rfl, hy⟩ := (okP_4 hb).resolve_left zb; obtain ⟨w, rfl, hw⟩ := (okP_4 hc).resolve_left zc
  simp only [ext_4, then_assoc hx.oks hy.oks hw.oks]
theorem one_ext (h : plainB t n l = true) (ha : OkP t n a) : extP t n (oneP t n) a = a := by
 by_cases za : a = zeroP
 ·subst za; rw [ext_zr]
 rcases (plainB_cases h).2 with ⟨rfl, hn⟩ | ⟨rfl, h0, h1⟩ | ⟨rfl, m, rfl, hm⟩ | ⟨rfl, m, rfl, hm⟩
 ·obtain rfl := (okP_1 ha).resolve_left za
  rw [one_1, ext_1]
 ·obtain ⟨x, rfl, hx⟩ := (okP_2 ha).resolve_left za
  rw [one_2, ext_2]; congr 1; omega
 ·obtain ⟨g, x, rfl, hx⟩ := (okP_3 ha).resolve_left za
  rw [one_3, ext_3, (ring_oneL hx).1, (ring_oneL hx).2]
 ·obtain ⟨x, rfl, hx⟩ := (okP_4 ha).resolve_left za
  rw [one_4, ext_4, unit_then hx]
theorem ext_one (h : plainB t n l = true) (ha : OkP t n a) : extP t n a (oneP t n) = a := by
 by_cases za : a = zeroP
 ·subst za; rw [ext_zl]
 rcases (plainB_cases h).2 with ⟨rfl, hn⟩ | ⟨rfl, h0, h1⟩ | ⟨rfl, m, rfl, hm⟩ | ⟨rfl, m, rfl, hm⟩
 ·obtain rfl := (okP_1 ha).resolve_left za
  rw [one_1, ext_1]
 ·obtain ⟨x, rfl, hx⟩ := (okP_2 ha).resolve_left za
  rw [one_2, ext_2]; congr 1; omega
 ·obtain ⟨g, x, rfl, hx⟩ := (okP_3 ha).resolve_left za
  rw [one_3, ext_3, (ring_oneR hx).1, (ring_oneR hx).2]
 ·obtain ⟨x, rfl, hx⟩ := (okP_4 ha).resolve_left za
  rw [one_4, ext_4, then_unit hx]
end
inductive PS where
 | one (t n : Int)
 | two (t n u m : Int)
def PS.ok : PS → Prop
 | .one t n => plainB t n 0 = true
 | .two t n u m => plainB t n 0 = true ∧ plainB u m 0 = true
inductive PX where
 | one (a : PF)
 | two (a b : PF)
def OkX : PS → PX → Prop
 | .one t n, .one a => OkP t n a
 | .two t n u m, .two a b => OkP t n a ∧ OkP u m b
 | _, _ => False
def combX : PS → PX → PX → PX
 | .one t n, .one a, .one b => .one (combP t n a b)
 | .two t n u m, .two a b, .two c d => .two (combP t n a c) (combP u m b d)
 | _, x, _ => x
def extX : PS → PX → PX → PX
 | .one t n, .one a, .one b => .one (extP t n a b)
 | .two t n u m, .two a b, .two c d => .two (extP t n a c) (extP u m b d)
 | _, x, _ => x
def oneX : PS → PX
 | .one t n => .one (oneP t n)
 | .two t n u m => .two (oneP t n) (oneP u m)
def zeroX : PS → PX
 | .one _ _ => .one zeroP
 | .two _ _ _ _ => .two zeroP zeroP
section
variable {S : PS} {x y v : PX}
theorem one_okX (h : S.ok) : OkX S (oneX S) := by
 cases S with
 | one t n => exact one_okP h
 | two t n u m => exact ⟨one_okP h.1, one_okP h.2⟩
theorem ext_okX (h : S.ok) (hx : OkX S x) (hy : OkX S y) : OkX S (extX S x y) := by
 cases S <;> cases x <;> cases y <;> first | exact hx.elim | exact hy.elim | exact ext_okP h hx hy | exact ⟨ext_okP h.1 hx.1 hy.1, ext_okP h.2 hx.2 hy.2⟩
theorem extX_assoc (h : S.ok) (hx : OkX S x) (hy : OkX S y) (hv : OkX S v) : extX S (extX S x y) v = extX S x (extX S y v) := by
 cases S <;> cases x <;> cases y <;> cases v <;> first | exact hx.elim | exact hy.elim | exact hv.elim | exact congrArg PX.one (extP_assoc h hx hy hv) | (simp only [extX]; rw [extP_assoc h.1 hx.1 hy.1 hv.1, extP_assoc h.2 hx.2 hy.2 hv.2])
theorem oneX_ext (h : S.ok) (hx : OkX S x) : extX S (oneX S) x = x := by
 cases S <;> cases x <;> first | exact hx.elim | exact congrArg PX.one (one_ext h hx) | (simp only [extX, oneX]; rw [one_ext h.1 hx.1, one_ext h.2 hx.2])
theorem extX_one (h : S.ok) (hx : OkX S x) : extX S x (oneX S) = x := by
 cases S <;> cases x <;> first | exact hx.elim | exact congrArg PX.one (ext_one h hx) | (simp only [extX, oneX]; rw [ext_one h.1 hx.1, ext_one h.2 hx.2])
end
structure PIs (w : World) (t n : Int) (f : WF) (a : PF) : Prop where
 at_ : f.At w
 pf : f.pf = a
 ok : OkP t n a
 pl : f.pl = 0
theorem PIs.below {w w' : World} {t n : Int} {f : WF} {a : PF} (h : PIs w t n f a) (hb : Below w.heap.size w w') : PIs w' t n f a := ⟨h.at_.below hb, h.pf, h.ok, h.pl⟩
def XIs (w : World) : PS → WF → PX → Prop
 | .one t n, f, .one a => PIs w t n f a
 | .two t n u m, f, .two a b => f.pf = pC 0 ∧ f.rl = 0 ∧ f.cl = 0 ∧ f.pl = 2 ∧ ∃ blk off g h, f.pa = some ⟨blk, off, none⟩ ∧ W6 w blk off g ∧ W6 w blk (off + 6) h ∧ PIs w t n g a ∧ PIs w u m h b
 | _, _, _ => False
theorem XIs.below {w w' : World} {S : PS} {f : WF} {x : PX} (h : XIs w S f x) (hb : Below w.heap.size w w') : XIs w' S f x := by
 cases S <;> cases x <;> first | exact h.elim | exact PIs.below h hb | skip
 obtain ⟨h1, h2, h3, h4, blk, off, g, k, h5, h6, h7, h8, h9⟩ := h
 exact ⟨h1, h2, h3, h4, blk, off, g, k, h5, h6.below hb, h7.below hb, h8.below hb, h9.below hb⟩
theorem XIs.ok {w : World} {S : PS} {f : WF} {x : PX} (h : XIs w S f x) : OkX S x := by
 cases S <;> cases x <;> first | exact h.elim | exact PIs.ok h | skip
 obtain ⟨_, _, _, _, _, _, _, _, _, _, _, h8, h9⟩ := h
 exact ⟨h8.ok, h9.ok⟩
theorem PIs.of {w : World} {t n : Int} {f : WF} (hp : plainB t n 0 = true) (hf : f.At w) (h : pwOk t n f = true) : PIs w t n f f.pf := by
 have hrl := hf.rl; have hcl := hf.cl; have hg := hf.g64; have hr := hf.r64
 obtain ⟨z, c, g, ra, rl, rc, rows, ca, cl, cc, cells, pa, pl, pc⟩ := f
 dsimp only at hrl hcl hg hr
 subst hrl hcl
 simp only [pwOk, Bool.and_eq_true, Bool.or_eq_true, bareB, onlyB, decide_eq_true_eq, Bool.not_eq_true'] at h
 obtain ⟨⟨h1, h2, h3, h4⟩, h5⟩ := h
 have ht5 : t ≠ 5 := by rintro rfl; simp [plainB] at hp
 have hpl : pl = 0 := by
  rcases h4 with ⟨_, h4⟩ | h4
  ·exact absurd h4 ht5
  ·exact h4
 refine ⟨hf, rfl, ?_, hpl⟩
 show OkP t n ⟨z, c, g, rows, cells⟩
 cases z
 ·have h1' : t = 2 ∨ c = 0 := by simpa using h1
  have h2' : t = 3 ∨ (g = 0 ∧ rows.length = 0) := by simpa using h2
  have h3' : t = 4 ∨ cells.length = 0 := by simpa using h3
  simp only [Bool.false_eq_true, false_or] at h5
  rcases (plainB_cases hp).2 with ⟨rfl, hn⟩ | ⟨rfl, h0, h1⟩ | ⟨rfl, m, rfl, hm⟩ | ⟨rfl, m, rfl, hm⟩
  ·obtain rfl : c = 0 := by omega
   obtain ⟨rfl, hr0⟩ : g = 0 ∧ rows.length = 0 := by
    rcases h2' with h | h
    ·omega
    ·exact h
   obtain rfl := List.eq_nil_of_length_eq_zero hr0
   obtain rfl := List.eq_nil_of_length_eq_zero (h3'.resolve_left (by decide))
   exact .bool rfl
  ·obtain ⟨rfl, hr0⟩ := h2'.resolve_left (by decide)
   obtain rfl := List.eq_nil_of_length_eq_zero hr0
   obtain rfl := List.eq_nil_of_length_eq_zero (h3'.resolve_left (by decide))
   simp only [if_true, Bool.and_eq_true, decide_eq_true_eq] at h5
   exact .cost c rfl h5.1 h5.2
  ·obtain rfl : c = 0 := by omega
   obtain rfl := List.eq_nil_of_length_eq_zero (h3'.resolve_left (by decide))
   have h6 : checkE (m : Int) g rows = 0 := by simpa using h5
   obtain ⟨k, hk, hgood⟩ := check_good hg hr h6
   exact .facts k g rows rfl hk hgood
  ·obtain rfl : c = 0 := by omega
   obtain ⟨rfl, hr0⟩ := h2'.resolve_left (by decide)
   obtain rfl := List.eq_nil_of_length_eq_zero hr0
   have h6 : chkC (m : Int) cells = 0 := by simpa using h5
   obtain ⟨k, hk, hv⟩ := val_of h6
   exact .cells k cells rfl hk hv
 ·obtain rfl : c = 0 := by simpa using h1
  obtain ⟨rfl, hr0⟩ : g = 0 ∧ rows.length = 0 := by simpa using h2
  have hc0 : cells.length = 0 := by simpa using h3
  obtain rfl := List.eq_nil_of_length_eq_zero hr0
  obtain rfl := List.eq_nil_of_length_eq_zero hc0
  exact .zero
end Go.Proofs.YtfkbkekgnoanaaaDoor
namespace Go.Proofs.YtfkbkekgnoanaaaDoor
open Go.RowKit
def pairF (blk : Nat) : WF := ⟨false, 0, 0, none, 0, 0, [], none, 0, 0, [], some ⟨blk, 0, none⟩, 2, 2⟩
def zeroF : WF := ⟨true, 0, 0, none, 0, 0, [], none, 0, 0, [], none, 0, 0⟩
set_option maxHeartbeats 2000000 in
theorem pair_is (f g : WF) (w : World) :
  Calls Tryd.prog 75 #[f.val, g.val] w fun e w' => ∃ blk, e = .returned (pairF blk).val ∧ W6 w' blk 0 f ∧ W6 w' blk 6 g ∧ w.heap.size ≤ blk ∧ Below w.heap.size w w' := by
 obtain ⟨z, c, g0, ra, rl, rc, rows, ca, cl, cc, cells, pa, pl, pc⟩ := f
 obtain ⟨z2, c2, g2, ra2, rl2, rc2, rows2, ca2, cl2, cc2, cells2, pa2, pl2, pc2⟩ := g
 show Calls Tryd.prog 75 #[.agg #[.bool z, .int .i64 c, .int .u64 (g0 : Int), .slice ra rl rc, .slice ca cl cc, .slice pa pl pc], .agg #[.bool z2, .int .i64 c2, .int .u64 (g2 : Int), .slice ra2 rl2 rc2, .slice ca2 cl2 cc2, .slice pa2 pl2 pc2]] w _
 obtain ⟨W2, hW2⟩ : ∃ W, (w.alloc (.cells #[.bool z, .int .i64 c, .int .u64 (g0 : Int), .slice ra rl rc, .slice ca cl cc, .slice pa pl pc] 47)).alloc (.cells #[.bool z2, .int .i64 c2, .int .u64 (g2 : Int), .slice ra2 rl2 rc2, .slice ca2 cl2 cc2, .slice pa2 pl2 pc2] 47) = W := ⟨_, rfl⟩
 have hs2 : W2.heap.size = w.heap.size + 1 + 1 := by rw [← hW2]; simp
 have B2 : Below w.heap.size w W2 := by rw [← hW2]; exact wbox _ _ _ _ _
 obtain ⟨t0, t1⟩ := two_boxes2 W2 #[.bool false, .int .i64 0, .int .u64 0, .slice none 0 0, .slice none 0 0, .slice (some ⟨w.heap.size + 1 + 1 + 1, 0, none⟩) 2 2] #[.bool z, .int .i64 c, .int .u64 (g0 : Int), .slice ra rl rc, .slice ca cl cc, .slice pa pl pc, .bool z2, .int .i64 c2, .int .u64 (g2 : Int), .slice ra2 rl2 rc2, .slice ca2 cl2 cc2, .slice pa2 pl2 pc2] 47 47
 have B4 : Below w.heap.size w ((W2.alloc (.cells #[.bool false, .int .i64 0, .int .u64 0, .slice none 0 0, .slice none 0 0, .slice (some ⟨w.heap.size + 1 + 1 + 1, 0, none⟩) 2 2] 47)).alloc (.cells #[.bool z, .int .i64 c, .int .u64 (g0 : Int), .slice ra rl rc, .slice ca cl cc, .slice pa pl pc, .bool z2, .int .i64 c2, .int .u64 (g2 : Int), .slice ra2 rl2 rc2, .slice ca2 cl2 cc2, .slice pa2 pl2 pc2] 47)) := B2.trans ((wbox _ _ _ _ _).mono B2.size)
 rw [hs2] at t0 t1
 obtain ⟨s0, s1, s2, s3, s4, s5⟩ := six_cells t0
 have T1 := Lib.hid t1
 have HB4 := Lib.hid B4
 clear t0 t1 B2 B4 hs2
 subst hW2
 go_enter Tryd.func75, Tryd.ntmps75
 go_wp2_with fail
 refine bodyPost_ret (v := .agg #[.bool false, .int .i64 0, .int .u64 0, .slice none 0 0, .slice none 0 0, .slice (some ⟨w.heap.size + 1 + 1 + 1, 0, none⟩) 2 2]) ?_ rfl ?_
 rotate_left
 ·exact ⟨w.heap.size + 1 + 1 + 1, rfl, ⟨bcell T1.out rfl, bcell T1.out rfl, bcell T1.out rfl, bcell T1.out rfl, bcell T1.out rfl, bcell T1.out rfl⟩, ⟨bcell T1.out rfl, bcell T1.out rfl, bcell T1.out rfl, bcell T1.out rfl, bcell T1.out rfl, bcell T1.out rfl⟩, by omega, HB4.out⟩
 simp [results, Tryd.results75, go_sem, s0, s1, s2, s3, s4, s5]
set_option maxHeartbeats 2000000 in
theorem zeroA_plain (t n : Int) (a : Option Addr) (l c0 : Nat) (ht : t ≠ 5) (w : World) :
  Calls Tryd.prog 58 #[.agg #[.int .i64 t, .int .i64 n, .slice a l c0]] w fun e w' => e = .returned zeroF.val ∧ Below w.heap.size w w' := by
 have e5 : (t == 5) = false := by simp [ht]
 clear ht
 obtain ⟨t0, t1⟩ := two_boxes2 w #[.int .i64 t, .int .i64 n, .slice a l c0] #[.bool true, .int .i64 0, .int .u64 0, .slice none 0 0, .slice none 0 0, .slice none 0 0] 25 47
 obtain ⟨s0, s1, s2, s3, s4, s5⟩ := six_cells t1
 clear t0 t1
 go_enter Tryd.func58, Tryd.ntmps58
 go_wp2_with fail
 refine bodyPost_ret (v := .agg #[.bool true, .int .i64 0, .int .u64 0, .slice none 0 0, .slice none 0 0, .slice none 0 0]) ?_ rfl ⟨rfl, wbox _ _ _ _ _⟩
 simp [results, Tryd.results58, go_sem, s0, s1, s2, s3, s4, s5]
end Go.Proofs.YtfkbkekgnoanaaaDoor
namespace Go.Proofs.YtfkbkekgnoanaaaDoor
open Go.RowKit
theorem pl_pair {t n : Int} {l : Nat} (h : plainB t n l = true) : t ≠ 5 := by
 rintro rfl; simp [plainB] at h
set_option maxHeartbeats 2000000 in
theorem spaceR_is (d : Nat) (s : SV) (e0 : Int) (w : World) (hs : SIn w d s) (he : spaceE s = e0) :
  Calls Tryd.prog 24 #[s.f.val] w fun e w' => e = .returned (.int .i64 e0) ∧ Below w.heap.size w w' := by
 match d, s, hs with
 | d + 1, .mk ⟨t, n, a, l, c⟩ ps, hs =>
 show Calls Tryd.prog 24 #[.agg #[.int .i64 t, .int .i64 n, .slice a l c]] w _
 have hl : ps.length = l := hs.1
 by_cases ht : t = 5
 ·subst ht
  have hB := Lib.hid (sbox w #[.int .i64 5, .int .i64 n, .slice a l c] 25)
  have BX := Lib.hid (heapV_new w (.cells #[.int .i64 5, .int .i64 n, .slice a l c] 25))
  have hpl : plainB 5 n l = false := by simp [plainB]
  by_cases h0 : n = 0 ∧ l = 2
  ·obtain ⟨rfl, rfl⟩ := h0
   obtain ⟨p, q, rfl⟩ := two_of hl
   obtain ⟨_, b, off, ha, hb, hp, hq, _, _⟩ := hs.two
   obtain rfl : a = some ⟨b, off, none⟩ := ha
   obtain ⟨⟨pt, pn, pa, pl, pc⟩, pps⟩ := p
   obtain ⟨⟨qt, qn, qa, ql, qc⟩, qps⟩ := q
   have HP := Lib.hid (hp.below hB.out); have HQ := Lib.hid (hq.below hB.out)
   obtain ⟨r1, hr1⟩ : ∃ r, plainB pt pn pl = r := ⟨_, rfl⟩
   obtain ⟨r2, hr2⟩ : ∃ r, plainB qt qn ql = r := ⟨_, rfl⟩
   have HR1 := Lib.hid hr1; have HR2 := Lib.hid hr2
   have HE : Hid ((if r1 = true ∧ r2 = true then (0 : Int) else 50) = e0) := by
    show _ = _
    rw [← he]; simp [spaceE, hpl, SV.pl, SV.f, hr1, hr2]
   obtain ⟨W0, hW0⟩ : ∃ W, w.alloc (.cells #[.int .i64 5, .int .i64 0, .slice (some ⟨b, off, none⟩) 2 c] 25) = W := ⟨_, rfl⟩
   rw [hW0] at BX HP HQ hB
   clear hs hl hp hq hr1 hr2 he hpl
   have NX : ∀ W : World, Below W0.heap.size W0 W → Hid (W.cell? ⟨w.heap.size, 0, none⟩ = some (.int .i64 5) ∧ W.cell? ⟨w.heap.size, 1, none⟩ = some (.int .i64 0) ∧ W.cell? ⟨w.heap.size, 2, none⟩ = some (.slice (some ⟨b, off, none⟩) 2 c)) := fun _ h => tri_cells (heap_old BX.out h)
   have NNX := Lib.hid NX
   clear NX
   obtain ⟨z0, z1, z2⟩ := (NNX.out _ (Below.refl _ _)).out
   go_enter Tryd.func24, Tryd.ntmps24
   go_wp2_with fail
   clear z0 z1 z2
   go_loopw [3, 4] (fun o i wr => Below W0.heap.size W0 wr ∧ ((i = .int .i64 0 ∧ o = .bool true) ∨ (i = .int .i64 1 ∧ o = .bool r1) ∨ (i = .int .i64 2 ∧ r1 = true ∧ o = .bool r2))) (fun _ i _ => 2 - (intOf i).toNat)
   case atStart => exact ⟨Below.refl _ _, .inl ⟨rfl, rfl⟩⟩
   case round =>
    obtain ⟨hb1, hrel⟩ := hrel
    obtain ⟨x0, x1, x2⟩ := (NNX.out _ hb1).out
    obtain ⟨y0, y1, y2⟩ := HP.out.below hb1
    obtain ⟨v0, v1, v2⟩ := HQ.out.below hb1
    dsimp only [SV.f] at y0 y1 y2 v0 v1 v2
    simp only [Nat.add_assoc, Nat.reduceAdd] at v1 v2
    rcases hrel with ⟨rfl, rfl⟩ | ⟨rfl, rfl⟩ | ⟨rfl, hr, rfl⟩
    ·by_cases hp5 : pt = 5
     ·subst hp5
      have HF : Hid (r1 = false) := by show _ = _; rw [← HR1.out]; simp [plainB]
      go_wp2_with fail
      go_roundw
      case rel => exact ⟨hb1, .inr (.inl ⟨rfl, by rw [HF.out]⟩)⟩
      case measure => simp [intOf]
     ·have hp6 : (pt != 5) = true := by simp [hp5]
      go_wp2_with fail
      refine (spaceR_flat pt pn pa pl pc hp5 r1 HR1.out _).mono ?_
      rintro e w3 ⟨rfl, hb3⟩
      cases r1
      all_goals
       simp only [Bool.false_eq_true, if_false, if_true]
       go_wp2_with fail
       go_roundw
       case rel => exact ⟨hb1.trans (hb3.mono hb1.size), .inr (.inl ⟨rfl, rfl⟩)⟩
       case measure => simp [intOf]
    ·cases r1
     ·have HE2 : Hid ((50 : Int) = e0) := by show _ = _; rw [← HE.out]; simp
      go_wp2_with fail
      go_ret
      exact ⟨rint HE2.out, hB.out.trans (hb1.mono hB.out.size)⟩
     ·by_cases hp5 : qt = 5
      ·subst hp5
       have HF : Hid (r2 = false) := by show _ = _; rw [← HR2.out]; simp [plainB]
       go_wp2_with fail
       go_roundw
       case rel => exact ⟨hb1, .inr (.inr ⟨by first | rfl | trivial, by first | rfl | trivial, by first | rfl | (rw [HF.out])⟩)⟩
       case measure => simp [intOf]
      ·have hp6 : (qt != 5) = true := by simp [hp5]
       go_wp2_with fail
       refine (spaceR_flat qt qn qa ql qc hp5 r2 HR2.out _).mono ?_
       rintro e w3 ⟨rfl, hb3⟩
       cases r2
       all_goals
        simp only [Bool.false_eq_true, if_false, if_true]
        go_wp2_with fail
        go_roundw
        case rel => exact ⟨hb1.trans (hb3.mono hb1.size), .inr (.inr ⟨by first | rfl | trivial, by first | rfl | trivial, by first | rfl | trivial⟩)⟩
        case measure => simp [intOf]
    ·have HE2 : Hid ((if r2 = true then (0 : Int) else 50) = e0) := by show _ = _; rw [← HE.out, hr]; simp
     cases r2
     all_goals
      go_wp2_with fail
      go_ret
      exact ⟨rint HE2.out, hB.out.trans (hb1.mono hB.out.size)⟩
  ·have HE : Hid ((50 : Int) = e0) := by
    show _ = _
    rw [← he, spaceE, hpl, if_neg (by simp), if_neg]
    rintro ⟨_, h1, h2, _⟩
    exact h0 ⟨h1, by omega⟩
   obtain ⟨W0, hW0⟩ : ∃ W, w.alloc (.cells #[.int .i64 5, .int .i64 n, .slice a l c] 25) = W := ⟨_, rfl⟩
   rw [hW0] at BX hB
   obtain ⟨x0, x1, x2⟩ := tri_cells BX.out
   clear hs hl he hpl
   have hc : (n = 0 ∧ ((n == 0) = true) ∧ ((l : Int) == 2) = false) ∨ ((n == 0) = false) := by
    by_cases hn : n = 0
    ·exact .inl ⟨hn, by simp [hn], by simp; omega⟩
    ·exact .inr (by simp [hn])
   clear h0
   rcases hc with ⟨rfl, c1, c2⟩ | c1
   all_goals
    go_enter Tryd.func24, Tryd.ntmps24
    go_wp2_with fail
    go_loopw [3, 4] (fun o i wr => i = .int .i64 0 ∧ o = .bool false ∧ W0 = wr) (fun _ i _ => 0)
    case atStart => exact ⟨rfl, rfl, rfl⟩
    case round =>
     obtain ⟨rfl, rfl, rfl⟩ := hrel
     by_cases hl0 : 0 < l
     ·have g1 : (0 : Int) < (l : Int) := by omega
      go_wp2_with fail
      go_ret
      exact ⟨rint HE.out, hB.out⟩
     ·obtain rfl : l = 0 := by omega
      go_wp2_with fail
      go_ret
      exact ⟨rint HE.out, hB.out⟩
 ·obtain ⟨r, hr⟩ : ∃ r, plainB t n l = r := ⟨_, rfl⟩
  refine (spaceR_flat t n a l c ht r hr w).mono ?_
  rintro e w1 ⟨rfl, hb⟩
  refine ⟨?_, hb⟩
  rw [← he, spaceE_flat ht, hr]
end Go.Proofs.YtfkbkekgnoanaaaDoor
namespace Go.Proofs.YtfkbkekgnoanaaaDoor
open Go.RowKit
theorem six_frozen {w : World} {B : Nat} {cs : Array Value} {T : TypeId} (h : w.heap[B]? = some (.cells cs T (0, 0))) (j : Nat) : w.frozen? ⟨B, j, none⟩ = false := by
 unfold World.frozen?; simp [h]
theorem six_set {w : World} {B : Nat} {a b c d e f v0 v1 v2 v3 v4 v5 : Value} {T : TypeId} (h : w.heap[B]? = some (.cells #[a, b, c, d, e, f] T (0, 0))) :
  ((((((w.setCell ⟨B, 0, none⟩ v0).setCell ⟨B, 1, none⟩ v1).setCell ⟨B, 2, none⟩ v2).setCell ⟨B, 3, none⟩ v3).setCell ⟨B, 4, none⟩ v4).setCell ⟨B, 5, none⟩ v5).heap[B]? = some (.cells #[v0, v1, v2, v3, v4, v5] T (0, 0)) :=
 heap_setCell_same _ B 5 _ _ _ (heap_setCell_same _ B 4 _ _ _ (heap_setCell_same _ B 3 _ _ _ (heap_setCell_same _ B 2 _ _ _ (heap_setCell_same _ B 1 _ _ _ (heap_setCell_same w B 0 _ _ _ h)))))
theorem put6_below {n : Nat} {w0 w : World} {B : Nat} (v0 v1 v2 v3 v4 v5 : Value) (h : Below n w0 w) (hB : n ≤ B) :
  Below n w0 ((((((w.setCell ⟨B, 0, none⟩ v0).setCell ⟨B, 1, none⟩ v1).setCell ⟨B, 2, none⟩ v2).setCell ⟨B, 3, none⟩ v3).setCell ⟨B, 4, none⟩ v4).setCell ⟨B, 5, none⟩ v5) :=
 (((((h.setCell (p := ⟨B, 0, none⟩) hB _).setCell (p := ⟨B, 1, none⟩) hB _).setCell (p := ⟨B, 2, none⟩) hB _).setCell (p := ⟨B, 3, none⟩) hB _).setCell (p := ⟨B, 4, none⟩) hB _).setCell (p := ⟨B, 5, none⟩) hB _
def Above (n : Nat) (w w' : World) : Prop := ∀ k, n ≤ k → w'.heap[k]? = w.heap[k]?
theorem Above.refl (n : Nat) (w : World) : Above n w w := fun _ _ => rfl
theorem Above.setCell {n : Nat} {a w : World} (h : Above n a w) {p : Addr} (hp : p.block < n) (u : Value) : Above n a (w.setCell p u) := fun k hk => (Below.heap_setCell _ _ _ _ (by omega)).trans (h k hk)
theorem Above.cell {n : Nat} {w w' : World} (h : Above n w w') {p : Addr} (hp : n ≤ p.block) : w'.cell? p = w.cell? p := World.cell?_of_block (w := w) (h p.block hp)
theorem put6_above {n : Nat} {w0 w : World} {B : Nat} (v0 v1 v2 v3 v4 v5 : Value) (h : Above n w0 w) (hB : B < n) :
  Above n w0 ((((((w.setCell ⟨B, 0, none⟩ v0).setCell ⟨B, 1, none⟩ v1).setCell ⟨B, 2, none⟩ v2).setCell ⟨B, 3, none⟩ v3).setCell ⟨B, 4, none⟩ v4).setCell ⟨B, 5, none⟩ v5) :=
 (((((h.setCell (p := ⟨B, 0, none⟩) hB _).setCell (p := ⟨B, 1, none⟩) hB _).setCell (p := ⟨B, 2, none⟩) hB _).setCell (p := ⟨B, 3, none⟩) hB _).setCell (p := ⟨B, 4, none⟩) hB _).setCell (p := ⟨B, 5, none⟩) hB _
theorem VRow.above {w w' : World} {n : Nat} {a : Option Addr} {vs : List Value} (h : VRow w a vs) (hn : ∀ ad, a = some ad → n ≤ ad.block) (hb : Above n w w') : VRow w' a vs := by
 rcases h with h | ⟨b, off, rfl, hc⟩
 ·exact .inl h
 ·exact .inr ⟨b, off, rfl, fun i v hi => (hb.cell (p := ⟨b, off + i, none⟩) (hn ⟨b, off, none⟩ rfl)).trans (hc i v hi)⟩
theorem CRow.above {w w' : World} {n : Nat} {a : Option Addr} {cs : List Cl} (h : CRow w a cs) (hn : ∀ ad, a = some ad → n ≤ ad.block) (hb : Above n w w') : CRow w' a cs := by
 rcases h with h | ⟨b, off, rfl, hc⟩
 ·exact .inl h
 ·exact .inr ⟨b, off, rfl, fun i v hi => ⟨(hb.cell (p := ⟨b, off + i * 3, none⟩) (hn ⟨b, off, none⟩ rfl)).trans (hc i v hi).1, (hb.cell (p := ⟨b, off + i * 3 + 1, none⟩) (hn ⟨b, off, none⟩ rfl)).trans (hc i v hi).2.1, (hb.cell (p := ⟨b, off + i * 3 + 2, none⟩) (hn ⟨b, off, none⟩ rfl)).trans (hc i v hi).2.2⟩⟩
theorem W6.above {w w' : World} {n b o : Nat} {f : WF} (h : W6 w b o f) (hn : n ≤ b) (hb : Above n w w') : W6 w' b o f :=
 ⟨(hb.cell hn).trans h.1, (hb.cell hn).trans h.2.1, (hb.cell hn).trans h.2.2.1, (hb.cell hn).trans h.2.2.2.1, (hb.cell hn).trans h.2.2.2.2.1, (hb.cell hn).trans h.2.2.2.2.2⟩
structure PNew (n : Nat) (w : World) (t d : Int) (f : WF) (a : PF) : Prop where
 is : PIs w t d f a
 ra : ∀ ad, f.ra = some ad → n ≤ ad.block
 ca : ∀ ad, f.ca = some ad → n ≤ ad.block
theorem PNew.below {n : Nat} {w w' : World} {t d : Int} {f : WF} {a : PF} (h : PNew n w t d f a) (hb : Below w.heap.size w w') : PNew n w' t d f a := ⟨h.is.below hb, h.ra, h.ca⟩
theorem PNew.mono {n m : Nat} {w : World} {t d : Int} {f : WF} {a : PF} (h : PNew n w t d f a) (hm : m ≤ n) : PNew m w t d f a := ⟨h.is, fun ad e => Nat.le_trans hm (h.ra ad e), fun ad e => Nat.le_trans hm (h.ca ad e)⟩
def XNew (n : Nat) (w : World) : PS → WF → PX → Prop
 | .one t d, f, .one a => PNew n w t d f a
 | .two t d u m, f, .two a b => f.pf = pC 0 ∧ f.rl = 0 ∧ f.cl = 0 ∧ f.pl = 2 ∧ ∃ blk g h, f.pa = some ⟨blk, 0, none⟩ ∧ n ≤ blk ∧ W6 w blk 0 g ∧ W6 w blk 6 h ∧ PNew n w t d g a ∧ PNew n w u m h b
 | _, _, _ => False
theorem XNew.is {n : Nat} {w : World} {S : PS} {f : WF} {x : PX} (h : XNew n w S f x) : XIs w S f x := by
 cases S <;> cases x <;> first | exact h.elim | exact PNew.is h | skip
 obtain ⟨h1, h2, h3, h4, blk, g, k, h5, _, h6, h7, h8, h9⟩ := h
 exact ⟨h1, h2, h3, h4, blk, 0, g, k, h5, h6, by simpa using h7, h8.is, h9.is⟩
theorem XNew.below {n : Nat} {w w' : World} {S : PS} {f : WF} {x : PX} (h : XNew n w S f x) (hb : Below w.heap.size w w') : XNew n w' S f x := by
 cases S <;> cases x <;> first | exact h.elim | exact PNew.below h hb | skip
 obtain ⟨h1, h2, h3, h4, blk, g, k, h5, h0, h6, h7, h8, h9⟩ := h
 exact ⟨h1, h2, h3, h4, blk, g, k, h5, h0, h6.below hb, h7.below hb, h8.below hb, h9.below hb⟩
theorem XNew.mono {n m : Nat} {w : World} {S : PS} {f : WF} {x : PX} (h : XNew n w S f x) (hm : m ≤ n) : XNew m w S f x := by
 cases S <;> cases x <;> first | exact h.elim | exact PNew.mono h hm | skip
 obtain ⟨h1, h2, h3, h4, blk, g, k, h5, h0, h6, h7, h8, h9⟩ := h
 exact ⟨h1, h2, h3, h4, blk, g, k, h5, Nat.le_trans hm h0, h6, h7, h8.mono hm, h9.mono hm⟩
def WRet (S : PS) (x : PX) (w : World) (e : Ending) (w' : World) : Prop := ∃ f : WF, e = .returned f.val ∧ XNew w.heap.size w' S f x ∧ Below w.heap.size w w'
theorem zero_new (n : Nat) (w : World) (t d : Int) : PNew n w t d zeroF zeroP :=
 ⟨⟨⟨.inl rfl, rfl, by decide, (fun r hr => by cases hr), .inl rfl, rfl, (fun c hc => by cases hc), by decide⟩, rfl, .zero, rfl⟩, (fun ad e => by cases e), (fun ad e => by cases e)⟩
theorem pair_new {n : Nat} {w : World} {t d u m : Int} {blk : Nat} {g h : WF} {a b : PF} (h6 : W6 w blk 0 g) (h7 : W6 w blk 6 h) (hn : n ≤ blk) (ha : PNew n w t d g a) (hb : PNew n w u m h b) : XNew n w (.two t d u m) (pairF blk) (.two a b) :=
 ⟨rfl, rfl, rfl, rfl, blk, g, h, rfl, hn, h6, h7, ha, hb⟩
end Go.Proofs.YtfkbkekgnoanaaaDoor
namespace Go.Proofs.YtfkbkekgnoanaaaDoor
open Go.RowKit
theorem co_rint {k : IntKind} {a b : Int} (h : a = b) : Ending.returned (.int k a) = .returned (.int k b) := by rw [h]
def Row (w : World) (a : Option Addr) (zs : List Int) : Prop :=
 zs = [] ∨ ∃ b off, a = some ⟨b, off, none⟩ ∧ ∀ i, i < zs.length → w.cell? ⟨b, off + i, none⟩ = some (.int .i64 (zs.getD i 0))
def okc (limit c : Int) : Bool := decide (-1 ≤ c) && decide (c ≤ limit)
def chk (limit : Int) (zs : List Int) : Int := if limit < 0 ∨ 1048576 < limit then 20 else if zs.all (okc limit) then 0 else 21
def added (limit a b : Int) : Int := if a = -1 ∨ b = -1 then -1 else min (a + b) limit
theorem added_any (l a b : Int) (w : World) (hs : -9223372036854775808 ≤ a + b ∧ a + b ≤ 9223372036854775807) : Calls Tryd.prog 96 #[.int .i64 l, .int .i64 a, .int .i64 b] w fun e w' => e = .returned (.int .i64 (added l a b)) ∧ w = w' := by
 by_cases ha : a = -1
 ·have h1 : (a == -1) = true := by simp [ha]
  have e1 : added l a b = -1 := by simp [added, ha]
  have H := Lib.hid e1; clear e1 ha
  go_enter Tryd.func96, Tryd.ntmps96
  go_wp2
  go_ret
  exact ⟨co_rint H.out.symm, rfl⟩
 ·have h1 : (a == -1) = false := by simp [ha]
  by_cases hb : b = -1
  ·have h2 : (b == -1) = true := by simp [hb]
   have e1 : added l a b = -1 := by simp [added, ha, hb]
   have H := Lib.hid e1; clear e1 ha hb
   go_enter Tryd.func96, Tryd.ntmps96
   go_wp2
   go_ret
   exact ⟨co_rint H.out.symm, rfl⟩
  ·have h2 : (b == -1) = false := by simp [hb]
   have e1 : added l a b = min (a + b) l := by simp [added, ha, hb]
   have H := Lib.hid e1; clear e1 ha hb
   obtain ⟨hs1, hs2⟩ := hs
   go_enter Tryd.func96, Tryd.ntmps96
   go_wp2
   all_goals go_ret
   all_goals exact ⟨co_rint (by rw [H.out] <;> omega), rfl⟩
end Go.Proofs.YtfkbkekgnoanaaaDoor
namespace Go.Proofs.YtfkbkekgnoanaaaDoor
open Go.RowKit
theorem co_take_all_succ {p : Int → Bool} {zs : List Int} {k : Nat} {z : Int} (hk : k < zs.length) (hz : z = zs.getD k 0) (h : (zs.take k).all p = true) (hp : p z = true) : (zs.take (k + 1)).all p = true := by
 rw [List.take_succ_eq_append_getElem hk, List.all_append, h]
 have : zs.getD k 0 = zs[k] := by simp [List.getD, hk]
 rw [this] at hz
 simp [← hz, hp]
theorem co_all_false {p : Int → Bool} {zs : List Int} {k : Nat} {z : Int} (hk : k < zs.length) (hz : z = zs.getD k 0) (hp : p z = false) : zs.all p = false := by
 have : zs.getD k 0 = zs[k] := by simp [List.getD, hk]
 rw [this] at hz
 rw [List.all_eq_false]
 exact ⟨zs[k], List.getElem_mem hk, by rw [← hz, hp]; simp⟩
theorem chk_bad {limit : Int} {zs : List Int} {k : Nat} {z : Int} (h0 : 0 ≤ limit) (h1 : limit ≤ 1048576) (hk : k < zs.length) (hz : z = zs.getD k 0) (hp : okc limit z = false) : chk limit zs = 21 := by
 unfold chk; rw [if_neg (by omega), co_all_false hk hz hp]; rfl
theorem chk_good {limit : Int} {zs : List Int} {k : Nat} (h0 : 0 ≤ limit) (h1 : limit ≤ 1048576) (hk : zs.length ≤ k) (h : (zs.take k).all (okc limit) = true) : chk limit zs = 0 := by
 rw [List.take_of_length_le hk] at h
 unfold chk; rw [if_neg (by omega), h]; rfl
theorem okc_lo {l z : Int} (h : z < -1) : okc l z = false := by simp [okc]; omega
theorem okc_hi {l z : Int} (h : l < z) : okc l z = false := by simp [okc]; omega
theorem okc_in {l z : Int} (h : -1 ≤ z) (h2 : z ≤ l) : okc l z = true := by simp [okc]; omega
set_option maxHeartbeats 400000 in
theorem checkAll_any (limit : Int) (a : Option Addr) (cap : Nat) (zs : List Int) (w : World) (hm : zs.length ≤ maxLen) (hrow : Row w a zs) :
  Calls Tryd.prog 95 #[.int .i64 limit, .slice a zs.length cap] w fun e w' => e = .returned (.int .i64 (chk limit zs)) ∧ w = w' := by
 unfold maxLen at hm
 by_cases h0 : limit < 0
 ·have e1 : chk limit zs = 20 := by simp [chk, h0]
  have H := Lib.hid e1; clear e1
  go_enter Tryd.func95, Tryd.ntmps95
  go_wp2
  go_ret
  exact ⟨co_rint H.out.symm, rfl⟩
 by_cases h1 : 1048576 < limit
 ·have e1 : chk limit zs = 20 := by simp [chk, h1]
  have H := Lib.hid e1; clear e1
  go_enter Tryd.func95, Tryd.ntmps95
  go_wp2
  go_ret
  exact ⟨co_rint H.out.symm, rfl⟩
 have h0' : 0 ≤ limit := by omega
 have h1' : limit ≤ 1048576 := by omega
 clear h0 h1
 go_enter Tryd.func95, Tryd.ntmps95
 go_wp2
 go_loop [15] (fun i => ∃ k : Nat, k ≤ zs.length ∧ i = .int .i64 k ∧ Hid ((zs.take k).all (okc limit) = true)) (fun i => zs.length - (intOf i).toNat)
 case atStart => exact ⟨0, Nat.zero_le _, rfl, by simp [Hid]⟩
 case round =>
  obtain ⟨k, hk, rfl, HA⟩ := hrel
  by_cases hlt : k < zs.length
  ·rcases hrow with h | ⟨b, off, rfl, hc⟩
   ·subst h; simp at hlt
   have hck := hc k hlt
   obtain ⟨z, hz⟩ : ∃ z, z = zs.getD k 0 := ⟨_, rfl⟩
   rw [← hz] at hck
   have HZ := Lib.hid hz; clear hz hc
   by_cases h2 : z < -1
   ·have H := Lib.hid (chk_bad h0' h1' hlt HZ.out (okc_lo h2))
    go_wp2
    go_ret
    exact ⟨co_rint H.out.symm, rfl⟩
   by_cases h3 : limit < z
   ·have H := Lib.hid (chk_bad h0' h1' hlt HZ.out (okc_hi h3))
    go_wp2
    go_ret
    exact ⟨co_rint H.out.symm, rfl⟩
   have H := Lib.hid (co_take_all_succ hlt HZ.out HA.out (okc_in (by omega) (by omega)))
   have h2' : -1 ≤ z := by omega
   have h3' : z ≤ limit := by omega
   clear h2 h3
   go_wp2
   go_round
   case rel => exact ⟨k + 1, by omega, by go_num, H⟩
   case measure => simp [intOf]; omega
  ·have H := Lib.hid (chk_good h0' h1' (by omega) HA.out)
   go_wp2
   go_ret
   exact ⟨co_rint H.out.symm, rfl⟩
end Go.Proofs.YtfkbkekgnoanaaaDoor
namespace Go.Proofs.YtfkbkekgnoanaaaDoor
open Go.RowKit
def sumOf (limit : Int) (zs : List Int) : Int := zs.foldl (added limit) 0
def sumR (limit : Int) (zs : List Int) : Int := if chk limit zs = 0 then sumOf limit zs else 0
theorem chk_zero {limit : Int} {zs : List Int} (h : chk limit zs = 0) : 0 ≤ limit ∧ limit ≤ 1048576 ∧ zs.all (okc limit) = true := by
 unfold chk at h
 split at h
 ·omega
 ·cases hz : zs.all (okc limit) <;> rw [hz] at h <;> simp at h
  exact ⟨by omega, by omega, rfl⟩
theorem take_snoc {zs : List Int} {k : Nat} {z : Int} (hk : k < zs.length) (hz : z = zs.getD k 0) : zs.take (k + 1) = zs.take k ++ [z] := by
 rw [List.take_succ_eq_append_getElem hk]
 have : zs.getD k 0 = zs[k] := by simp [List.getD, hk]
 rw [hz, this]
theorem fold_snoc {f : Int → Int → Int} {s : Int} {zs : List Int} {k : Nat} {z : Int} (hk : k < zs.length) (hz : z = zs.getD k 0) : (zs.take (k + 1)).foldl f s = f ((zs.take k).foldl f s) z := by
 rw [take_snoc hk hz, List.foldl_append]; rfl
theorem okc_get {limit : Int} {zs : List Int} {k : Nat} {z : Int} (h : zs.all (okc limit) = true) (hk : k < zs.length) (hz : z = zs.getD k 0) : -1 ≤ z ∧ z ≤ limit := by
 have e : zs.getD k 0 = zs[k] := by simp [List.getD, hk]
 rw [List.all_eq_true] at h
 have := h z (by rw [hz, e]; exact List.getElem_mem hk)
 simp [okc] at this; exact this
theorem added_ok {l a b : Int} (hl : 0 ≤ l) (ha : -1 ≤ a) (ha2 : a ≤ l) (hb : -1 ≤ b) (hb2 : b ≤ l) : -1 ≤ added l a b ∧ added l a b ≤ l := by
 unfold added; split <;> omega
theorem rtwo {k k2 : IntKind} {a b c d : Int} (h : a = b) (h2 : c = d) : Ending.returned (.tuple #[.int k a, .int k2 c]) = .returned (.tuple #[.int k b, .int k2 d]) := by rw [h, h2]
set_option maxHeartbeats 400000 in
theorem sum_any (limit : Int) (a : Option Addr) (cap : Nat) (zs : List Int) (w : World) (hm : zs.length ≤ maxLen) (hrow : Row w a zs) :
  Calls Tryd.prog 81 #[.int .i64 limit, .slice a zs.length cap] w fun e w' => e = .returned (.tuple #[.int .i64 (sumR limit zs), .int .i64 (chk limit zs)]) ∧ w = w' := by
 have HM := Lib.hid hm
 unfold maxLen at hm
 by_cases hc0 : chk limit zs = 0
 ·obtain ⟨hl0, hl1, hall⟩ := chk_zero hc0
  have e1 : sumR limit zs = sumOf limit zs := by simp [sumR, hc0]
  have H1 := Lib.hid e1
  have H0 := Lib.hid hc0
  have HALL := Lib.hid hall
  have HROW := Lib.hid hrow
  clear e1 hc0 hall hrow
  go_enter Tryd.func81, Tryd.ntmps81
  go_wp2_with (go_at_call 95; refine (checkAll_any _ _ _ _ _ HM.out HROW.out).mono ?_; rintro e w' ⟨rfl, rfl⟩; rw [H0.out])
  go_loop [7, 18] (fun m i => ∃ k : Nat, k ≤ zs.length ∧ i = .int .i64 k ∧ ∃ s : Int, m = .int .i64 s ∧ -1 ≤ s ∧ s ≤ limit ∧ Hid (s = (zs.take k).foldl (added limit) 0)) (fun _ i => zs.length - (intOf i).toNat)
  case atStart => exact ⟨0, Nat.zero_le _, rfl, _, rfl, by omega, by omega, by simp [Hid]⟩
  case round =>
   obtain ⟨k, hk, rfl, s, rfl, hs1, hs2, HS⟩ := hrel
   by_cases hlt : k < zs.length
   ·rcases HROW.out with h | ⟨b, off, rfl, hc⟩
    ·subst h; simp at hlt
    have hck := hc k hlt
    obtain ⟨z, hz⟩ : ∃ z, z = zs.getD k 0 := ⟨_, rfl⟩
    rw [← hz] at hck
    obtain ⟨hz1, hz2⟩ := okc_get HALL.out hlt hz
    have hs' : -1 ≤ added limit s z ∧ added limit s z ≤ limit := added_ok hl0 hs1 hs2 hz1 hz2
    have HZ := Lib.hid hz; clear hz hc HROW
    go_wp2_with (go_at_call 96; refine (added_any _ _ _ _ ⟨by omega, by omega⟩).mono ?_; rintro e w' ⟨rfl, rfl⟩)
    go_round
    case rel => exact ⟨k + 1, by omega, by go_num, _, rfl, hs'.1, hs'.2, by rw [HS.out]; exact (fold_snoc hlt HZ.out).symm⟩
    case measure => simp [intOf]; omega
   ·have HE : Hid (s = sumR limit zs) := by rw [H1.out, HS.out, List.take_of_length_le (by omega)]; rfl
    have HROW2 := HROW
    clear HROW
    go_wp2
    go_ret2
    exact ⟨rtwo HE.out H0.out.symm, rfl⟩
 ·have e1 : sumR limit zs = 0 := by simp [sumR, hc0]
  have H1 := Lib.hid e1
  have HROW := Lib.hid hrow
  have hne : (chk limit zs != 0) = true := by simpa using hc0
  obtain ⟨c, hcc⟩ : ∃ c, c = chk limit zs := ⟨_, rfl⟩
  rw [← hcc] at hne
  have HC := Lib.hid hcc
  clear e1 hc0 hrow hcc
  go_enter Tryd.func81, Tryd.ntmps81
  go_wp2_with (go_at_call 95; refine (checkAll_any _ _ _ _ _ HM.out HROW.out).mono ?_; rintro e w' ⟨rfl, rfl⟩; rw [← HC.out])
  go_ret2
  exact ⟨rtwo H1.out.symm HC.out, rfl⟩
end Go.Proofs.YtfkbkekgnoanaaaDoor
namespace Go.Proofs.YtfkbkekgnoanaaaDoor
open Go.RowKit
theorem co_cell_lt {w : World} {a : Addr} {v : Value} (h : w.cell? a = some v) : a.block < w.heap.size := by
 rcases Nat.lt_or_ge a.block w.heap.size with h' | h'
 ·exact h'
 ·simp [World.cell?, Array.getElem?_eq_none h'] at h
theorem Row.below {w w' : World} {a : Option Addr} {zs : List Int} (h : Row w a zs) (hb : Below w.heap.size w w') : Row w' a zs := by
 rcases h with h | ⟨b, off, rfl, hc⟩
 ·exact .inl h
 ·refine .inr ⟨b, off, rfl, fun i hi => ?_⟩
  have h1 := hc i hi
  rw [hb.cell]
  ·exact h1
  ·exact co_cell_lt h1
end Go.Proofs.YtfkbkekgnoanaaaDoor
namespace Go.Proofs.YtfkbkekgnoanaaaDoor
open Go.RowKit
theorem Row.take {w : World} {a : Option Addr} {zs : List Int} (h : Row w a zs) (n : Nat) : Row w a (zs.take n) := by
 rcases h with h | ⟨b, off, rfl, hc⟩
 ·exact .inl (by simp [h])
 ·refine .inr ⟨b, off, rfl, fun i hi => ?_⟩
  simp only [List.length_take] at hi
  have := hc i (by omega)
  rw [this]
  simp [List.getD, show i < n by omega]
end Go.Proofs.YtfkbkekgnoanaaaDoor
namespace Go.Proofs.YtfkbkekgnoanaaaDoor
open Go.RowKit
theorem sum_two {limit a b : Int} (h : chk limit [a, b] = 0) : sumR limit [a, b] = added limit a b := by
 have h2 := (chk_zero h).2.2
 simp [okc] at h2
 have h3 : added limit 0 a = a := by unfold added; split <;> omega
 simp [sumR, h, sumOf, h3]
theorem chk2_iff {limit a b : Int} : chk limit [a, b] = 0 ↔ (0 ≤ limit ∧ limit ≤ 1048576 ∧ (-1 ≤ a ∧ a ≤ limit) ∧ (-1 ≤ b ∧ b ≤ limit)) := by
 constructor
 ·intro h
  have := chk_zero h
  simp [okc] at this
  omega
 ·intro h
  have : [a, b].all (okc limit) = true := by simp [okc]; omega
  simp only [chk, this]
  rw [if_neg (by omega)]; rfl
end Go.Proofs.YtfkbkekgnoanaaaDoor
