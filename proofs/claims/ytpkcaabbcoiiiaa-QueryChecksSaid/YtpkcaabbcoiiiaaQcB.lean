import Derived.Orders
import Derived.Below
import Derived.Deep.RegionHeld
import Derived.WalkKit
import Derived.KernelRfl
import Derived.Laws.Rows
import Derived.Laws.AppendOwn
import Derived.Laws.Strings
import Derived.Laws.Small
import Derived.Lib.Hide
import Derived.IntWalk
import Derived.Laws.Tables
import Derived.Laws.Concat
import Derived.Laws.MakeOwn
import Derived.Test.YtpkcaabbcoiiiaaProg
import Derived.Lib.TrailingZeros
import Derived.Test.YtpkcaabbcoiiiaaRows
import Derived.Lib.LaidTab
import Derived.Lib.ItoaNum
import Derived.Stop.LaidErr
import Derived.WalkSmall
import Derived.LaidMore
import Derived.Shelf.Spec.TrailingZeros
import Derived.Laws.BitsAllLaws
import Derived.Laws.Bits64
import Derived.Deep.QuietTactic
import Derived.BigQuiet
import Derived.RegionTactic
import Derived.BigRegion
import Derived.Deep.RegionHeld3
import Derived.ChangeAlike
import Derived.Laws.Bits128
import Derived.Deep.AppendLies
import Derived.Sort.Grow
import Derived.RangeFuncNested
import Derived.RangeFuncBound
import Derived.RangeFuncCalls
import Derived.RangeFuncLeaves
import Derived.Shelf.Abstract
import Derived.Shelf.RegionOpen
import Derived.OwnWalkIn
import Derived.TacticsInMore
import Derived.LoopNIn
import Derived.LoopIn
import Derived.Maps.AppendAt
import Derived.Ground.Names2Prog
import Derived.Shelf.Slices.Clone
import Derived.Lib.OthersKept
import Derived.Laws.IdiomStrings
import Derived.StillTailTactics
import Derived.Deep.RegionLaw
import Derived.Deep.DeepCutAuto
import Derived.Deep.CutRange
import Derived.Deep.RegionWith
import Derived.Laws.Bits64b
import Derived.Deep.DrawnRows
import Derived.Lib.SliceRun
import Derived.Laws.OwnMore
import Derived.OwnWalk
import Derived.WalkSpells
import Derived.Lib.Join
import Derived.Test.YtpkcaabbcoiiiaaQcA
set_option maxRecDepth 100000
set_option maxHeartbeats 4000000
set_option linter.unusedVariables false
set_option linter.unusedVariables false
set_option linter.unusedSimpArgs false
set_option linter.unusedSectionVars false
set_option linter.unnecessarySimpa false
namespace Go.Proofs.Ytpkcaabbcoiiiaa
open Go.RowKit
attribute [local go_sem ↓] Go.wp_at_zero Go.wp_at_succ
theorem isA_plainY (t n : Int) (a : Option Addr) (l c0 : Nat) (f : WF) (hp : plainB t n l = true) (hs : 0 ≤ f.rl) (w : World) (hf : f.At w) (r : Bool) (hr : pwOk t n f = r) :
  Calls Try.prog 100 #[.agg #[.int .i64 t, .int .i64 n, .slice a l c0], f.val] w fun e w' => e = .returned (.bool r) ∧ Below w.heap.size w w' := by
 have HF0 := Lib.hid hf; have HS := Lib.hid hs
 obtain ⟨z, c, g, ra, rl, rc, rows, ca, cl, cc, cells, pa, pl, pc⟩ := f
 show Calls Try.prog 100 #[.agg #[.int .i64 t, .int .i64 n, .slice a l c0], .agg #[.bool z, .int .i64 c, .int .u64 (g : Int), .slice ra rl rc, .slice ca cl cc, .slice pa pl pc]] w _
 obtain ⟨bb, hbb⟩ : ∃ b, bareB t ⟨z, c, g, ra, rl, rc, rows, ca, cl, cc, cells, pa, pl, pc⟩ = b := ⟨_, rfl⟩
 have HBB := Lib.hid hbb
 have hB := Lib.hid (wbox w #[.int .i64 t, .int .i64 n, .slice a l c0] #[.bool z, .int .i64 c, .int .u64 (g : Int), .slice ra rl rc, .slice ca cl cc, .slice pa pl pc] 25 45)
 obtain ⟨t0, t1⟩ := two_boxes2 w #[.int .i64 t, .int .i64 n, .slice a l c0] #[.bool z, .int .i64 c, .int .u64 (g : Int), .slice ra rl rc, .slice ca cl cc, .slice pa pl pc] 25 45
 have T0 := Lib.hid t0; have T1 := Lib.hid t1
 obtain ⟨W0, hW0⟩ : ∃ W, (w.alloc (.cells #[.int .i64 t, .int .i64 n, .slice a l c0] 25)).alloc (.cells #[.bool z, .int .i64 c, .int .u64 (g : Int), .slice ra rl rc, .slice ca cl cc, .slice pa pl pc] 45) = W := ⟨_, rfl⟩
 rw [hW0] at hB T0 T1
 obtain ⟨x0, x1, x2⟩ := tri_cells T0.out
 obtain ⟨y0, y1, y2, y3, y4, y5⟩ := six_cells T1.out
 have ht := (plainB_tag hp).2
 clear hf hs t0 t1 hbb hp
 cases bb
 ·have HR : Hid (false = r) := by show _ = _; rw [← hr, pwOk, HBB.out]; rfl
  clear hr ht
  go_enter Try.func100, Try.ntmps100
  go_wp2_with fail
  refine (bare_is t n a l c0 ⟨z, c, g, ra, rl, rc, rows, ca, cl, cc, cells, pa, pl, pc⟩ false HBB.out _).mono ?_
  rintro e w1 ⟨rfl, hb1⟩
  go_wp2
  go_ret
  exact ⟨rbool HR.out, hB.out.trans (hb1.mono hB.out.size)⟩
 have HX : Hid (∀ W : World, Below W0.heap.size W0 W → Hid ((W.cell? ⟨w.heap.size, 0, none⟩ = some (.int .i64 t) ∧ W.cell? ⟨w.heap.size, 1, none⟩ = some (.int .i64 n) ∧ W.cell? ⟨w.heap.size, 2, none⟩ = some (.slice a l c0)) ∧ (W.cell? ⟨w.heap.size + 1, 0, none⟩ = some (.bool z) ∧ W.cell? ⟨w.heap.size + 1, 1, none⟩ = some (.int .i64 c) ∧ W.cell? ⟨w.heap.size + 1, 2, none⟩ = some (.int .u64 (g : Int)) ∧ W.cell? ⟨w.heap.size + 1, 3, none⟩ = some (.slice ra rl rc) ∧ W.cell? ⟨w.heap.size + 1, 4, none⟩ = some (.slice ca cl cc) ∧ W.cell? ⟨w.heap.size + 1, 5, none⟩ = some (.slice pa pl pc)))) := fun W h => ⟨tri_cells (heap_old T0.out h), six_cells (heap_old T1.out h)⟩
 have HR : Hid ((z || (if t = 2 then decide (0 ≤ c) && decide (c ≤ n) else if t = 3 then decide (checkE n g rows = 0) else if t = 4 then decide (chkC n cells = 0) else true)) = r) := by show _ = _; rw [← hr, pwOk, HBB.out]; rfl
 have he5 : (t == 5) = false := by simp; omega
 clear hr T0 T1
 cases z
 ·rcases ht with rfl | rfl | rfl | rfl
  ·have HR2 : Hid (true = r) := by show _ = _; rw [← HR.out]; simp
   go_enter Try.func100, Try.ntmps100
   go_wp2_with fail
   refine (bare_is _ n a l c0 ⟨false, c, g, ra, rl, rc, rows, ca, cl, cc, cells, pa, pl, pc⟩ true HBB.out _).mono ?_
   rintro e w1 ⟨rfl, hb1⟩
   obtain ⟨⟨p0, p1, p2⟩, q0, q1, q2, q3, q4, q5⟩ := (HX.out _ hb1).out
   go_wp2_with fail
   go_ret
   exact ⟨rbool HR2.out, hB.out.trans (hb1.mono hB.out.size)⟩
  ·by_cases hc0 : 0 ≤ c
   ·have HR2 : Hid (decide (c ≤ n) = r) := by show _ = _; rw [← HR.out]; simp [hc0]
    go_enter Try.func100, Try.ntmps100
    go_wp2_with fail
    refine (bare_is _ n a l c0 ⟨false, c, g, ra, rl, rc, rows, ca, cl, cc, cells, pa, pl, pc⟩ true HBB.out _).mono ?_
    rintro e w1 ⟨rfl, hb1⟩
    obtain ⟨⟨p0, p1, p2⟩, q0, q1, q2, q3, q4, q5⟩ := (HX.out _ hb1).out
    go_wp2_with fail
    go_ret
    exact ⟨rbool HR2.out, hB.out.trans (hb1.mono hB.out.size)⟩
   ·have HR3 : Hid (false = r) := by show _ = _; rw [← HR.out]; simp [hc0]
    go_enter Try.func100, Try.ntmps100
    go_wp2_with fail
    refine (bare_is _ n a l c0 ⟨false, c, g, ra, rl, rc, rows, ca, cl, cc, cells, pa, pl, pc⟩ true HBB.out _).mono ?_
    rintro e w1 ⟨rfl, hb1⟩
    obtain ⟨⟨p0, p1, p2⟩, q0, q1, q2, q3, q4, q5⟩ := (HX.out _ hb1).out
    go_wp2_with fail
    go_ret
    exact ⟨rbool HR3.out, hB.out.trans (hb1.mono hB.out.size)⟩
  ·obtain ⟨ck, hck⟩ : ∃ k, checkE n g rows = k := ⟨_, rfl⟩
   have HCK := Lib.hid hck
   have HR3 : Hid ((ck == 0) = r) := by show _ = _; rw [← HR.out, hck, int_eq0]; simp
   clear hck
   go_enter Try.func100, Try.ntmps100
   go_wp2_with fail
   refine (bare_is _ n a l c0 ⟨false, c, g, ra, rl, rc, rows, ca, cl, cc, cells, pa, pl, pc⟩ true HBB.out _).mono ?_
   rintro e w1 ⟨rfl, hb1⟩
   obtain ⟨⟨p0, p1, p2⟩, q0, q1, q2, q3, q4, q5⟩ := (HX.out _ hb1).out
   have hB1 := hB.out.trans (hb1.mono hB.out.size)
   go_wp2_with fail
   refine (checkA_any n ra rc g rows _ (HF0.out.below hB1) ck HCK.out rl HF0.out.rl).mono ?_
   rintro e w2 ⟨rfl, hb2⟩
   go_wp2_with fail
   go_ret
   exact ⟨rbool HR3.out, hB1.trans (hb2.mono hB1.size)⟩
  ·obtain ⟨ck, hck⟩ : ∃ k, chkC n cells = k := ⟨_, rfl⟩
   have HCK := Lib.hid hck
   have HR3 : Hid ((ck == 0) = r) := by show _ = _; rw [← HR.out, hck, int_eq0]; simp
   clear hck
   go_enter Try.func100, Try.ntmps100
   go_wp2_with fail
   refine (bare_is _ n a l c0 ⟨false, c, g, ra, rl, rc, rows, ca, cl, cc, cells, pa, pl, pc⟩ true HBB.out _).mono ?_
   rintro e w1 ⟨rfl, hb1⟩
   obtain ⟨⟨p0, p1, p2⟩, q0, q1, q2, q3, q4, q5⟩ := (HX.out _ hb1).out
   have hB1 := hB.out.trans (hb1.mono hB.out.size)
   go_wp2_with fail
   refine (check_is n ca cl cc cells _ ck HF0.out.cl (by rw [HF0.out.cl]; exact HF0.out.cmax) (HF0.out.below hB1).cells HF0.out.bits HCK.out).mono ?_
   rintro e w2 ⟨rfl, hb2⟩
   go_wp2_with fail
   go_ret
   exact ⟨rbool HR3.out, hB1.trans (hb2.mono hB1.size)⟩
 ·have HR2 : Hid (true = r) := by show _ = _; rw [← HR.out]; rfl
  clear HR ht
  go_enter Try.func100, Try.ntmps100
  go_wp2_with fail
  refine (bare_is _ n a l c0 ⟨true, c, g, ra, rl, rc, rows, ca, cl, cc, cells, pa, pl, pc⟩ true HBB.out _).mono ?_
  rintro e w1 ⟨rfl, hb1⟩
  obtain ⟨⟨p0, p1, p2⟩, q0, q1, q2, q3, q4, q5⟩ := (HX.out _ hb1).out
  go_wp2_with fail
  go_ret
  exact ⟨rbool HR2.out, hB.out.trans (hb1.mono hB.out.size)⟩
set_option maxHeartbeats 8000000 in
theorem isA_pairY (d : Nat) (sa : Option Addr) (sc : Nat) (p q : SV) (g : WF) (qs : List WV) (w : World) (hsp : SIn w (d + 1) (.mk ⟨5, 0, sa, 2, sc⟩ [p, q])) (hp : p.pl = true) (hq : q.pl = true) (e : Nat) (hw : WIn w (e + 1) (.mk g qs)) (hs : ∀ x ∈ qs, 0 ≤ x.f.rl) (r : Bool) (hr : pairOk p q g qs = r) :
  Calls Try.prog 100 #[.agg #[.int .i64 5, .int .i64 0, .slice sa 2 sc], g.val] w fun e w' => e = .returned (.bool r) ∧ Below w.heap.size w w' := by
 obtain ⟨_, b, off, ha, hb, hp3, hq3, _, _⟩ := hsp.two
 obtain rfl : sa = some ⟨b, off, none⟩ := ha
 obtain ⟨⟨pt, pn, pa, pl, pc⟩, pps⟩ := p
 obtain ⟨⟨qt, qn, qa, ql, qc⟩, qps⟩ := q
 have HP : Hid (plainB pt pn pl = true) := hp; have HQ : Hid (plainB qt qn ql = true) := hq; have HP3 := Lib.hid hp3; have HQ3 := Lib.hid hq3
 obtain ⟨gz, gc, gg, gra, grl, grc, grows, gca, gcl, gcc, gcells, gpa, gpl, gpc⟩ := g
 show Calls Try.prog 100 #[.agg #[.int .i64 5, .int .i64 0, .slice (some ⟨b, off, none⟩) 2 sc], .agg #[.bool gz, .int .i64 gc, .int .u64 (gg : Int), .slice gra grl grc, .slice gca gcl gcc, .slice gpa gpl gpc]] w _
 have hgl : qs.length = gpl := hw.2.1
 obtain ⟨bb, hbb⟩ : ∃ b, bareB 5 ⟨gz, gc, gg, gra, grl, grc, grows, gca, gcl, gcc, gcells, gpa, gpl, gpc⟩ = b := ⟨_, rfl⟩
 have HBB := Lib.hid hbb
 have hB := Lib.hid (wbox w #[.int .i64 5, .int .i64 0, .slice (some ⟨b, off, none⟩) 2 sc] #[.bool gz, .int .i64 gc, .int .u64 (gg : Int), .slice gra grl grc, .slice gca gcl gcc, .slice gpa gpl gpc] 25 45)
 obtain ⟨t0, t1⟩ := two_boxes2 w #[.int .i64 5, .int .i64 0, .slice (some ⟨b, off, none⟩) 2 sc] #[.bool gz, .int .i64 gc, .int .u64 (gg : Int), .slice gra grl grc, .slice gca gcl gcc, .slice gpa gpl gpc] 25 45
 have T0 := Lib.hid t0; have T1 := Lib.hid t1
 obtain ⟨W0, hW0⟩ : ∃ W, (w.alloc (.cells #[.int .i64 5, .int .i64 0, .slice (some ⟨b, off, none⟩) 2 sc] 25)).alloc (.cells #[.bool gz, .int .i64 gc, .int .u64 (gg : Int), .slice gra grl grc, .slice gca gcl gcc, .slice gpa gpl gpc] 45) = W := ⟨_, rfl⟩
 rw [hW0] at hB T0 T1
 obtain ⟨x0, x1, x2⟩ := tri_cells T0.out
 obtain ⟨y0, y1, y2, y3, y4, y5⟩ := six_cells T1.out
 have HR := Lib.hid hr
 cases bb
 ·have HF : Hid (false = r) := by show _ = _; rw [← HR.out, pairOk, HBB.out]; rfl
  clear hr hbb hsp hw hs hp hq hp3 hq3
  go_enter Try.func100, Try.ntmps100
  go_wp2_with fail
  refine (bare_is 5 0 _ 2 sc ⟨gz, gc, gg, gra, grl, grc, grows, gca, gcl, gcc, gcells, gpa, gpl, gpc⟩ false HBB.out _).mono ?_
  rintro e w1 ⟨rfl, hb1⟩
  go_wp2_with fail
  go_ret
  exact ⟨rbool HF.out, hB.out.trans (hb1.mono hB.out.size)⟩
 cases gz
 rotate_left
 ·have hzz := True.intro
  have HF : Hid (false = r) := by show _ = _; rw [← HR.out, pairOk]; simp
  clear hr hbb hsp hw hs hp hq hp3 hq3
  go_enter Try.func100, Try.ntmps100
  go_wp2_with fail
  refine (bare_is 5 0 _ 2 sc ⟨true, gc, gg, gra, grl, grc, grows, gca, gcl, gcc, gcells, gpa, gpl, gpc⟩ true HBB.out _).mono ?_
  rintro e w1 ⟨rfl, hb1⟩
  have hB1 := hB.out.trans (hb1.mono hB.out.size)
  have EN : Hid (∀ W : World, Below w1.heap.size w1 W → W.cell? ⟨w.heap.size, 0, none⟩ = some (.int .i64 5) ∧ W.cell? ⟨w.heap.size, 1, none⟩ = some (.int .i64 0) ∧ W.cell? ⟨w.heap.size, 2, none⟩ = some (.slice (some ⟨b, off, none⟩) 2 sc) ∧ W.cell? ⟨w.heap.size + 1, 0, none⟩ = some (.bool true) ∧ W.cell? ⟨w.heap.size + 1, 1, none⟩ = some (.int .i64 gc) ∧ W.cell? ⟨w.heap.size + 1, 2, none⟩ = some (.int .u64 (gg : Int)) ∧ W.cell? ⟨w.heap.size + 1, 3, none⟩ = some (.slice gra grl grc) ∧ W.cell? ⟨w.heap.size + 1, 4, none⟩ = some (.slice gca gcl gcc) ∧ W.cell? ⟨w.heap.size + 1, 5, none⟩ = some (.slice gpa gpl gpc)) := fun W h => by obtain ⟨a0, a1, a2⟩ := tri_cells (heap_old (heap_old T0.out hb1) h); obtain ⟨c0, c1, c2, c3, c4, c5⟩ := six_cells (heap_old (heap_old T1.out hb1) h); exact ⟨a0, a1, a2, c0, c1, c2, c3, c4, c5⟩
  clear x0 x1 x2 y0 y1 y2 y3 y4 y5
  obtain ⟨m0, m1, m2, m3, m4, m5, m6, m7, m8⟩ := EN.out _ (Below.refl _ _)
  go_wp2_with fail
  go_region
  all_goals (go_wp2_with fail; go_ret; exact ⟨rbool HF.out, by first | exact hB1 | exact hB1.drew⟩)
 by_cases hl2 : gpl = 2
 rotate_left
 ·have hne : ((gpl : Int) == 2) = false := by simp; omega
  have HF : Hid (false = r) := by show _ = _; rw [← HR.out, pairOk, decide_eq_false (by omega)]; simp
  clear hr hbb hsp hw hs hp hq hp3 hq3
  go_enter Try.func100, Try.ntmps100
  go_wp2_with fail
  refine (bare_is 5 0 _ 2 sc ⟨false, gc, gg, gra, grl, grc, grows, gca, gcl, gcc, gcells, gpa, gpl, gpc⟩ true HBB.out _).mono ?_
  rintro e w1 ⟨rfl, hb1⟩
  have hB1 := hB.out.trans (hb1.mono hB.out.size)
  have EN : Hid (∀ W : World, Below w1.heap.size w1 W → W.cell? ⟨w.heap.size, 0, none⟩ = some (.int .i64 5) ∧ W.cell? ⟨w.heap.size, 1, none⟩ = some (.int .i64 0) ∧ W.cell? ⟨w.heap.size, 2, none⟩ = some (.slice (some ⟨b, off, none⟩) 2 sc) ∧ W.cell? ⟨w.heap.size + 1, 0, none⟩ = some (.bool false) ∧ W.cell? ⟨w.heap.size + 1, 1, none⟩ = some (.int .i64 gc) ∧ W.cell? ⟨w.heap.size + 1, 2, none⟩ = some (.int .u64 (gg : Int)) ∧ W.cell? ⟨w.heap.size + 1, 3, none⟩ = some (.slice gra grl grc) ∧ W.cell? ⟨w.heap.size + 1, 4, none⟩ = some (.slice gca gcl gcc) ∧ W.cell? ⟨w.heap.size + 1, 5, none⟩ = some (.slice gpa gpl gpc)) := fun W h => by obtain ⟨a0, a1, a2⟩ := tri_cells (heap_old (heap_old T0.out hb1) h); obtain ⟨c0, c1, c2, c3, c4, c5⟩ := six_cells (heap_old (heap_old T1.out hb1) h); exact ⟨a0, a1, a2, c0, c1, c2, c3, c4, c5⟩
  clear x0 x1 x2 y0 y1 y2 y3 y4 y5
  obtain ⟨m0, m1, m2, m3, m4, m5, m6, m7, m8⟩ := EN.out _ (Below.refl _ _)
  go_wp2_with fail
  go_region
  all_goals (go_wp2_with fail; go_ret; exact ⟨rbool HF.out, by first | exact hB1 | exact hB1.drew⟩)
 subst hl2
 obtain ⟨x, y, rfl⟩ := two_of hgl
 obtain ⟨_, b2, of2, ha2, hb2l, hx6, hy6, hxi, hyi⟩ := hw.two
 dsimp only at ha2
 subst ha2
 have XA := Lib.hid hxi.at_; have YA := Lib.hid hyi.at_
 have XS := Lib.hid (hs x (by simp)); have YS := Lib.hid (hs y (by simp))
 obtain ⟨⟨xz, xc, xg, xra, xrl, xrc, xrows, xca, xcl, xcc, xcells, xpa, xpl, xpc⟩, xps⟩ := x
 obtain ⟨⟨yz, yc, yg, yra, yrl, yrc, yrows, yca, ycl, ycc, ycells, ypa, ypl, ypc⟩, yps⟩ := y
 have HX6 := Lib.hid hx6; have HY6 := Lib.hid hy6
 have XSS : Hid (0 ≤ xrl) := XS.out; have YSS : Hid (0 ≤ yrl) := YS.out
 have XAA : Hid (WF.At w ⟨xz, xc, xg, xra, xrl, xrc, xrows, xca, xcl, xcc, xcells, xpa, xpl, xpc⟩) := XA.out; have YAA : Hid (WF.At w ⟨yz, yc, yg, yra, yrl, yrc, yrows, yca, ycl, ycc, ycells, ypa, ypl, ypc⟩) := YA.out
 clear XS YS XA YA
 obtain ⟨r1, hr1⟩ : ∃ o, pwOk pt pn ⟨xz, xc, xg, xra, xrl, xrc, xrows, xca, xcl, xcc, xcells, xpa, xpl, xpc⟩ = o := ⟨_, rfl⟩
 obtain ⟨r2, hr2⟩ : ∃ o, pwOk qt qn ⟨yz, yc, yg, yra, yrl, yrc, yrows, yca, ycl, ycc, ycells, ypa, ypl, ypc⟩ = o := ⟨_, rfl⟩
 have HR1 := Lib.hid hr1; have HR2 := Lib.hid hr2
 have HRR : Hid ((r1 && r2) = r) := by show _ = _; rw [← HR.out, pairOk, HBB.out]; simp [pwAt, SV.f, WV.f, hr1, hr2]
 clear hr hbb hsp hw hs hp hq hp3 hq3 hx6 hy6 hxi hyi hr1 hr2 hgl HR
 cases r1
 ·have HF : Hid (false = r) := by show _ = _; rw [← HRR.out]; simp
  go_enter Try.func100, Try.ntmps100
  go_wp2_with fail
  refine (bare_is 5 0 _ 2 sc ⟨false, gc, gg, gra, grl, grc, grows, gca, gcl, gcc, gcells, (some ⟨b2, of2, none⟩), 2, gpc⟩ true HBB.out _).mono ?_
  rintro e w1 ⟨rfl, hb1⟩
  have hB1 := hB.out.trans (hb1.mono hB.out.size)
  have EN : Hid (∀ W : World, Below w1.heap.size w1 W → W.cell? ⟨w.heap.size, 0, none⟩ = some (.int .i64 5) ∧ W.cell? ⟨w.heap.size, 1, none⟩ = some (.int .i64 0) ∧ W.cell? ⟨w.heap.size, 2, none⟩ = some (.slice (some ⟨b, off, none⟩) 2 sc) ∧ W.cell? ⟨w.heap.size + 1, 0, none⟩ = some (.bool false) ∧ W.cell? ⟨w.heap.size + 1, 1, none⟩ = some (.int .i64 gc) ∧ W.cell? ⟨w.heap.size + 1, 2, none⟩ = some (.int .u64 (gg : Int)) ∧ W.cell? ⟨w.heap.size + 1, 3, none⟩ = some (.slice gra grl grc) ∧ W.cell? ⟨w.heap.size + 1, 4, none⟩ = some (.slice gca gcl gcc) ∧ W.cell? ⟨w.heap.size + 1, 5, none⟩ = some (.slice (some ⟨b2, of2, none⟩) 2 gpc) ∧ W.cell? ⟨b, off, none⟩ = some (.int .i64 pt) ∧ W.cell? ⟨b, off + 1, none⟩ = some (.int .i64 pn) ∧ W.cell? ⟨b, off + 2, none⟩ = some (.slice pa pl pc) ∧ W.cell? ⟨b, off + 3, none⟩ = some (.int .i64 qt) ∧ W.cell? ⟨b, off + 4, none⟩ = some (.int .i64 qn) ∧ W.cell? ⟨b, off + 5, none⟩ = some (.slice qa ql qc) ∧ W.cell? ⟨b2, of2, none⟩ = some (.bool xz) ∧ W.cell? ⟨b2, of2 + 1, none⟩ = some (.int .i64 xc) ∧ W.cell? ⟨b2, of2 + 2, none⟩ = some (.int .u64 (xg : Int)) ∧ W.cell? ⟨b2, of2 + 3, none⟩ = some (.slice xra xrl xrc) ∧ W.cell? ⟨b2, of2 + 4, none⟩ = some (.slice xca xcl xcc) ∧ W.cell? ⟨b2, of2 + 5, none⟩ = some (.slice xpa xpl xpc) ∧ W.cell? ⟨b2, of2 + 6, none⟩ = some (.bool yz) ∧ W.cell? ⟨b2, of2 + 7, none⟩ = some (.int .i64 yc) ∧ W.cell? ⟨b2, of2 + 8, none⟩ = some (.int .u64 (yg : Int)) ∧ W.cell? ⟨b2, of2 + 9, none⟩ = some (.slice yra yrl yrc) ∧ W.cell? ⟨b2, of2 + 10, none⟩ = some (.slice yca ycl ycc) ∧ W.cell? ⟨b2, of2 + 11, none⟩ = some (.slice ypa ypl ypc)) := fun W h => by
   obtain ⟨a0, a1, a2⟩ := tri_cells (heap_old (heap_old T0.out hb1) h); obtain ⟨c0, c1, c2, c3, c4, c5⟩ := six_cells (heap_old (heap_old T1.out hb1) h)
   have hww : Below w.heap.size w W := hB1.trans (h.mono hB1.size)
   obtain ⟨d0, d1, d2⟩ := HP3.out.below hww; obtain ⟨e0, e1, e2⟩ := HQ3.out.below hww; obtain ⟨f0, f1, f2, f3, f4, f5⟩ := HX6.out.below hww; obtain ⟨g0, g1, g2, g3, g4, g5⟩ := HY6.out.below hww
   exact ⟨a0, a1, a2, c0, c1, c2, c3, c4, c5, d0, d1, d2, e0, e1, e2, f0, f1, f2, f3, f4, f5, g0, g1, g2, g3, g4, g5⟩
  clear x0 x1 x2 y0 y1 y2 y3 y4 y5
  obtain ⟨m0, m1, m2, m3, m4, m5, m6, m7, m8, m9, m10, m11, m12, m13, m14, m15, m16, m17, m18, m19, m20, m21, m22, m23, m24, m25, m26⟩ := EN.out _ (Below.refl _ _)
  have D0 : Hid (Below w1.heap.size w1 w1.drew) := (Below.refl _ _).drew
  go_wp2_with fail
  refine wp_region_held_drew (S := (fun w' => w'.cell? ⟨w.heap.size, 0, none⟩ = some (.int .i64 5) ∧ w'.cell? ⟨w.heap.size, 1, none⟩ = some (.int .i64 0) ∧ w'.cell? ⟨w.heap.size, 2, none⟩ = some (.slice (some ⟨b, off, none⟩) 2 sc) ∧ w'.cell? ⟨w.heap.size + 1, 0, none⟩ = some (.bool false) ∧ w'.cell? ⟨w.heap.size + 1, 1, none⟩ = some (.int .i64 gc) ∧ w'.cell? ⟨w.heap.size + 1, 2, none⟩ = some (.int .u64 (gg : Int)) ∧ w'.cell? ⟨w.heap.size + 1, 3, none⟩ = some (.slice gra grl grc) ∧ w'.cell? ⟨w.heap.size + 1, 4, none⟩ = some (.slice gca gcl gcc) ∧ w'.cell? ⟨w.heap.size + 1, 5, none⟩ = some (.slice (some ⟨b2, of2, none⟩) 2 gpc) ∧ w'.cell? ⟨b, off, none⟩ = some (.int .i64 pt) ∧ w'.cell? ⟨b, off + 1, none⟩ = some (.int .i64 pn) ∧ w'.cell? ⟨b, off + 2, none⟩ = some (.slice pa pl pc) ∧ w'.cell? ⟨b, off + 3, none⟩ = some (.int .i64 qt) ∧ w'.cell? ⟨b, off + 4, none⟩ = some (.int .i64 qn) ∧ w'.cell? ⟨b, off + 5, none⟩ = some (.slice qa ql qc) ∧ w'.cell? ⟨b2, of2, none⟩ = some (.bool xz) ∧ w'.cell? ⟨b2, of2 + 1, none⟩ = some (.int .i64 xc) ∧ w'.cell? ⟨b2, of2 + 2, none⟩ = some (.int .u64 (xg : Int)) ∧ w'.cell? ⟨b2, of2 + 3, none⟩ = some (.slice xra xrl xrc) ∧ w'.cell? ⟨b2, of2 + 4, none⟩ = some (.slice xca xcl xcc) ∧ w'.cell? ⟨b2, of2 + 5, none⟩ = some (.slice xpa xpl xpc) ∧ w'.cell? ⟨b2, of2 + 6, none⟩ = some (.bool yz) ∧ w'.cell? ⟨b2, of2 + 7, none⟩ = some (.int .i64 yc) ∧ w'.cell? ⟨b2, of2 + 8, none⟩ = some (.int .u64 (yg : Int)) ∧ w'.cell? ⟨b2, of2 + 9, none⟩ = some (.slice yra yrl yrc) ∧ w'.cell? ⟨b2, of2 + 10, none⟩ = some (.slice yca ycl ycc) ∧ w'.cell? ⟨b2, of2 + 11, none⟩ = some (.slice ypa ypl ypc))) (by kernel_rfl) (by with_reducible exact EN.out _ D0.out) (fun hHeld => ?_)
  refine wpAnyH_take (i := 0) (oi := { dst := some 12, op := Op.fieldAddr 45 (Operand.tmp 3) 0, type := 0, pos := "weight.go:68", after := #[], guard := none }) (v := ?v0x1) rfl (by kernel_rfl) (by kernel_rfl) (by kernel_rfl) (fun _ _ _ h => h) (Or.inl ⟨by rfl, ?hy0x1⟩) (by assumption) ?rest0x1
  case hy0x1 => (intro w hSw; (try dsimp only at hSw); go_simp; try with_reducible rfl)
  try simp only [Act.put, List.setIfInBounds_toArray, List.set_cons_zero, List.set_cons_succ]
  refine wpAnyH_take (i := 1) (oi := { dst := some 13, op := Op.load 4 (Operand.tmp 12), type := 4, pos := "weight.go:68", after := #[{ on := 0, ground := Ground.data }], guard := none }) (v := ?v1x1) rfl (by kernel_rfl) (by kernel_rfl) (by kernel_rfl) (fun _ _ _ h => h) (Or.inl ⟨by rfl, ?hy1x1⟩) (by assumption) ?rest1x1
  case hy1x1 => (intro w hSw; (try dsimp only at hSw); go_simp; try with_reducible rfl)
  try simp only [Act.put, List.setIfInBounds_toArray, List.set_cons_zero, List.set_cons_succ]
  refine wpAnyH_take (i := 2) (oi := { dst := some 14, op := Op.unOp UnOp.not 4 (Operand.tmp 13), type := 4, pos := "weight.go:68", after := #[{ on := 1, ground := Ground.data }], guard := none }) (v := ?v2x1) rfl (by kernel_rfl) (by kernel_rfl) (by kernel_rfl) (fun _ _ _ h => h) (Or.inl ⟨by rfl, ?hy2x1⟩) (by assumption) ?rest2x1
  case hy2x1 => (intro w hSw; (try dsimp only at hSw); go_simp; try with_reducible rfl)
  try simp only [Act.put, List.setIfInBounds_toArray, List.set_cons_zero, List.set_cons_succ]
  refine wpAnyH_take (i := 3) (oi := { dst := some 15, op := Op.move (Operand.tmp 14), type := 4, pos := "weight.go:68", after := #[{ on := 2, ground := Ground.data }], guard := none }) (v := ?v3x1) rfl (by kernel_rfl) (by kernel_rfl) (by kernel_rfl) (fun _ _ _ h => h) (Or.inl ⟨by rfl, ?hy3x1⟩) (by assumption) ?rest3x1
  case hy3x1 => (intro w hSw; (try dsimp only at hSw); go_simp; try with_reducible rfl)
  try simp only [Act.put, List.setIfInBounds_toArray, List.set_cons_zero, List.set_cons_succ]
  refine wpAnyH_take (i := 4) (oi := { dst := some 16, op := Op.fieldAddr 45 (Operand.tmp 3) 4, type := 0, pos := "weight.go:68", after := #[{ on := 3, ground := Ground.guard }], guard := some (3, true) }) (v := ?v4x1) rfl (by kernel_rfl) (by kernel_rfl) (by kernel_rfl) (fun _ _ _ h => h) (Or.inl ⟨by rfl, ?hy4x1⟩) (by assumption) ?rest4x1
  case hy4x1 => (intro w hSw; (try dsimp only at hSw); go_simp; try with_reducible rfl)
  try simp only [Act.put, List.setIfInBounds_toArray, List.set_cons_zero, List.set_cons_succ]
  refine wpAnyH_take (i := 5) (oi := { dst := some 17, op := Op.load 43 (Operand.tmp 16), type := 43, pos := "weight.go:68", after := #[{ on := 4, ground := Ground.data }, { on := 3, ground := Ground.guard }], guard := some (3, true) }) (v := ?v5x1) rfl (by kernel_rfl) (by kernel_rfl) (by kernel_rfl) (fun _ _ _ h => h) (Or.inl ⟨by rfl, ?hy5x1⟩) (by assumption) ?rest5x1
  case hy5x1 => (intro w hSw; (try dsimp only at hSw); go_simp; try with_reducible rfl)
  try simp only [Act.put, List.setIfInBounds_toArray, List.set_cons_zero, List.set_cons_succ]
  refine wpAnyH_take (i := 6) (oi := { dst := some 18, op := Op.call { callee := Callee.builtin Builtin.len, args := #[Operand.tmp 17], argTypes := #[43] }, type := 3, pos := "weight.go:68", after := #[{ on := 5, ground := Ground.data }, { on := 3, ground := Ground.guard }], guard := some (3, true) }) (v := ?v6x1) rfl (by kernel_rfl) (by kernel_rfl) (by kernel_rfl) (fun _ _ _ h => h) (Or.inl ⟨by rfl, ?hy6x1⟩) (by assumption) ?rest6x1
  case hy6x1 => (intro w hSw; (try dsimp only at hSw); go_simp; try with_reducible rfl)
  try simp only [Act.put, List.setIfInBounds_toArray, List.set_cons_zero, List.set_cons_succ]
  refine wpAnyH_take (i := 7) (oi := { dst := some 19, op := Op.binOp BinOp.eql 3 (Operand.tmp 18) (Operand.const (Value.int IntKind.i64 2)) 3, type := 4, pos := "weight.go:68", after := #[{ on := 6, ground := Ground.data }, { on := 3, ground := Ground.guard }], guard := some (3, true) }) (v := ?v7x1) rfl (by kernel_rfl) (by kernel_rfl) (by kernel_rfl) (fun _ _ _ h => h) (Or.inl ⟨by rfl, ?hy7x1⟩) (by assumption) ?rest7x1
  case hy7x1 => (intro w hSw; (try dsimp only at hSw); go_simp; try with_reducible rfl)
  try simp only [Act.put, List.setIfInBounds_toArray, List.set_cons_zero, List.set_cons_succ]
  refine wpAnyH_take (i := 8) (oi := { dst := some 20, op := Op.pick (Operand.tmp 15) (Operand.tmp 19) (Operand.const (Value.bool false)), type := 4, pos := "weight.go:68", after := #[{ on := 3, ground := Ground.data }, { on := 7, ground := Ground.data }], guard := none }) (v := ?v8x1) rfl (by kernel_rfl) (by kernel_rfl) (by kernel_rfl) (fun _ _ _ h => h) (Or.inl ⟨by rfl, ?hy8x1⟩) (by assumption) ?rest8x1
  case hy8x1 => (intro w hSw; (try dsimp only at hSw); go_simp; try with_reducible rfl)
  try simp only [Act.put, List.setIfInBounds_toArray, List.set_cons_zero, List.set_cons_succ]
  refine wpAnyH_take (i := 9) (oi := { dst := some 21, op := Op.move (Operand.tmp 20), type := 4, pos := "weight.go:68", after := #[{ on := 8, ground := Ground.data }, { on := 3, ground := Ground.chain }], guard := none }) (v := ?v9x1) rfl (by kernel_rfl) (by kernel_rfl) (by kernel_rfl) (fun _ _ _ h => h) (Or.inl ⟨by rfl, ?hy9x1⟩) (by assumption) ?rest9x1
  case hy9x1 => (intro w hSw; (try dsimp only at hSw); go_simp; try with_reducible rfl)
  try simp only [Act.put, List.setIfInBounds_toArray, List.set_cons_zero, List.set_cons_succ]
  refine wpAnyH_take (i := 10) (oi := { dst := some 22, op := Op.fieldAddr 25 (Operand.tmp 2) 2, type := 0, pos := "weight.go:68", after := #[{ on := 9, ground := Ground.guard }], guard := some (9, true) }) (v := ?v10x1) rfl (by kernel_rfl) (by kernel_rfl) (by kernel_rfl) (fun _ _ _ h => h) (Or.inl ⟨by rfl, ?hy10x1⟩) (by assumption) ?rest10x1
  case hy10x1 => (intro w hSw; (try dsimp only at hSw); go_simp; try with_reducible rfl)
  try simp only [Act.put, List.setIfInBounds_toArray, List.set_cons_zero, List.set_cons_succ]
  refine wpAnyH_take (i := 11) (oi := { dst := some 23, op := Op.load 23 (Operand.tmp 22), type := 23, pos := "weight.go:68", after := #[{ on := 10, ground := Ground.data }, { on := 9, ground := Ground.guard }], guard := some (9, true) }) (v := ?v11x1) rfl (by kernel_rfl) (by kernel_rfl) (by kernel_rfl) (fun _ _ _ h => h) (Or.inl ⟨by rfl, ?hy11x1⟩) (by assumption) ?rest11x1
  case hy11x1 => (intro w hSw; (try dsimp only at hSw); go_simp; try with_reducible rfl)
  try simp only [Act.put, List.setIfInBounds_toArray, List.set_cons_zero, List.set_cons_succ]
  refine wpAnyH_take (i := 12) (oi := { dst := some 24, op := Op.indexAddr 23 (Operand.tmp 23) (Operand.const (Value.int IntKind.i64 0)), type := 0, pos := "weight.go:68", after := #[{ on := 11, ground := Ground.data }, { on := 9, ground := Ground.guard }], guard := some (9, true) }) (v := ?v12x1) rfl (by kernel_rfl) (by kernel_rfl) (by kernel_rfl) (fun _ _ _ h => h) (Or.inl ⟨by rfl, ?hy12x1⟩) (by assumption) ?rest12x1
  case hy12x1 => (intro w hSw; (try dsimp only at hSw); go_simp; try with_reducible rfl)
  try simp only [Act.put, List.setIfInBounds_toArray, List.set_cons_zero, List.set_cons_succ]
  refine wpAnyH_take (i := 13) (oi := { dst := some 25, op := Op.load 25 (Operand.tmp 24), type := 25, pos := "weight.go:68", after := #[{ on := 12, ground := Ground.data }, { on := 9, ground := Ground.guard }], guard := some (9, true) }) (v := ?v13x1) rfl (by kernel_rfl) (by kernel_rfl) (by kernel_rfl) (fun _ _ _ h => h) (Or.inl ⟨by rfl, ?hy13x1⟩) (by assumption) ?rest13x1
  case hy13x1 => (intro w hSw; (try dsimp only at hSw); go_simp; try with_reducible rfl)
  try simp only [Act.put, List.setIfInBounds_toArray, List.set_cons_zero, List.set_cons_succ]
  refine wpAnyH_take (i := 14) (oi := { dst := some 26, op := Op.fieldAddr 45 (Operand.tmp 3) 4, type := 0, pos := "weight.go:68", after := #[{ on := 9, ground := Ground.guard }], guard := some (9, true) }) (v := ?v14x1) rfl (by kernel_rfl) (by kernel_rfl) (by kernel_rfl) (fun _ _ _ h => h) (Or.inl ⟨by rfl, ?hy14x1⟩) (by assumption) ?rest14x1
  case hy14x1 => (intro w hSw; (try dsimp only at hSw); go_simp; try with_reducible rfl)
  try simp only [Act.put, List.setIfInBounds_toArray, List.set_cons_zero, List.set_cons_succ]
  refine wpAnyH_take (i := 15) (oi := { dst := some 27, op := Op.load 43 (Operand.tmp 26), type := 43, pos := "weight.go:68", after := #[{ on := 14, ground := Ground.data }, { on := 9, ground := Ground.guard }], guard := some (9, true) }) (v := ?v15x1) rfl (by kernel_rfl) (by kernel_rfl) (by kernel_rfl) (fun _ _ _ h => h) (Or.inl ⟨by rfl, ?hy15x1⟩) (by assumption) ?rest15x1
  case hy15x1 => (intro w hSw; (try dsimp only at hSw); go_simp; try with_reducible rfl)
  try simp only [Act.put, List.setIfInBounds_toArray, List.set_cons_zero, List.set_cons_succ]
  refine wpAnyH_take (i := 16) (oi := { dst := some 28, op := Op.indexAddr 43 (Operand.tmp 27) (Operand.const (Value.int IntKind.i64 0)), type := 0, pos := "weight.go:68", after := #[{ on := 15, ground := Ground.data }, { on := 9, ground := Ground.guard }], guard := some (9, true) }) (v := ?v16x1) rfl (by kernel_rfl) (by kernel_rfl) (by kernel_rfl) (fun _ _ _ h => h) (Or.inl ⟨by rfl, ?hy16x1⟩) (by assumption) ?rest16x1
  case hy16x1 => (intro w hSw; (try dsimp only at hSw); go_simp; try with_reducible rfl)
  try simp only [Act.put, List.setIfInBounds_toArray, List.set_cons_zero, List.set_cons_succ]
  refine wpAnyH_take (i := 17) (oi := { dst := some 29, op := Op.load 45 (Operand.tmp 28), type := 45, pos := "weight.go:68", after := #[{ on := 16, ground := Ground.data }, { on := 9, ground := Ground.guard }], guard := some (9, true) }) (v := ?v17x1) rfl (by kernel_rfl) (by kernel_rfl) (by kernel_rfl) (fun _ _ _ h => h) (Or.inl ⟨by rfl, ?hy17x1⟩) (by assumption) ?rest17x1
  case hy17x1 => (intro w hSw; (try dsimp only at hSw); go_simp; try with_reducible rfl)
  try simp only [Act.put, List.setIfInBounds_toArray, List.set_cons_zero, List.set_cons_succ]
  refine wpAnyH_ready (rs := [18]) (by kernel_rfl) (by simp) (AllReadyH.cons (o := { dst := some 30, op := Op.call { callee := Callee.value (Operand.func 100), args := #[Operand.tmp 25, Operand.tmp 29], argTypes := #[25, 45] }, type := 4, pos := "weight.go:68", after := #[{ on := 13, ground := Ground.data }, { on := 17, ground := Ground.data }, { on := 9, ground := Ground.chain }, { on := 9, ground := Ground.guard }], guard := some (9, true) }) rfl (fun K hK => ?_) AllReadyH.nil)
  go_simp
  go_at_call 100
  with_reducible refine (isA_plainY pt pn pa pl pc ⟨xz, xc, xg, xra, xrl, xrc, xrows, xca, xcl, xcc, xcells, xpa, xpl, xpc⟩ HP.out XSS.out _ (XAA.out.below (hB1.trans ((D0.out).mono hB1.size))) false HR1.out).mono ?_
  rintro e z1 ⟨rfl, hz1⟩
  have D1 : Hid (Below w1.heap.size w1 z1) := Lib.hid (D0.out.trans (hz1.mono D0.out.size))
  dsimp only
  refine hK.out _ _ (by with_reducible exact EN.out _ D1.out) (fun hHeld1 => ?_)
  clear hK K
  try simp only [Act.put, List.setIfInBounds_toArray, List.set_cons_zero, List.set_cons_succ]
  refine wpAnyH_take (i := 19) (oi := { dst := some 31, op := Op.pick (Operand.tmp 21) (Operand.tmp 30) (Operand.const (Value.bool false)), type := 4, pos := "weight.go:68", after := #[{ on := 9, ground := Ground.data }, { on := 18, ground := Ground.data }], guard := none }) (v := ?v19x1) rfl (by kernel_rfl) (by kernel_rfl) (by kernel_rfl) (fun _ _ _ h => h) (Or.inl ⟨by rfl, ?hy19x1⟩) (by assumption) ?rest19x1
  case hy19x1 => (intro w hSw; (try dsimp only at hSw); go_simp; try with_reducible rfl)
  try simp only [Act.put, List.setIfInBounds_toArray, List.set_cons_zero, List.set_cons_succ]
  refine wpAnyH_take (i := 20) (oi := { dst := some 32, op := Op.move (Operand.tmp 31), type := 4, pos := "weight.go:68", after := #[{ on := 19, ground := Ground.data }, { on := 18, ground := Ground.chain }], guard := none }) (v := ?v20x1) rfl (by kernel_rfl) (by kernel_rfl) (by kernel_rfl) (fun _ _ _ h => h) (Or.inl ⟨by rfl, ?hy20x1⟩) (by assumption) ?rest20x1
  case hy20x1 => (intro w hSw; (try dsimp only at hSw); go_simp; try with_reducible rfl)
  try simp only [Act.put, List.setIfInBounds_toArray, List.set_cons_zero, List.set_cons_succ]
  refine wpAnyH_take (i := 21) (oi := { dst := some 33, op := Op.fieldAddr 25 (Operand.tmp 2) 2, type := 0, pos := "weight.go:68", after := #[{ on := 20, ground := Ground.guard }], guard := some (20, true) }) (v := undef) rfl (by kernel_rfl) (by kernel_rfl) (by kernel_rfl) (fun _ _ _ h => h) (Or.inr ⟨by rfl, rfl⟩) (by assumption) ?rest21x1
  try simp only [Act.put, List.setIfInBounds_toArray, List.set_cons_zero, List.set_cons_succ]
  refine wpAnyH_take (i := 22) (oi := { dst := some 34, op := Op.load 23 (Operand.tmp 33), type := 23, pos := "weight.go:68", after := #[{ on := 21, ground := Ground.data }, { on := 20, ground := Ground.guard }], guard := some (20, true) }) (v := undef) rfl (by kernel_rfl) (by kernel_rfl) (by kernel_rfl) (fun _ _ _ h => h) (Or.inr ⟨by rfl, rfl⟩) (by assumption) ?rest22x1
  try simp only [Act.put, List.setIfInBounds_toArray, List.set_cons_zero, List.set_cons_succ]
  refine wpAnyH_take (i := 23) (oi := { dst := some 35, op := Op.indexAddr 23 (Operand.tmp 34) (Operand.const (Value.int IntKind.i64 1)), type := 0, pos := "weight.go:68", after := #[{ on := 22, ground := Ground.data }, { on := 20, ground := Ground.guard }], guard := some (20, true) }) (v := undef) rfl (by kernel_rfl) (by kernel_rfl) (by kernel_rfl) (fun _ _ _ h => h) (Or.inr ⟨by rfl, rfl⟩) (by assumption) ?rest23x1
  try simp only [Act.put, List.setIfInBounds_toArray, List.set_cons_zero, List.set_cons_succ]
  refine wpAnyH_take (i := 24) (oi := { dst := some 36, op := Op.load 25 (Operand.tmp 35), type := 25, pos := "weight.go:68", after := #[{ on := 23, ground := Ground.data }, { on := 20, ground := Ground.guard }], guard := some (20, true) }) (v := undef) rfl (by kernel_rfl) (by kernel_rfl) (by kernel_rfl) (fun _ _ _ h => h) (Or.inr ⟨by rfl, rfl⟩) (by assumption) ?rest24x1
  try simp only [Act.put, List.setIfInBounds_toArray, List.set_cons_zero, List.set_cons_succ]
  refine wpAnyH_take (i := 25) (oi := { dst := some 37, op := Op.fieldAddr 45 (Operand.tmp 3) 4, type := 0, pos := "weight.go:68", after := #[{ on := 20, ground := Ground.guard }], guard := some (20, true) }) (v := undef) rfl (by kernel_rfl) (by kernel_rfl) (by kernel_rfl) (fun _ _ _ h => h) (Or.inr ⟨by rfl, rfl⟩) (by assumption) ?rest25x1
  try simp only [Act.put, List.setIfInBounds_toArray, List.set_cons_zero, List.set_cons_succ]
  refine wpAnyH_take (i := 26) (oi := { dst := some 38, op := Op.load 43 (Operand.tmp 37), type := 43, pos := "weight.go:68", after := #[{ on := 25, ground := Ground.data }, { on := 20, ground := Ground.guard }], guard := some (20, true) }) (v := undef) rfl (by kernel_rfl) (by kernel_rfl) (by kernel_rfl) (fun _ _ _ h => h) (Or.inr ⟨by rfl, rfl⟩) (by assumption) ?rest26x1
  try simp only [Act.put, List.setIfInBounds_toArray, List.set_cons_zero, List.set_cons_succ]
  refine wpAnyH_take (i := 27) (oi := { dst := some 39, op := Op.indexAddr 43 (Operand.tmp 38) (Operand.const (Value.int IntKind.i64 1)), type := 0, pos := "weight.go:68", after := #[{ on := 26, ground := Ground.data }, { on := 20, ground := Ground.guard }], guard := some (20, true) }) (v := undef) rfl (by kernel_rfl) (by kernel_rfl) (by kernel_rfl) (fun _ _ _ h => h) (Or.inr ⟨by rfl, rfl⟩) (by assumption) ?rest27x1
  try simp only [Act.put, List.setIfInBounds_toArray, List.set_cons_zero, List.set_cons_succ]
  refine wpAnyH_take (i := 28) (oi := { dst := some 40, op := Op.load 45 (Operand.tmp 39), type := 45, pos := "weight.go:68", after := #[{ on := 27, ground := Ground.data }, { on := 20, ground := Ground.guard }], guard := some (20, true) }) (v := undef) rfl (by kernel_rfl) (by kernel_rfl) (by kernel_rfl) (fun _ _ _ h => h) (Or.inr ⟨by rfl, rfl⟩) (by assumption) ?rest28x1
  try simp only [Act.put, List.setIfInBounds_toArray, List.set_cons_zero, List.set_cons_succ]
  refine wpAnyH_take (i := 29) (oi := { dst := some 41, op := Op.call { callee := Callee.value (Operand.func 100), args := #[Operand.tmp 36, Operand.tmp 40], argTypes := #[25, 45] }, type := 4, pos := "weight.go:68", after := #[{ on := 24, ground := Ground.data }, { on := 28, ground := Ground.data }, { on := 20, ground := Ground.chain }, { on := 20, ground := Ground.guard }], guard := some (20, true) }) (v := undef) rfl (by kernel_rfl) (by kernel_rfl) (by kernel_rfl) (fun _ _ _ h => h) (Or.inr ⟨by rfl, rfl⟩) (by assumption) ?rest29x1
  try simp only [Act.put, List.setIfInBounds_toArray, List.set_cons_zero, List.set_cons_succ]
  refine wpAnyH_take (i := 30) (oi := { dst := some 42, op := Op.pick (Operand.tmp 32) (Operand.tmp 41) (Operand.const (Value.bool false)), type := 4, pos := "weight.go:68", after := #[{ on := 20, ground := Ground.data }, { on := 29, ground := Ground.data }], guard := none }) (v := ?v30x1) rfl (by kernel_rfl) (by kernel_rfl) (by kernel_rfl) (fun _ _ _ h => h) (Or.inl ⟨by rfl, ?hy30x1⟩) (by assumption) ?rest30x1
  case hy30x1 => (intro w hSw; (try dsimp only at hSw); go_simp; try with_reducible rfl)
  try simp only [Act.put, List.setIfInBounds_toArray, List.set_cons_zero, List.set_cons_succ]
  refine wpAnyH_take (i := 31) (oi := { dst := some 4, op := Op.assign (Operand.tmp 42), type := 4, pos := "weight.go:68", after := #[{ on := 30, ground := Ground.data }, { on := 29, ground := Ground.chain }, { on := 0, ground := Ground.phase }, { on := 1, ground := Ground.phase }, { on := 2, ground := Ground.phase }, { on := 3, ground := Ground.phase }, { on := 4, ground := Ground.phase }, { on := 5, ground := Ground.phase }, { on := 6, ground := Ground.phase }, { on := 7, ground := Ground.phase }, { on := 8, ground := Ground.phase }, { on := 9, ground := Ground.phase }, { on := 10, ground := Ground.phase }, { on := 11, ground := Ground.phase }, { on := 12, ground := Ground.phase }, { on := 13, ground := Ground.phase }, { on := 14, ground := Ground.phase }, { on := 15, ground := Ground.phase }, { on := 16, ground := Ground.phase }, { on := 17, ground := Ground.phase }, { on := 18, ground := Ground.phase }, { on := 19, ground := Ground.phase }, { on := 20, ground := Ground.phase }, { on := 21, ground := Ground.phase }, { on := 22, ground := Ground.phase }, { on := 23, ground := Ground.phase }, { on := 24, ground := Ground.phase }, { on := 25, ground := Ground.phase }, { on := 26, ground := Ground.phase }, { on := 27, ground := Ground.phase }, { on := 28, ground := Ground.phase }, { on := 29, ground := Ground.phase }, { on := 30, ground := Ground.phase }], guard := none }) (v := ?v31x1) rfl (by kernel_rfl) (by kernel_rfl) (by kernel_rfl) (fun _ _ _ h => h) (Or.inl ⟨by rfl, ?hy31x1⟩) (by assumption) ?rest31x1
  case hy31x1 => (intro w hSw; (try dsimp only at hSw); go_simp; try with_reducible rfl)
  try simp only [Act.put, List.setIfInBounds_toArray, List.set_cons_zero, List.set_cons_succ]
  refine wpAnyH_done (by kernel_rfl) ?_ _
  all_goals (go_wp2_with fail; go_ret; exact ⟨rbool HF.out, hB1.trans (D1.out.mono hB1.size)⟩)
 ·have HF : Hid (r2 = r) := by show _ = _; rw [← HRR.out]; simp
  go_enter Try.func100, Try.ntmps100
  go_wp2_with fail
  refine (bare_is 5 0 _ 2 sc ⟨false, gc, gg, gra, grl, grc, grows, gca, gcl, gcc, gcells, (some ⟨b2, of2, none⟩), 2, gpc⟩ true HBB.out _).mono ?_
  rintro e w1 ⟨rfl, hb1⟩
  have hB1 := hB.out.trans (hb1.mono hB.out.size)
  have EN : Hid (∀ W : World, Below w1.heap.size w1 W → W.cell? ⟨w.heap.size, 0, none⟩ = some (.int .i64 5) ∧ W.cell? ⟨w.heap.size, 1, none⟩ = some (.int .i64 0) ∧ W.cell? ⟨w.heap.size, 2, none⟩ = some (.slice (some ⟨b, off, none⟩) 2 sc) ∧ W.cell? ⟨w.heap.size + 1, 0, none⟩ = some (.bool false) ∧ W.cell? ⟨w.heap.size + 1, 1, none⟩ = some (.int .i64 gc) ∧ W.cell? ⟨w.heap.size + 1, 2, none⟩ = some (.int .u64 (gg : Int)) ∧ W.cell? ⟨w.heap.size + 1, 3, none⟩ = some (.slice gra grl grc) ∧ W.cell? ⟨w.heap.size + 1, 4, none⟩ = some (.slice gca gcl gcc) ∧ W.cell? ⟨w.heap.size + 1, 5, none⟩ = some (.slice (some ⟨b2, of2, none⟩) 2 gpc) ∧ W.cell? ⟨b, off, none⟩ = some (.int .i64 pt) ∧ W.cell? ⟨b, off + 1, none⟩ = some (.int .i64 pn) ∧ W.cell? ⟨b, off + 2, none⟩ = some (.slice pa pl pc) ∧ W.cell? ⟨b, off + 3, none⟩ = some (.int .i64 qt) ∧ W.cell? ⟨b, off + 4, none⟩ = some (.int .i64 qn) ∧ W.cell? ⟨b, off + 5, none⟩ = some (.slice qa ql qc) ∧ W.cell? ⟨b2, of2, none⟩ = some (.bool xz) ∧ W.cell? ⟨b2, of2 + 1, none⟩ = some (.int .i64 xc) ∧ W.cell? ⟨b2, of2 + 2, none⟩ = some (.int .u64 (xg : Int)) ∧ W.cell? ⟨b2, of2 + 3, none⟩ = some (.slice xra xrl xrc) ∧ W.cell? ⟨b2, of2 + 4, none⟩ = some (.slice xca xcl xcc) ∧ W.cell? ⟨b2, of2 + 5, none⟩ = some (.slice xpa xpl xpc) ∧ W.cell? ⟨b2, of2 + 6, none⟩ = some (.bool yz) ∧ W.cell? ⟨b2, of2 + 7, none⟩ = some (.int .i64 yc) ∧ W.cell? ⟨b2, of2 + 8, none⟩ = some (.int .u64 (yg : Int)) ∧ W.cell? ⟨b2, of2 + 9, none⟩ = some (.slice yra yrl yrc) ∧ W.cell? ⟨b2, of2 + 10, none⟩ = some (.slice yca ycl ycc) ∧ W.cell? ⟨b2, of2 + 11, none⟩ = some (.slice ypa ypl ypc)) := fun W h => by
   obtain ⟨a0, a1, a2⟩ := tri_cells (heap_old (heap_old T0.out hb1) h); obtain ⟨c0, c1, c2, c3, c4, c5⟩ := six_cells (heap_old (heap_old T1.out hb1) h)
   have hww : Below w.heap.size w W := hB1.trans (h.mono hB1.size)
   obtain ⟨d0, d1, d2⟩ := HP3.out.below hww; obtain ⟨e0, e1, e2⟩ := HQ3.out.below hww; obtain ⟨f0, f1, f2, f3, f4, f5⟩ := HX6.out.below hww; obtain ⟨g0, g1, g2, g3, g4, g5⟩ := HY6.out.below hww
   exact ⟨a0, a1, a2, c0, c1, c2, c3, c4, c5, d0, d1, d2, e0, e1, e2, f0, f1, f2, f3, f4, f5, g0, g1, g2, g3, g4, g5⟩
  clear x0 x1 x2 y0 y1 y2 y3 y4 y5
  obtain ⟨m0, m1, m2, m3, m4, m5, m6, m7, m8, m9, m10, m11, m12, m13, m14, m15, m16, m17, m18, m19, m20, m21, m22, m23, m24, m25, m26⟩ := EN.out _ (Below.refl _ _)
  have D0 : Hid (Below w1.heap.size w1 w1.drew) := (Below.refl _ _).drew
  go_wp2_with fail
  refine wp_region_held_drew (S := (fun w' => w'.cell? ⟨w.heap.size, 0, none⟩ = some (.int .i64 5) ∧ w'.cell? ⟨w.heap.size, 1, none⟩ = some (.int .i64 0) ∧ w'.cell? ⟨w.heap.size, 2, none⟩ = some (.slice (some ⟨b, off, none⟩) 2 sc) ∧ w'.cell? ⟨w.heap.size + 1, 0, none⟩ = some (.bool false) ∧ w'.cell? ⟨w.heap.size + 1, 1, none⟩ = some (.int .i64 gc) ∧ w'.cell? ⟨w.heap.size + 1, 2, none⟩ = some (.int .u64 (gg : Int)) ∧ w'.cell? ⟨w.heap.size + 1, 3, none⟩ = some (.slice gra grl grc) ∧ w'.cell? ⟨w.heap.size + 1, 4, none⟩ = some (.slice gca gcl gcc) ∧ w'.cell? ⟨w.heap.size + 1, 5, none⟩ = some (.slice (some ⟨b2, of2, none⟩) 2 gpc) ∧ w'.cell? ⟨b, off, none⟩ = some (.int .i64 pt) ∧ w'.cell? ⟨b, off + 1, none⟩ = some (.int .i64 pn) ∧ w'.cell? ⟨b, off + 2, none⟩ = some (.slice pa pl pc) ∧ w'.cell? ⟨b, off + 3, none⟩ = some (.int .i64 qt) ∧ w'.cell? ⟨b, off + 4, none⟩ = some (.int .i64 qn) ∧ w'.cell? ⟨b, off + 5, none⟩ = some (.slice qa ql qc) ∧ w'.cell? ⟨b2, of2, none⟩ = some (.bool xz) ∧ w'.cell? ⟨b2, of2 + 1, none⟩ = some (.int .i64 xc) ∧ w'.cell? ⟨b2, of2 + 2, none⟩ = some (.int .u64 (xg : Int)) ∧ w'.cell? ⟨b2, of2 + 3, none⟩ = some (.slice xra xrl xrc) ∧ w'.cell? ⟨b2, of2 + 4, none⟩ = some (.slice xca xcl xcc) ∧ w'.cell? ⟨b2, of2 + 5, none⟩ = some (.slice xpa xpl xpc) ∧ w'.cell? ⟨b2, of2 + 6, none⟩ = some (.bool yz) ∧ w'.cell? ⟨b2, of2 + 7, none⟩ = some (.int .i64 yc) ∧ w'.cell? ⟨b2, of2 + 8, none⟩ = some (.int .u64 (yg : Int)) ∧ w'.cell? ⟨b2, of2 + 9, none⟩ = some (.slice yra yrl yrc) ∧ w'.cell? ⟨b2, of2 + 10, none⟩ = some (.slice yca ycl ycc) ∧ w'.cell? ⟨b2, of2 + 11, none⟩ = some (.slice ypa ypl ypc))) (by kernel_rfl) (by with_reducible exact EN.out _ D0.out) (fun hHeld => ?_)
  refine wpAnyH_take (i := 0) (oi := { dst := some 12, op := Op.fieldAddr 45 (Operand.tmp 3) 0, type := 0, pos := "weight.go:68", after := #[], guard := none }) (v := ?v0x2) rfl (by kernel_rfl) (by kernel_rfl) (by kernel_rfl) (fun _ _ _ h => h) (Or.inl ⟨by rfl, ?hy0x2⟩) (by assumption) ?rest0x2
  case hy0x2 => (intro w hSw; (try dsimp only at hSw); go_simp; try with_reducible rfl)
  try simp only [Act.put, List.setIfInBounds_toArray, List.set_cons_zero, List.set_cons_succ]
  refine wpAnyH_take (i := 1) (oi := { dst := some 13, op := Op.load 4 (Operand.tmp 12), type := 4, pos := "weight.go:68", after := #[{ on := 0, ground := Ground.data }], guard := none }) (v := ?v1x2) rfl (by kernel_rfl) (by kernel_rfl) (by kernel_rfl) (fun _ _ _ h => h) (Or.inl ⟨by rfl, ?hy1x2⟩) (by assumption) ?rest1x2
  case hy1x2 => (intro w hSw; (try dsimp only at hSw); go_simp; try with_reducible rfl)
  try simp only [Act.put, List.setIfInBounds_toArray, List.set_cons_zero, List.set_cons_succ]
  refine wpAnyH_take (i := 2) (oi := { dst := some 14, op := Op.unOp UnOp.not 4 (Operand.tmp 13), type := 4, pos := "weight.go:68", after := #[{ on := 1, ground := Ground.data }], guard := none }) (v := ?v2x2) rfl (by kernel_rfl) (by kernel_rfl) (by kernel_rfl) (fun _ _ _ h => h) (Or.inl ⟨by rfl, ?hy2x2⟩) (by assumption) ?rest2x2
  case hy2x2 => (intro w hSw; (try dsimp only at hSw); go_simp; try with_reducible rfl)
  try simp only [Act.put, List.setIfInBounds_toArray, List.set_cons_zero, List.set_cons_succ]
  refine wpAnyH_take (i := 3) (oi := { dst := some 15, op := Op.move (Operand.tmp 14), type := 4, pos := "weight.go:68", after := #[{ on := 2, ground := Ground.data }], guard := none }) (v := ?v3x2) rfl (by kernel_rfl) (by kernel_rfl) (by kernel_rfl) (fun _ _ _ h => h) (Or.inl ⟨by rfl, ?hy3x2⟩) (by assumption) ?rest3x2
  case hy3x2 => (intro w hSw; (try dsimp only at hSw); go_simp; try with_reducible rfl)
  try simp only [Act.put, List.setIfInBounds_toArray, List.set_cons_zero, List.set_cons_succ]
  refine wpAnyH_take (i := 4) (oi := { dst := some 16, op := Op.fieldAddr 45 (Operand.tmp 3) 4, type := 0, pos := "weight.go:68", after := #[{ on := 3, ground := Ground.guard }], guard := some (3, true) }) (v := ?v4x2) rfl (by kernel_rfl) (by kernel_rfl) (by kernel_rfl) (fun _ _ _ h => h) (Or.inl ⟨by rfl, ?hy4x2⟩) (by assumption) ?rest4x2
  case hy4x2 => (intro w hSw; (try dsimp only at hSw); go_simp; try with_reducible rfl)
  try simp only [Act.put, List.setIfInBounds_toArray, List.set_cons_zero, List.set_cons_succ]
  refine wpAnyH_take (i := 5) (oi := { dst := some 17, op := Op.load 43 (Operand.tmp 16), type := 43, pos := "weight.go:68", after := #[{ on := 4, ground := Ground.data }, { on := 3, ground := Ground.guard }], guard := some (3, true) }) (v := ?v5x2) rfl (by kernel_rfl) (by kernel_rfl) (by kernel_rfl) (fun _ _ _ h => h) (Or.inl ⟨by rfl, ?hy5x2⟩) (by assumption) ?rest5x2
  case hy5x2 => (intro w hSw; (try dsimp only at hSw); go_simp; try with_reducible rfl)
  try simp only [Act.put, List.setIfInBounds_toArray, List.set_cons_zero, List.set_cons_succ]
  refine wpAnyH_take (i := 6) (oi := { dst := some 18, op := Op.call { callee := Callee.builtin Builtin.len, args := #[Operand.tmp 17], argTypes := #[43] }, type := 3, pos := "weight.go:68", after := #[{ on := 5, ground := Ground.data }, { on := 3, ground := Ground.guard }], guard := some (3, true) }) (v := ?v6x2) rfl (by kernel_rfl) (by kernel_rfl) (by kernel_rfl) (fun _ _ _ h => h) (Or.inl ⟨by rfl, ?hy6x2⟩) (by assumption) ?rest6x2
  case hy6x2 => (intro w hSw; (try dsimp only at hSw); go_simp; try with_reducible rfl)
  try simp only [Act.put, List.setIfInBounds_toArray, List.set_cons_zero, List.set_cons_succ]
  refine wpAnyH_take (i := 7) (oi := { dst := some 19, op := Op.binOp BinOp.eql 3 (Operand.tmp 18) (Operand.const (Value.int IntKind.i64 2)) 3, type := 4, pos := "weight.go:68", after := #[{ on := 6, ground := Ground.data }, { on := 3, ground := Ground.guard }], guard := some (3, true) }) (v := ?v7x2) rfl (by kernel_rfl) (by kernel_rfl) (by kernel_rfl) (fun _ _ _ h => h) (Or.inl ⟨by rfl, ?hy7x2⟩) (by assumption) ?rest7x2
  case hy7x2 => (intro w hSw; (try dsimp only at hSw); go_simp; try with_reducible rfl)
  try simp only [Act.put, List.setIfInBounds_toArray, List.set_cons_zero, List.set_cons_succ]
  refine wpAnyH_take (i := 8) (oi := { dst := some 20, op := Op.pick (Operand.tmp 15) (Operand.tmp 19) (Operand.const (Value.bool false)), type := 4, pos := "weight.go:68", after := #[{ on := 3, ground := Ground.data }, { on := 7, ground := Ground.data }], guard := none }) (v := ?v8x2) rfl (by kernel_rfl) (by kernel_rfl) (by kernel_rfl) (fun _ _ _ h => h) (Or.inl ⟨by rfl, ?hy8x2⟩) (by assumption) ?rest8x2
  case hy8x2 => (intro w hSw; (try dsimp only at hSw); go_simp; try with_reducible rfl)
  try simp only [Act.put, List.setIfInBounds_toArray, List.set_cons_zero, List.set_cons_succ]
  refine wpAnyH_take (i := 9) (oi := { dst := some 21, op := Op.move (Operand.tmp 20), type := 4, pos := "weight.go:68", after := #[{ on := 8, ground := Ground.data }, { on := 3, ground := Ground.chain }], guard := none }) (v := ?v9x2) rfl (by kernel_rfl) (by kernel_rfl) (by kernel_rfl) (fun _ _ _ h => h) (Or.inl ⟨by rfl, ?hy9x2⟩) (by assumption) ?rest9x2
  case hy9x2 => (intro w hSw; (try dsimp only at hSw); go_simp; try with_reducible rfl)
  try simp only [Act.put, List.setIfInBounds_toArray, List.set_cons_zero, List.set_cons_succ]
  refine wpAnyH_take (i := 10) (oi := { dst := some 22, op := Op.fieldAddr 25 (Operand.tmp 2) 2, type := 0, pos := "weight.go:68", after := #[{ on := 9, ground := Ground.guard }], guard := some (9, true) }) (v := ?v10x2) rfl (by kernel_rfl) (by kernel_rfl) (by kernel_rfl) (fun _ _ _ h => h) (Or.inl ⟨by rfl, ?hy10x2⟩) (by assumption) ?rest10x2
  case hy10x2 => (intro w hSw; (try dsimp only at hSw); go_simp; try with_reducible rfl)
  try simp only [Act.put, List.setIfInBounds_toArray, List.set_cons_zero, List.set_cons_succ]
  refine wpAnyH_take (i := 11) (oi := { dst := some 23, op := Op.load 23 (Operand.tmp 22), type := 23, pos := "weight.go:68", after := #[{ on := 10, ground := Ground.data }, { on := 9, ground := Ground.guard }], guard := some (9, true) }) (v := ?v11x2) rfl (by kernel_rfl) (by kernel_rfl) (by kernel_rfl) (fun _ _ _ h => h) (Or.inl ⟨by rfl, ?hy11x2⟩) (by assumption) ?rest11x2
  case hy11x2 => (intro w hSw; (try dsimp only at hSw); go_simp; try with_reducible rfl)
  try simp only [Act.put, List.setIfInBounds_toArray, List.set_cons_zero, List.set_cons_succ]
  refine wpAnyH_take (i := 12) (oi := { dst := some 24, op := Op.indexAddr 23 (Operand.tmp 23) (Operand.const (Value.int IntKind.i64 0)), type := 0, pos := "weight.go:68", after := #[{ on := 11, ground := Ground.data }, { on := 9, ground := Ground.guard }], guard := some (9, true) }) (v := ?v12x2) rfl (by kernel_rfl) (by kernel_rfl) (by kernel_rfl) (fun _ _ _ h => h) (Or.inl ⟨by rfl, ?hy12x2⟩) (by assumption) ?rest12x2
  case hy12x2 => (intro w hSw; (try dsimp only at hSw); go_simp; try with_reducible rfl)
  try simp only [Act.put, List.setIfInBounds_toArray, List.set_cons_zero, List.set_cons_succ]
  refine wpAnyH_take (i := 13) (oi := { dst := some 25, op := Op.load 25 (Operand.tmp 24), type := 25, pos := "weight.go:68", after := #[{ on := 12, ground := Ground.data }, { on := 9, ground := Ground.guard }], guard := some (9, true) }) (v := ?v13x2) rfl (by kernel_rfl) (by kernel_rfl) (by kernel_rfl) (fun _ _ _ h => h) (Or.inl ⟨by rfl, ?hy13x2⟩) (by assumption) ?rest13x2
  case hy13x2 => (intro w hSw; (try dsimp only at hSw); go_simp; try with_reducible rfl)
  try simp only [Act.put, List.setIfInBounds_toArray, List.set_cons_zero, List.set_cons_succ]
  refine wpAnyH_take (i := 14) (oi := { dst := some 26, op := Op.fieldAddr 45 (Operand.tmp 3) 4, type := 0, pos := "weight.go:68", after := #[{ on := 9, ground := Ground.guard }], guard := some (9, true) }) (v := ?v14x2) rfl (by kernel_rfl) (by kernel_rfl) (by kernel_rfl) (fun _ _ _ h => h) (Or.inl ⟨by rfl, ?hy14x2⟩) (by assumption) ?rest14x2
  case hy14x2 => (intro w hSw; (try dsimp only at hSw); go_simp; try with_reducible rfl)
  try simp only [Act.put, List.setIfInBounds_toArray, List.set_cons_zero, List.set_cons_succ]
  refine wpAnyH_take (i := 15) (oi := { dst := some 27, op := Op.load 43 (Operand.tmp 26), type := 43, pos := "weight.go:68", after := #[{ on := 14, ground := Ground.data }, { on := 9, ground := Ground.guard }], guard := some (9, true) }) (v := ?v15x2) rfl (by kernel_rfl) (by kernel_rfl) (by kernel_rfl) (fun _ _ _ h => h) (Or.inl ⟨by rfl, ?hy15x2⟩) (by assumption) ?rest15x2
  case hy15x2 => (intro w hSw; (try dsimp only at hSw); go_simp; try with_reducible rfl)
  try simp only [Act.put, List.setIfInBounds_toArray, List.set_cons_zero, List.set_cons_succ]
  refine wpAnyH_take (i := 16) (oi := { dst := some 28, op := Op.indexAddr 43 (Operand.tmp 27) (Operand.const (Value.int IntKind.i64 0)), type := 0, pos := "weight.go:68", after := #[{ on := 15, ground := Ground.data }, { on := 9, ground := Ground.guard }], guard := some (9, true) }) (v := ?v16x2) rfl (by kernel_rfl) (by kernel_rfl) (by kernel_rfl) (fun _ _ _ h => h) (Or.inl ⟨by rfl, ?hy16x2⟩) (by assumption) ?rest16x2
  case hy16x2 => (intro w hSw; (try dsimp only at hSw); go_simp; try with_reducible rfl)
  try simp only [Act.put, List.setIfInBounds_toArray, List.set_cons_zero, List.set_cons_succ]
  refine wpAnyH_take (i := 17) (oi := { dst := some 29, op := Op.load 45 (Operand.tmp 28), type := 45, pos := "weight.go:68", after := #[{ on := 16, ground := Ground.data }, { on := 9, ground := Ground.guard }], guard := some (9, true) }) (v := ?v17x2) rfl (by kernel_rfl) (by kernel_rfl) (by kernel_rfl) (fun _ _ _ h => h) (Or.inl ⟨by rfl, ?hy17x2⟩) (by assumption) ?rest17x2
  case hy17x2 => (intro w hSw; (try dsimp only at hSw); go_simp; try with_reducible rfl)
  try simp only [Act.put, List.setIfInBounds_toArray, List.set_cons_zero, List.set_cons_succ]
  refine wpAnyH_ready (rs := [18]) (by kernel_rfl) (by simp) (AllReadyH.cons (o := { dst := some 30, op := Op.call { callee := Callee.value (Operand.func 100), args := #[Operand.tmp 25, Operand.tmp 29], argTypes := #[25, 45] }, type := 4, pos := "weight.go:68", after := #[{ on := 13, ground := Ground.data }, { on := 17, ground := Ground.data }, { on := 9, ground := Ground.chain }, { on := 9, ground := Ground.guard }], guard := some (9, true) }) rfl (fun K hK => ?_) AllReadyH.nil)
  go_simp
  go_at_call 100
  with_reducible refine (isA_plainY pt pn pa pl pc ⟨xz, xc, xg, xra, xrl, xrc, xrows, xca, xcl, xcc, xcells, xpa, xpl, xpc⟩ HP.out XSS.out _ (XAA.out.below (hB1.trans ((D0.out).mono hB1.size))) true HR1.out).mono ?_
  rintro e z1 ⟨rfl, hz1⟩
  have D1 : Hid (Below w1.heap.size w1 z1) := Lib.hid (D0.out.trans (hz1.mono D0.out.size))
  dsimp only
  refine hK.out _ _ (by with_reducible exact EN.out _ D1.out) (fun hHeld1 => ?_)
  clear hK K
  try simp only [Act.put, List.setIfInBounds_toArray, List.set_cons_zero, List.set_cons_succ]
  refine wpAnyH_take (i := 19) (oi := { dst := some 31, op := Op.pick (Operand.tmp 21) (Operand.tmp 30) (Operand.const (Value.bool false)), type := 4, pos := "weight.go:68", after := #[{ on := 9, ground := Ground.data }, { on := 18, ground := Ground.data }], guard := none }) (v := ?v19x2) rfl (by kernel_rfl) (by kernel_rfl) (by kernel_rfl) (fun _ _ _ h => h) (Or.inl ⟨by rfl, ?hy19x2⟩) (by assumption) ?rest19x2
  case hy19x2 => (intro w hSw; (try dsimp only at hSw); go_simp; try with_reducible rfl)
  try simp only [Act.put, List.setIfInBounds_toArray, List.set_cons_zero, List.set_cons_succ]
  refine wpAnyH_take (i := 20) (oi := { dst := some 32, op := Op.move (Operand.tmp 31), type := 4, pos := "weight.go:68", after := #[{ on := 19, ground := Ground.data }, { on := 18, ground := Ground.chain }], guard := none }) (v := ?v20x2) rfl (by kernel_rfl) (by kernel_rfl) (by kernel_rfl) (fun _ _ _ h => h) (Or.inl ⟨by rfl, ?hy20x2⟩) (by assumption) ?rest20x2
  case hy20x2 => (intro w hSw; (try dsimp only at hSw); go_simp; try with_reducible rfl)
  try simp only [Act.put, List.setIfInBounds_toArray, List.set_cons_zero, List.set_cons_succ]
  refine wpAnyH_take (i := 21) (oi := { dst := some 33, op := Op.fieldAddr 25 (Operand.tmp 2) 2, type := 0, pos := "weight.go:68", after := #[{ on := 20, ground := Ground.guard }], guard := some (20, true) }) (v := ?v21x2) rfl (by kernel_rfl) (by kernel_rfl) (by kernel_rfl) (fun _ _ _ h => h) (Or.inl ⟨by rfl, ?hy21x2⟩) (by assumption) ?rest21x2
  case hy21x2 => (intro w hSw; (try dsimp only at hSw); go_simp; try with_reducible rfl)
  try simp only [Act.put, List.setIfInBounds_toArray, List.set_cons_zero, List.set_cons_succ]
  refine wpAnyH_take (i := 22) (oi := { dst := some 34, op := Op.load 23 (Operand.tmp 33), type := 23, pos := "weight.go:68", after := #[{ on := 21, ground := Ground.data }, { on := 20, ground := Ground.guard }], guard := some (20, true) }) (v := ?v22x2) rfl (by kernel_rfl) (by kernel_rfl) (by kernel_rfl) (fun _ _ _ h => h) (Or.inl ⟨by rfl, ?hy22x2⟩) (by assumption) ?rest22x2
  case hy22x2 => (intro w hSw; (try dsimp only at hSw); go_simp; try with_reducible rfl)
  try simp only [Act.put, List.setIfInBounds_toArray, List.set_cons_zero, List.set_cons_succ]
  refine wpAnyH_take (i := 23) (oi := { dst := some 35, op := Op.indexAddr 23 (Operand.tmp 34) (Operand.const (Value.int IntKind.i64 1)), type := 0, pos := "weight.go:68", after := #[{ on := 22, ground := Ground.data }, { on := 20, ground := Ground.guard }], guard := some (20, true) }) (v := ?v23x2) rfl (by kernel_rfl) (by kernel_rfl) (by kernel_rfl) (fun _ _ _ h => h) (Or.inl ⟨by rfl, ?hy23x2⟩) (by assumption) ?rest23x2
  case hy23x2 => (intro w hSw; (try dsimp only at hSw); go_simp; try with_reducible rfl)
  try simp only [Act.put, List.setIfInBounds_toArray, List.set_cons_zero, List.set_cons_succ]
  refine wpAnyH_take (i := 24) (oi := { dst := some 36, op := Op.load 25 (Operand.tmp 35), type := 25, pos := "weight.go:68", after := #[{ on := 23, ground := Ground.data }, { on := 20, ground := Ground.guard }], guard := some (20, true) }) (v := ?v24x2) rfl (by kernel_rfl) (by kernel_rfl) (by kernel_rfl) (fun _ _ _ h => h) (Or.inl ⟨by rfl, ?hy24x2⟩) (by assumption) ?rest24x2
  case hy24x2 => (intro w hSw; (try dsimp only at hSw); go_simp; try with_reducible rfl)
  try simp only [Act.put, List.setIfInBounds_toArray, List.set_cons_zero, List.set_cons_succ]
  refine wpAnyH_take (i := 25) (oi := { dst := some 37, op := Op.fieldAddr 45 (Operand.tmp 3) 4, type := 0, pos := "weight.go:68", after := #[{ on := 20, ground := Ground.guard }], guard := some (20, true) }) (v := ?v25x2) rfl (by kernel_rfl) (by kernel_rfl) (by kernel_rfl) (fun _ _ _ h => h) (Or.inl ⟨by rfl, ?hy25x2⟩) (by assumption) ?rest25x2
  case hy25x2 => (intro w hSw; (try dsimp only at hSw); go_simp; try with_reducible rfl)
  try simp only [Act.put, List.setIfInBounds_toArray, List.set_cons_zero, List.set_cons_succ]
  refine wpAnyH_take (i := 26) (oi := { dst := some 38, op := Op.load 43 (Operand.tmp 37), type := 43, pos := "weight.go:68", after := #[{ on := 25, ground := Ground.data }, { on := 20, ground := Ground.guard }], guard := some (20, true) }) (v := ?v26x2) rfl (by kernel_rfl) (by kernel_rfl) (by kernel_rfl) (fun _ _ _ h => h) (Or.inl ⟨by rfl, ?hy26x2⟩) (by assumption) ?rest26x2
  case hy26x2 => (intro w hSw; (try dsimp only at hSw); go_simp; try with_reducible rfl)
  try simp only [Act.put, List.setIfInBounds_toArray, List.set_cons_zero, List.set_cons_succ]
  refine wpAnyH_take (i := 27) (oi := { dst := some 39, op := Op.indexAddr 43 (Operand.tmp 38) (Operand.const (Value.int IntKind.i64 1)), type := 0, pos := "weight.go:68", after := #[{ on := 26, ground := Ground.data }, { on := 20, ground := Ground.guard }], guard := some (20, true) }) (v := ?v27x2) rfl (by kernel_rfl) (by kernel_rfl) (by kernel_rfl) (fun _ _ _ h => h) (Or.inl ⟨by rfl, ?hy27x2⟩) (by assumption) ?rest27x2
  case hy27x2 => (intro w hSw; (try dsimp only at hSw); go_simp; try with_reducible rfl)
  try simp only [Act.put, List.setIfInBounds_toArray, List.set_cons_zero, List.set_cons_succ]
  refine wpAnyH_take (i := 28) (oi := { dst := some 40, op := Op.load 45 (Operand.tmp 39), type := 45, pos := "weight.go:68", after := #[{ on := 27, ground := Ground.data }, { on := 20, ground := Ground.guard }], guard := some (20, true) }) (v := ?v28x2) rfl (by kernel_rfl) (by kernel_rfl) (by kernel_rfl) (fun _ _ _ h => h) (Or.inl ⟨by rfl, ?hy28x2⟩) (by assumption) ?rest28x2
  case hy28x2 => (intro w hSw; (try dsimp only at hSw); go_simp; try with_reducible rfl)
  try simp only [Act.put, List.setIfInBounds_toArray, List.set_cons_zero, List.set_cons_succ]
  refine wpAnyH_ready (rs := [29]) (by kernel_rfl) (by simp) (AllReadyH.cons (o := { dst := some 41, op := Op.call { callee := Callee.value (Operand.func 100), args := #[Operand.tmp 36, Operand.tmp 40], argTypes := #[25, 45] }, type := 4, pos := "weight.go:68", after := #[{ on := 24, ground := Ground.data }, { on := 28, ground := Ground.data }, { on := 20, ground := Ground.chain }, { on := 20, ground := Ground.guard }], guard := some (20, true) }) rfl (fun K hK => ?_) AllReadyH.nil)
  go_simp
  go_at_call 100
  with_reducible refine (isA_plainY qt qn qa ql qc ⟨yz, yc, yg, yra, yrl, yrc, yrows, yca, ycl, ycc, ycells, ypa, ypl, ypc⟩ HQ.out YSS.out _ (YAA.out.below (hB1.trans ((D1.out).mono hB1.size))) r2 HR2.out).mono ?_
  rintro e z2 ⟨rfl, hz2⟩
  have D2 : Hid (Below w1.heap.size w1 z2) := Lib.hid (D1.out.trans (hz2.mono D1.out.size))
  dsimp only
  refine hK.out _ _ (by with_reducible exact EN.out _ D2.out) (fun hHeld2 => ?_)
  clear hK K
  try simp only [Act.put, List.setIfInBounds_toArray, List.set_cons_zero, List.set_cons_succ]
  refine wpAnyH_take (i := 30) (oi := { dst := some 42, op := Op.pick (Operand.tmp 32) (Operand.tmp 41) (Operand.const (Value.bool false)), type := 4, pos := "weight.go:68", after := #[{ on := 20, ground := Ground.data }, { on := 29, ground := Ground.data }], guard := none }) (v := ?v30x2) rfl (by kernel_rfl) (by kernel_rfl) (by kernel_rfl) (fun _ _ _ h => h) (Or.inl ⟨by rfl, ?hy30x2⟩) (by assumption) ?rest30x2
  case hy30x2 => (intro w hSw; (try dsimp only at hSw); go_simp; try with_reducible rfl)
  try simp only [Act.put, List.setIfInBounds_toArray, List.set_cons_zero, List.set_cons_succ]
  refine wpAnyH_take (i := 31) (oi := { dst := some 4, op := Op.assign (Operand.tmp 42), type := 4, pos := "weight.go:68", after := #[{ on := 30, ground := Ground.data }, { on := 29, ground := Ground.chain }, { on := 0, ground := Ground.phase }, { on := 1, ground := Ground.phase }, { on := 2, ground := Ground.phase }, { on := 3, ground := Ground.phase }, { on := 4, ground := Ground.phase }, { on := 5, ground := Ground.phase }, { on := 6, ground := Ground.phase }, { on := 7, ground := Ground.phase }, { on := 8, ground := Ground.phase }, { on := 9, ground := Ground.phase }, { on := 10, ground := Ground.phase }, { on := 11, ground := Ground.phase }, { on := 12, ground := Ground.phase }, { on := 13, ground := Ground.phase }, { on := 14, ground := Ground.phase }, { on := 15, ground := Ground.phase }, { on := 16, ground := Ground.phase }, { on := 17, ground := Ground.phase }, { on := 18, ground := Ground.phase }, { on := 19, ground := Ground.phase }, { on := 20, ground := Ground.phase }, { on := 21, ground := Ground.phase }, { on := 22, ground := Ground.phase }, { on := 23, ground := Ground.phase }, { on := 24, ground := Ground.phase }, { on := 25, ground := Ground.phase }, { on := 26, ground := Ground.phase }, { on := 27, ground := Ground.phase }, { on := 28, ground := Ground.phase }, { on := 29, ground := Ground.phase }, { on := 30, ground := Ground.phase }], guard := none }) (v := ?v31x2) rfl (by kernel_rfl) (by kernel_rfl) (by kernel_rfl) (fun _ _ _ h => h) (Or.inl ⟨by rfl, ?hy31x2⟩) (by assumption) ?rest31x2
  case hy31x2 => (intro w hSw; (try dsimp only at hSw); go_simp; try with_reducible rfl)
  try simp only [Act.put, List.setIfInBounds_toArray, List.set_cons_zero, List.set_cons_succ]
  refine wpAnyH_done (by kernel_rfl) ?_ _
  all_goals (go_wp2_with fail; go_ret; exact ⟨rbool HF.out, hB1.trans (D2.out.mono hB1.size)⟩)
end Go.Proofs.Ytpkcaabbcoiiiaa
namespace Go.Proofs.Ytpkcaabbcoiiiaa
open Go.RowKit
attribute [local go_sem ↓] Go.wp_at_zero Go.wp_at_succ
theorem isR_plainY (t n : Int) (a : Option Addr) (l c0 : Nat) (f : WF) (hp : plainB t n l = true) (hs : 0 ≤ f.rl) (w : World) (hf : f.At w) (r : Bool) (hr : pwOk t n f = r) :
  Calls Try.prog 66 #[.agg #[.int .i64 t, .int .i64 n, .slice a l c0], f.val] w fun e w' => e = .returned (.bool r) ∧ Below w.heap.size w w' := by
 have HF0 := Lib.hid hf; have HS := Lib.hid hs
 obtain ⟨z, c, g, ra, rl, rc, rows, ca, cl, cc, cells, pa, pl, pc⟩ := f
 show Calls Try.prog 66 #[.agg #[.int .i64 t, .int .i64 n, .slice a l c0], .agg #[.bool z, .int .i64 c, .int .u64 (g : Int), .slice ra rl rc, .slice ca cl cc, .slice pa pl pc]] w _
 obtain ⟨bb, hbb⟩ : ∃ b, bareB t ⟨z, c, g, ra, rl, rc, rows, ca, cl, cc, cells, pa, pl, pc⟩ = b := ⟨_, rfl⟩
 have HBB := Lib.hid hbb
 have hB := Lib.hid (wbox w #[.int .i64 t, .int .i64 n, .slice a l c0] #[.bool z, .int .i64 c, .int .u64 (g : Int), .slice ra rl rc, .slice ca cl cc, .slice pa pl pc] 25 45)
 obtain ⟨t0, t1⟩ := two_boxes2 w #[.int .i64 t, .int .i64 n, .slice a l c0] #[.bool z, .int .i64 c, .int .u64 (g : Int), .slice ra rl rc, .slice ca cl cc, .slice pa pl pc] 25 45
 have T0 := Lib.hid t0; have T1 := Lib.hid t1
 obtain ⟨W0, hW0⟩ : ∃ W, (w.alloc (.cells #[.int .i64 t, .int .i64 n, .slice a l c0] 25)).alloc (.cells #[.bool z, .int .i64 c, .int .u64 (g : Int), .slice ra rl rc, .slice ca cl cc, .slice pa pl pc] 45) = W := ⟨_, rfl⟩
 rw [hW0] at hB T0 T1
 obtain ⟨x0, x1, x2⟩ := tri_cells T0.out
 obtain ⟨y0, y1, y2, y3, y4, y5⟩ := six_cells T1.out
 have ht := (plainB_tag hp).2
 have HDIM := Lib.hid (plainB_dim hp)
 clear hf hs t0 t1 hp
 have HX : Hid (∀ W : World, Below W0.heap.size W0 W → Hid ((W.cell? ⟨w.heap.size, 0, none⟩ = some (.int .i64 t) ∧ W.cell? ⟨w.heap.size, 1, none⟩ = some (.int .i64 n) ∧ W.cell? ⟨w.heap.size, 2, none⟩ = some (.slice a l c0)) ∧ (W.cell? ⟨w.heap.size + 1, 0, none⟩ = some (.bool z) ∧ W.cell? ⟨w.heap.size + 1, 1, none⟩ = some (.int .i64 c) ∧ W.cell? ⟨w.heap.size + 1, 2, none⟩ = some (.int .u64 (g : Int)) ∧ W.cell? ⟨w.heap.size + 1, 3, none⟩ = some (.slice ra rl rc) ∧ W.cell? ⟨w.heap.size + 1, 4, none⟩ = some (.slice ca cl cc) ∧ W.cell? ⟨w.heap.size + 1, 5, none⟩ = some (.slice pa pl pc)))) := fun W h => ⟨tri_cells (heap_old T0.out h), six_cells (heap_old T1.out h)⟩
 have HR : Hid ((bb && (z || (if t = 2 then decide (0 ≤ c) && decide (c ≤ n) else if t = 3 then decide (checkE n g rows = 0) else if t = 4 then decide (chkC n cells = 0) else true))) = r) := by show _ = _; rw [← hr, pwOk, hbb]
 have ht5 : (t != 5) = true := by simp; omega
 clear hr T0 T1
 cases z
 ·rcases ht with rfl | rfl | rfl | rfl
  ·have HO : Hid (onlyB false false false false ⟨false, c, g, ra, rl, rc, rows, ca, cl, cc, cells, pa, pl, pc⟩ = bb) := hbb
   have HR2 : Hid (bb = r) := by show _ = _; rw [← HR.out]; simp
   clear hbb
   go_enter Try.func66, Try.ntmps66
   go_wp2_with fail
   refine (plainR_0 ⟨false, c, g, ra, rl, rc, rows, ca, cl, cc, cells, pa, pl, pc⟩ bb HO.out _).mono ?_
   rintro e w1 ⟨rfl, hb1⟩
   go_wp2_with fail
   go_ret
   exact ⟨rbool HR2.out, hB.out.trans (hb1.mono hB.out.size)⟩
  ·have HO : Hid (onlyB true false false false ⟨false, c, g, ra, rl, rc, rows, ca, cl, cc, cells, pa, pl, pc⟩ = bb) := hbb
   clear hbb
   cases bb
   ·have HR2 : Hid (false = r) := by show _ = _; rw [← HR.out]; simp
    go_enter Try.func66, Try.ntmps66
    go_wp2_with fail
    refine (plainR_1 ⟨false, c, g, ra, rl, rc, rows, ca, cl, cc, cells, pa, pl, pc⟩ false HO.out _).mono ?_
    rintro e w1 ⟨rfl, hb1⟩
    go_wp2_with fail
    go_ret
    exact ⟨rbool HR2.out, hB.out.trans (hb1.mono hB.out.size)⟩
   by_cases hc0 : 0 ≤ c
   ·have HR2 : Hid (decide (c ≤ n) = r) := by show _ = _; rw [← HR.out]; simp [hc0]
    go_enter Try.func66, Try.ntmps66
    go_wp2_with fail
    refine (plainR_1 ⟨false, c, g, ra, rl, rc, rows, ca, cl, cc, cells, pa, pl, pc⟩ true HO.out _).mono ?_
    rintro e w1 ⟨rfl, hb1⟩
    obtain ⟨⟨p0, p1, p2⟩, q0, q1, q2, q3, q4, q5⟩ := (HX.out _ hb1).out
    go_wp2_with fail
    go_ret
    exact ⟨rbool HR2.out, hB.out.trans (hb1.mono hB.out.size)⟩
   ·have HR2 : Hid (false = r) := by show _ = _; rw [← HR.out]; simp [hc0]
    go_enter Try.func66, Try.ntmps66
    go_wp2_with fail
    refine (plainR_1 ⟨false, c, g, ra, rl, rc, rows, ca, cl, cc, cells, pa, pl, pc⟩ true HO.out _).mono ?_
    rintro e w1 ⟨rfl, hb1⟩
    obtain ⟨⟨p0, p1, p2⟩, q0, q1, q2, q3, q4, q5⟩ := (HX.out _ hb1).out
    go_wp2_with fail
    go_ret
    exact ⟨rbool HR2.out, hB.out.trans (hb1.mono hB.out.size)⟩
  ·have HO : Hid (onlyB false true false false ⟨false, c, g, ra, rl, rc, rows, ca, cl, cc, cells, pa, pl, pc⟩ = bb) := hbb
   clear hbb
   cases bb
   ·have HR2 : Hid (false = r) := by show _ = _; rw [← HR.out]; simp
    go_enter Try.func66, Try.ntmps66
    go_wp2_with fail
    refine (plainR_2 ⟨false, c, g, ra, rl, rc, rows, ca, cl, cc, cells, pa, pl, pc⟩ false HO.out _).mono ?_
    rintro e w1 ⟨rfl, hb1⟩
    go_wp2_with fail
    go_ret
    exact ⟨rbool HR2.out, hB.out.trans (hb1.mono hB.out.size)⟩
   obtain ⟨ck, hck⟩ : ∃ k, checkE n g rows = k := ⟨_, rfl⟩
   have HCK := Lib.hid hck
   have HR3 : Hid ((ck == 0) = r) := by show _ = _; rw [← HR.out, hck, int_eq0]; simp
   clear hck
   go_enter Try.func66, Try.ntmps66
   go_wp2_with fail
   refine (plainR_2 ⟨false, c, g, ra, rl, rc, rows, ca, cl, cc, cells, pa, pl, pc⟩ true HO.out _).mono ?_
   rintro e w1 ⟨rfl, hb1⟩
   obtain ⟨⟨p0, p1, p2⟩, q0, q1, q2, q3, q4, q5⟩ := (HX.out _ hb1).out
   have hB1 := hB.out.trans (hb1.mono hB.out.size)
   go_wp2_with fail
   refine (checkR_any n ra rc g rows _ (HF0.out.below hB1) ck HCK.out rl HF0.out.rl).mono ?_
   rintro e w2 ⟨rfl, hb2⟩
   go_wp2_with fail
   go_ret
   exact ⟨rbool HR3.out, hB1.trans (hb2.mono hB1.size)⟩
  ·have HO : Hid (onlyB false false true false ⟨false, c, g, ra, rl, rc, rows, ca, cl, cc, cells, pa, pl, pc⟩ = bb) := hbb
   clear hbb
   obtain ⟨m, rfl⟩ : ∃ m : Nat, n = m := ⟨n.toNat, by have := HDIM.out.1; omega⟩
   have hm64 : m ≤ 64 := by have := HDIM.out.2.2.2 (.inr rfl); omega
   have hclen := HF0.out.cl
   dsimp only at hclen
   cases bb
   ·have HR2 : Hid (false = r) := by show _ = _; rw [← HR.out]; simp
    go_enter Try.func66, Try.ntmps66
    go_wp2_with fail
    refine (plainR_3 ⟨false, c, g, ra, rl, rc, rows, ca, cl, cc, cells, pa, pl, pc⟩ false HO.out _).mono ?_
    rintro e w1 ⟨rfl, hb1⟩
    go_wp2_with fail
    go_ret
    exact ⟨rbool HR2.out, hB.out.trans (hb1.mono hB.out.size)⟩
   have HR3 : Hid ((decide (cl = m) && cells.all (okAt m)) = r) := by
    show _ = _
    rw [← HR.out]
    have e := chkC_iff (cs := cells) (n := (m : Int)) ⟨by omega, by omega⟩
    rw [Int.toNat_natCast, hclen] at e
    simp [e]
    congr 1; rw [Bool.eq_iff_iff, decide_eq_true_eq, decide_eq_true_eq]; omega
   clear HDIM HR
   by_cases hlm : cl = m
   ·subst hlm
    have HRA : Hid (cells.all (okAt cl) = r) := by show _ = _; rw [← HR3.out]; simp
    have HL := Lib.hid hclen
    clear hclen HR3
    go_enter Try.func66, Try.ntmps66
    go_wp2_with fail
    refine (plainR_3 ⟨false, c, g, ra, rl, rc, rows, ca, cl, cc, cells, pa, pl, pc⟩ true HO.out _).mono ?_
    rintro e w1 ⟨rfl, hb1⟩
    obtain ⟨⟨p0, p1, p2⟩, q0, q1, q2, q3, q4, q5⟩ := (HX.out _ hb1).out
    clear x0 x1 x2 y0 y1 y2 y3 y4 y5
    go_wp2_with fail
    clear p0 p1 p2 q0 q1 q2 q3 q4 q5
    go_loopw [5] (fun i wr => ∃ k : Nat, k ≤ cl ∧ i = .int .i64 k ∧ Hid (∀ (i : Nat) x, i < k → cells[i]? = some x → okAt cl x = true) ∧ Below W0.heap.size W0 wr) (fun i _ => cl - (intOf i).toNat)
    case atStart => exact ⟨0, Nat.zero_le _, rfl, fun i x h => by omega, hb1⟩
    case round =>
     obtain ⟨k, hk, rfl, HK, hb⟩ := hrel
     obtain ⟨⟨p0, p1, p2⟩, q0, q1, q2, q3, q4, q5⟩ := (HX.out _ hb).out
     by_cases hlt : k < cl
     ·have hB2 := hB.out.trans (hb.mono hB.out.size)
      obtain ⟨b, off, ⟨cf, ck, cv⟩, rfl, hx, hbl, d0, d1, d2⟩ := (HF0.out.below hB2).cells.at_ (k := k) (by show k < cells.length; rw [HL.out]; exact hlt)
      have hcf : cf < 18446744073709551616 := HF0.out.bits _ (List.mem_of_getElem? hx)
      obtain ⟨ok, hok⟩ : ∃ o, okAt cl ⟨cf, ck, cv⟩ = o := ⟨_, rfl⟩
      have HOK := Lib.hid hok
      have g0 : (0 : Int) ≤ (k : Int) := by omega
      have g1 : (k : Int) < (cl : Int) := by omega
      have HBB2 := Lib.hid hb
      have HSS : Hid (∀ W : World, Below wr.heap.size wr W → (W.cell? ⟨w.heap.size, 1, none⟩ = some (.int .i64 cl) ∧ W.cell? ⟨w.heap.size + 1, 4, none⟩ = some (.slice (some ⟨b, off, none⟩) cl cc) ∧ W.cell? ⟨b, off + k * 3, none⟩ = some (.int .u64 (cf : Int)) ∧ W.cell? ⟨b, off + k * 3 + 1, none⟩ = some (.int .i64 ck) ∧ W.cell? ⟨b, off + k * 3 + 2, none⟩ = some (.int .i64 cv))) := fun W h => ⟨cell_old p1 h, cell_old q4 h, cell_old d0 h, cell_old d1 h, cell_old d2 h⟩
      cases ok
      ·have HRF : Hid (false = r) := by show _ = _; rw [← HRA.out, eq_comm, List.all_eq_false]; exact ⟨_, List.mem_of_getElem? hx, by rw [hok]; simp⟩
       clear hx hok
       go_wp2_with fail
       go_region_held3 (fun w' => w'.cell? ⟨w.heap.size, 1, none⟩ = some (.int .i64 cl) ∧ w'.cell? ⟨w.heap.size + 1, 4, none⟩ = some (.slice (some ⟨b, off, none⟩) cl cc) ∧ w'.cell? ⟨b, off + k * 3, none⟩ = some (.int .u64 (cf : Int)) ∧ w'.cell? ⟨b, off + k * 3 + 1, none⟩ = some (.int .i64 ck) ∧ w'.cell? ⟨b, off + k * 3 + 2, none⟩ = some (.int .i64 cv))
        (first | exact HSS.out _ (Below.refl _ _).drew | exact HSS.out _ (Below.refl _ _) | exact HSS.out _ D1.out | fail)
        (first | (go_at_call 91; refine (cellR_is cl hm64 cf ck cv hcf false HOK.out _).mono ?_; rintro e w3 ⟨rfl, hb3⟩; have D1 : Hid (Below wr.heap.size wr w3) := (Below.refl _ _).drew.trans hb3) | fail)
       all_goals
        go_wp2_with fail
        go_ret
        exact ⟨rbool HRF.out, hB2.trans (D1.out.mono hB2.size)⟩
      ·have HN : Hid (∀ (i : Nat) x, i < k + 1 → cells[i]? = some x → okAt cl x = true) := fun i y hi hy => by
        by_cases e : i = k
        ·subst e; rw [hx] at hy; cases hy; exact hok
        ·exact HK.out i y (by omega) hy
       clear hx hok
       go_wp2_with fail
       go_region_held3 (fun w' => w'.cell? ⟨w.heap.size, 1, none⟩ = some (.int .i64 cl) ∧ w'.cell? ⟨w.heap.size + 1, 4, none⟩ = some (.slice (some ⟨b, off, none⟩) cl cc) ∧ w'.cell? ⟨b, off + k * 3, none⟩ = some (.int .u64 (cf : Int)) ∧ w'.cell? ⟨b, off + k * 3 + 1, none⟩ = some (.int .i64 ck) ∧ w'.cell? ⟨b, off + k * 3 + 2, none⟩ = some (.int .i64 cv))
        (first | exact HSS.out _ (Below.refl _ _).drew | exact HSS.out _ (Below.refl _ _) | exact HSS.out _ D1.out | fail)
        (first | (go_at_call 91; refine (cellR_is cl hm64 cf ck cv hcf true HOK.out _).mono ?_; rintro e w3 ⟨rfl, hb3⟩; have D1 : Hid (Below wr.heap.size wr w3) := (Below.refl _ _).drew.trans hb3) | fail)
       all_goals
        go_wp2_with fail
        go_roundw
        case rel => exact ⟨k + 1, by omega, by go_num, HN, HBB2.out.trans (D1.out.mono HBB2.out.size)⟩
        case measure => simp [intOf]; omega
     ·have HRT : Hid (true = r) := by show _ = _; rw [← HRA.out, all_upto HK.out (by rw [HL.out]; omega)]
      have g1 : (cl : Int) ≤ (k : Int) := by omega
      go_wp2_with fail
      go_ret
      exact ⟨rbool HRT.out, hB.out.trans (hb.mono hB.out.size)⟩
   ·have HR2 : Hid (false = r) := by show _ = _; rw [← HR3.out]; simp [hlm]
    have hne : ((cl : Int) != (m : Int)) = true := by simp; omega
    clear hlm hclen
    go_enter Try.func66, Try.ntmps66
    go_wp2_with fail
    refine (plainR_3 ⟨false, c, g, ra, rl, rc, rows, ca, cl, cc, cells, pa, pl, pc⟩ true HO.out _).mono ?_
    rintro e w1 ⟨rfl, hb1⟩
    obtain ⟨⟨p0, p1, p2⟩, q0, q1, q2, q3, q4, q5⟩ := (HX.out _ hb1).out
    go_wp2_with fail
    go_ret
    exact ⟨rbool HR2.out, hB.out.trans (hb1.mono hB.out.size)⟩
 ·have HO : Hid (onlyB false false false false ⟨true, c, g, ra, rl, rc, rows, ca, cl, cc, cells, pa, pl, pc⟩ = bb) := hbb
  have HR2 : Hid (bb = r) := by show _ = _; rw [← HR.out]; simp
  clear hbb HR ht
  go_enter Try.func66, Try.ntmps66
  go_wp2_with fail
  refine (plainR_0 ⟨true, c, g, ra, rl, rc, rows, ca, cl, cc, cells, pa, pl, pc⟩ bb HO.out _).mono ?_
  rintro e w1 ⟨rfl, hb1⟩
  go_wp2_with fail
  go_ret
  exact ⟨rbool HR2.out, hB.out.trans (hb1.mono hB.out.size)⟩
set_option maxHeartbeats 8000000 in
theorem isR_pairY (d : Nat) (sa : Option Addr) (sc : Nat) (p q : SV) (g : WF) (qs : List WV) (w : World) (hsp : SIn w (d + 1) (.mk ⟨5, 0, sa, 2, sc⟩ [p, q])) (hp : p.pl = true) (hq : q.pl = true) (e : Nat) (hw : WIn w (e + 1) (.mk g qs)) (hs : ∀ x ∈ qs, 0 ≤ x.f.rl) (r : Bool) (hr : pairOk p q g qs = r) :
  Calls Try.prog 66 #[.agg #[.int .i64 5, .int .i64 0, .slice sa 2 sc], g.val] w fun e w' => e = .returned (.bool r) ∧ Below w.heap.size w w' := by
 obtain ⟨_, b, off, ha, hb, hp3, hq3, _, _⟩ := hsp.two
 obtain rfl : sa = some ⟨b, off, none⟩ := ha
 obtain ⟨⟨pt, pn, pa, pl, pc⟩, pps⟩ := p
 obtain ⟨⟨qt, qn, qa, ql, qc⟩, qps⟩ := q
 have HP : Hid (plainB pt pn pl = true) := hp; have HQ : Hid (plainB qt qn ql = true) := hq; have HP3 := Lib.hid hp3; have HQ3 := Lib.hid hq3
 obtain ⟨gz, gc, gg, gra, grl, grc, grows, gca, gcl, gcc, gcells, gpa, gpl, gpc⟩ := g
 show Calls Try.prog 66 #[.agg #[.int .i64 5, .int .i64 0, .slice (some ⟨b, off, none⟩) 2 sc], .agg #[.bool gz, .int .i64 gc, .int .u64 (gg : Int), .slice gra grl grc, .slice gca gcl gcc, .slice gpa gpl gpc]] w _
 have hgl : qs.length = gpl := hw.2.1
 obtain ⟨bb, hbb⟩ : ∃ b, bareB 5 ⟨gz, gc, gg, gra, grl, grc, grows, gca, gcl, gcc, gcells, gpa, gpl, gpc⟩ = b := ⟨_, rfl⟩
 have HBB := Lib.hid hbb
 have hB := Lib.hid (wbox w #[.int .i64 5, .int .i64 0, .slice (some ⟨b, off, none⟩) 2 sc] #[.bool gz, .int .i64 gc, .int .u64 (gg : Int), .slice gra grl grc, .slice gca gcl gcc, .slice gpa gpl gpc] 25 45)
 obtain ⟨t0, t1⟩ := two_boxes2 w #[.int .i64 5, .int .i64 0, .slice (some ⟨b, off, none⟩) 2 sc] #[.bool gz, .int .i64 gc, .int .u64 (gg : Int), .slice gra grl grc, .slice gca gcl gcc, .slice gpa gpl gpc] 25 45
 have T0 := Lib.hid t0; have T1 := Lib.hid t1
 obtain ⟨W0, hW0⟩ : ∃ W, (w.alloc (.cells #[.int .i64 5, .int .i64 0, .slice (some ⟨b, off, none⟩) 2 sc] 25)).alloc (.cells #[.bool gz, .int .i64 gc, .int .u64 (gg : Int), .slice gra grl grc, .slice gca gcl gcc, .slice gpa gpl gpc] 45) = W := ⟨_, rfl⟩
 rw [hW0] at hB T0 T1
 obtain ⟨x0, x1, x2⟩ := tri_cells T0.out
 obtain ⟨y0, y1, y2, y3, y4, y5⟩ := six_cells T1.out
 have HR := Lib.hid hr
 cases gz
 rotate_left
 ·have HF : Hid (false = r) := by show _ = _; rw [← HR.out, pairOk]; simp
  clear hr hbb hsp hw hs hp hq hp3 hq3
  go_enter Try.func66, Try.ntmps66
  go_wp2_with fail
  go_ret
  exact ⟨rbool HF.out, hB.out⟩
 have HO : Hid (onlyB false false false true ⟨false, gc, gg, gra, grl, grc, grows, gca, gcl, gcc, gcells, gpa, gpl, gpc⟩ = bb) := hbb
 cases bb
 ·have hzz := True.intro
  have HF : Hid (false = r) := by show _ = _; rw [← HR.out, pairOk, HBB.out]; rfl
  clear hr hbb hsp hw hs hp hq hp3 hq3
  go_enter Try.func66, Try.ntmps66
  go_wp2_with fail
  have EN : Hid (∀ W : World, Below W0.heap.size W0 W → W.cell? ⟨w.heap.size, 0, none⟩ = some (.int .i64 5) ∧ W.cell? ⟨w.heap.size, 1, none⟩ = some (.int .i64 0) ∧ W.cell? ⟨w.heap.size, 2, none⟩ = some (.slice (some ⟨b, off, none⟩) 2 sc) ∧ W.cell? ⟨w.heap.size + 1, 0, none⟩ = some (.bool false) ∧ W.cell? ⟨w.heap.size + 1, 1, none⟩ = some (.int .i64 gc) ∧ W.cell? ⟨w.heap.size + 1, 2, none⟩ = some (.int .u64 (gg : Int)) ∧ W.cell? ⟨w.heap.size + 1, 3, none⟩ = some (.slice gra grl grc) ∧ W.cell? ⟨w.heap.size + 1, 4, none⟩ = some (.slice gca gcl gcc) ∧ W.cell? ⟨w.heap.size + 1, 5, none⟩ = some (.slice gpa gpl gpc)) := fun W h => by obtain ⟨a0, a1, a2⟩ := tri_cells (heap_old (heap_old T0.out (Below.refl _ _)) h); obtain ⟨c0, c1, c2, c3, c4, c5⟩ := six_cells (heap_old (heap_old T1.out (Below.refl _ _)) h); exact ⟨a0, a1, a2, c0, c1, c2, c3, c4, c5⟩
  clear x0 x1 x2 y0 y1 y2 y3 y4 y5
  obtain ⟨m0, m1, m2, m3, m4, m5, m6, m7, m8⟩ := EN.out _ (Below.refl _ _)
  have D0 : Hid (Below W0.heap.size W0 W0.drew) := (Below.refl _ _).drew
  refine wp_region_held_drew (S := (fun w' => w'.cell? ⟨w.heap.size, 0, none⟩ = some (.int .i64 5) ∧ w'.cell? ⟨w.heap.size, 1, none⟩ = some (.int .i64 0) ∧ w'.cell? ⟨w.heap.size, 2, none⟩ = some (.slice (some ⟨b, off, none⟩) 2 sc) ∧ w'.cell? ⟨w.heap.size + 1, 0, none⟩ = some (.bool false) ∧ w'.cell? ⟨w.heap.size + 1, 1, none⟩ = some (.int .i64 gc) ∧ w'.cell? ⟨w.heap.size + 1, 2, none⟩ = some (.int .u64 (gg : Int)) ∧ w'.cell? ⟨w.heap.size + 1, 3, none⟩ = some (.slice gra grl grc) ∧ w'.cell? ⟨w.heap.size + 1, 4, none⟩ = some (.slice gca gcl gcc) ∧ w'.cell? ⟨w.heap.size + 1, 5, none⟩ = some (.slice gpa gpl gpc))) (by kernel_rfl) (by with_reducible exact EN.out _ D0.out) (fun hHeld => ?_)
  refine wpAnyH_take (i := 0) (oi := { dst := some 78, op := Op.load 45 (Operand.tmp 3), type := 45, pos := "ref.go:88", after := #[], guard := none }) (v := ?v0x3) rfl (by kernel_rfl) (by kernel_rfl) (by kernel_rfl) (fun _ _ _ h => h) (Or.inl ⟨by rfl, ?hy0x3⟩) (by assumption) ?rest0x3
  case hy0x3 => (intro w hSw; (try dsimp only at hSw); go_simp; try with_reducible rfl)
  try simp only [Act.put, List.setIfInBounds_toArray, List.set_cons_zero, List.set_cons_succ]
  refine wpAnyH_ready (rs := [1]) (by kernel_rfl) (by simp) (AllReadyH.cons (o := { dst := some 79, op := Op.call { callee := Callee.value (Operand.func 89), args := #[Operand.tmp 78, Operand.const (Value.bool false), Operand.const (Value.bool false), Operand.const (Value.bool false), Operand.const (Value.bool true)], argTypes := #[45, 4, 4, 4, 4] }, type := 4, pos := "ref.go:88", after := #[{ on := 0, ground := Ground.data }], guard := none }) rfl (fun K hK => ?_) AllReadyH.nil)
  go_simp
  go_at_call 89
  refine (plainR_4 ⟨false, gc, gg, gra, grl, grc, grows, gca, gcl, gcc, gcells, gpa, gpl, gpc⟩ false HO.out _).mono ?_
  rintro e w2 ⟨rfl, hb2⟩
  have D1 : Hid (Below W0.heap.size W0 w2) := Lib.hid (D0.out.trans (hb2.mono D0.out.size))
  dsimp only
  refine hK.out _ _ (by with_reducible exact EN.out _ D1.out) (fun hHeld1 => ?_)
  clear hK K
  try simp only [Act.put, List.setIfInBounds_toArray, List.set_cons_zero, List.set_cons_succ]
  refine wpAnyH_take (i := 2) (oi := { dst := some 80, op := Op.move (Operand.tmp 79), type := 4, pos := "ref.go:88", after := #[{ on := 1, ground := Ground.data }, { on := 1, ground := Ground.chain }], guard := none }) (v := ?v2x3) rfl (by kernel_rfl) (by kernel_rfl) (by kernel_rfl) (fun _ _ _ h => h) (Or.inl ⟨by rfl, ?hy2x3⟩) (by assumption) ?rest2x3
  case hy2x3 => (intro w hSw; (try dsimp only at hSw); go_simp; try with_reducible rfl)
  try simp only [Act.put, List.setIfInBounds_toArray, List.set_cons_zero, List.set_cons_succ]
  refine wpAnyH_take (i := 3) (oi := { dst := some 81, op := Op.fieldAddr 45 (Operand.tmp 3) 4, type := 0, pos := "ref.go:88", after := #[{ on := 2, ground := Ground.guard }], guard := some (2, true) }) (v := undef) rfl (by kernel_rfl) (by kernel_rfl) (by kernel_rfl) (fun _ _ _ h => h) (Or.inr ⟨by rfl, rfl⟩) (by assumption) ?rest3x3
  try simp only [Act.put, List.setIfInBounds_toArray, List.set_cons_zero, List.set_cons_succ]
  refine wpAnyH_take (i := 4) (oi := { dst := some 82, op := Op.load 43 (Operand.tmp 81), type := 43, pos := "ref.go:88", after := #[{ on := 3, ground := Ground.data }, { on := 2, ground := Ground.guard }], guard := some (2, true) }) (v := undef) rfl (by kernel_rfl) (by kernel_rfl) (by kernel_rfl) (fun _ _ _ h => h) (Or.inr ⟨by rfl, rfl⟩) (by assumption) ?rest4x3
  try simp only [Act.put, List.setIfInBounds_toArray, List.set_cons_zero, List.set_cons_succ]
  refine wpAnyH_take (i := 5) (oi := { dst := some 83, op := Op.call { callee := Callee.builtin Builtin.len, args := #[Operand.tmp 82], argTypes := #[43] }, type := 3, pos := "ref.go:88", after := #[{ on := 4, ground := Ground.data }, { on := 2, ground := Ground.guard }], guard := some (2, true) }) (v := undef) rfl (by kernel_rfl) (by kernel_rfl) (by kernel_rfl) (fun _ _ _ h => h) (Or.inr ⟨by rfl, rfl⟩) (by assumption) ?rest5x3
  try simp only [Act.put, List.setIfInBounds_toArray, List.set_cons_zero, List.set_cons_succ]
  refine wpAnyH_take (i := 6) (oi := { dst := some 84, op := Op.binOp BinOp.eql 3 (Operand.tmp 83) (Operand.const (Value.int IntKind.i64 2)) 3, type := 4, pos := "ref.go:88", after := #[{ on := 5, ground := Ground.data }, { on := 2, ground := Ground.guard }], guard := some (2, true) }) (v := undef) rfl (by kernel_rfl) (by kernel_rfl) (by kernel_rfl) (fun _ _ _ h => h) (Or.inr ⟨by rfl, rfl⟩) (by assumption) ?rest6x3
  try simp only [Act.put, List.setIfInBounds_toArray, List.set_cons_zero, List.set_cons_succ]
  refine wpAnyH_take (i := 7) (oi := { dst := some 85, op := Op.pick (Operand.tmp 80) (Operand.tmp 84) (Operand.const (Value.bool false)), type := 4, pos := "ref.go:88", after := #[{ on := 2, ground := Ground.data }, { on := 6, ground := Ground.data }], guard := none }) (v := ?v7x3) rfl (by kernel_rfl) (by kernel_rfl) (by kernel_rfl) (fun _ _ _ h => h) (Or.inl ⟨by rfl, ?hy7x3⟩) (by assumption) ?rest7x3
  case hy7x3 => (intro w hSw; (try dsimp only at hSw); go_simp; try with_reducible rfl)
  try simp only [Act.put, List.setIfInBounds_toArray, List.set_cons_zero, List.set_cons_succ]
  refine wpAnyH_take (i := 8) (oi := { dst := some 86, op := Op.move (Operand.tmp 85), type := 4, pos := "ref.go:88", after := #[{ on := 7, ground := Ground.data }, { on := 2, ground := Ground.chain }], guard := none }) (v := ?v8x3) rfl (by kernel_rfl) (by kernel_rfl) (by kernel_rfl) (fun _ _ _ h => h) (Or.inl ⟨by rfl, ?hy8x3⟩) (by assumption) ?rest8x3
  case hy8x3 => (intro w hSw; (try dsimp only at hSw); go_simp; try with_reducible rfl)
  try simp only [Act.put, List.setIfInBounds_toArray, List.set_cons_zero, List.set_cons_succ]
  refine wpAnyH_take (i := 9) (oi := { dst := some 87, op := Op.fieldAddr 25 (Operand.tmp 2) 2, type := 0, pos := "ref.go:88", after := #[{ on := 8, ground := Ground.guard }], guard := some (8, true) }) (v := undef) rfl (by kernel_rfl) (by kernel_rfl) (by kernel_rfl) (fun _ _ _ h => h) (Or.inr ⟨by rfl, rfl⟩) (by assumption) ?rest9x3
  try simp only [Act.put, List.setIfInBounds_toArray, List.set_cons_zero, List.set_cons_succ]
  refine wpAnyH_take (i := 10) (oi := { dst := some 88, op := Op.load 23 (Operand.tmp 87), type := 23, pos := "ref.go:88", after := #[{ on := 9, ground := Ground.data }, { on := 8, ground := Ground.guard }], guard := some (8, true) }) (v := undef) rfl (by kernel_rfl) (by kernel_rfl) (by kernel_rfl) (fun _ _ _ h => h) (Or.inr ⟨by rfl, rfl⟩) (by assumption) ?rest10x3
  try simp only [Act.put, List.setIfInBounds_toArray, List.set_cons_zero, List.set_cons_succ]
  refine wpAnyH_take (i := 11) (oi := { dst := some 89, op := Op.indexAddr 23 (Operand.tmp 88) (Operand.const (Value.int IntKind.i64 0)), type := 0, pos := "ref.go:88", after := #[{ on := 10, ground := Ground.data }, { on := 8, ground := Ground.guard }], guard := some (8, true) }) (v := undef) rfl (by kernel_rfl) (by kernel_rfl) (by kernel_rfl) (fun _ _ _ h => h) (Or.inr ⟨by rfl, rfl⟩) (by assumption) ?rest11x3
  try simp only [Act.put, List.setIfInBounds_toArray, List.set_cons_zero, List.set_cons_succ]
  refine wpAnyH_take (i := 12) (oi := { dst := some 90, op := Op.load 25 (Operand.tmp 89), type := 25, pos := "ref.go:88", after := #[{ on := 11, ground := Ground.data }, { on := 8, ground := Ground.guard }], guard := some (8, true) }) (v := undef) rfl (by kernel_rfl) (by kernel_rfl) (by kernel_rfl) (fun _ _ _ h => h) (Or.inr ⟨by rfl, rfl⟩) (by assumption) ?rest12x3
  try simp only [Act.put, List.setIfInBounds_toArray, List.set_cons_zero, List.set_cons_succ]
  refine wpAnyH_take (i := 13) (oi := { dst := some 91, op := Op.fieldAddr 45 (Operand.tmp 3) 4, type := 0, pos := "ref.go:88", after := #[{ on := 8, ground := Ground.guard }], guard := some (8, true) }) (v := undef) rfl (by kernel_rfl) (by kernel_rfl) (by kernel_rfl) (fun _ _ _ h => h) (Or.inr ⟨by rfl, rfl⟩) (by assumption) ?rest13x3
  try simp only [Act.put, List.setIfInBounds_toArray, List.set_cons_zero, List.set_cons_succ]
  refine wpAnyH_take (i := 14) (oi := { dst := some 92, op := Op.load 43 (Operand.tmp 91), type := 43, pos := "ref.go:88", after := #[{ on := 13, ground := Ground.data }, { on := 8, ground := Ground.guard }], guard := some (8, true) }) (v := undef) rfl (by kernel_rfl) (by kernel_rfl) (by kernel_rfl) (fun _ _ _ h => h) (Or.inr ⟨by rfl, rfl⟩) (by assumption) ?rest14x3
  try simp only [Act.put, List.setIfInBounds_toArray, List.set_cons_zero, List.set_cons_succ]
  refine wpAnyH_take (i := 15) (oi := { dst := some 93, op := Op.indexAddr 43 (Operand.tmp 92) (Operand.const (Value.int IntKind.i64 0)), type := 0, pos := "ref.go:88", after := #[{ on := 14, ground := Ground.data }, { on := 8, ground := Ground.guard }], guard := some (8, true) }) (v := undef) rfl (by kernel_rfl) (by kernel_rfl) (by kernel_rfl) (fun _ _ _ h => h) (Or.inr ⟨by rfl, rfl⟩) (by assumption) ?rest15x3
  try simp only [Act.put, List.setIfInBounds_toArray, List.set_cons_zero, List.set_cons_succ]
  refine wpAnyH_take (i := 16) (oi := { dst := some 94, op := Op.load 45 (Operand.tmp 93), type := 45, pos := "ref.go:88", after := #[{ on := 15, ground := Ground.data }, { on := 8, ground := Ground.guard }], guard := some (8, true) }) (v := undef) rfl (by kernel_rfl) (by kernel_rfl) (by kernel_rfl) (fun _ _ _ h => h) (Or.inr ⟨by rfl, rfl⟩) (by assumption) ?rest16x3
  try simp only [Act.put, List.setIfInBounds_toArray, List.set_cons_zero, List.set_cons_succ]
  refine wpAnyH_take (i := 17) (oi := { dst := some 95, op := Op.call { callee := Callee.value (Operand.func 66), args := #[Operand.tmp 90, Operand.tmp 94], argTypes := #[25, 45] }, type := 4, pos := "ref.go:88", after := #[{ on := 12, ground := Ground.data }, { on := 16, ground := Ground.data }, { on := 8, ground := Ground.chain }, { on := 8, ground := Ground.guard }], guard := some (8, true) }) (v := undef) rfl (by kernel_rfl) (by kernel_rfl) (by kernel_rfl) (fun _ _ _ h => h) (Or.inr ⟨by rfl, rfl⟩) (by assumption) ?rest17x3
  try simp only [Act.put, List.setIfInBounds_toArray, List.set_cons_zero, List.set_cons_succ]
  refine wpAnyH_take (i := 18) (oi := { dst := some 96, op := Op.pick (Operand.tmp 86) (Operand.tmp 95) (Operand.const (Value.bool false)), type := 4, pos := "ref.go:88", after := #[{ on := 8, ground := Ground.data }, { on := 17, ground := Ground.data }], guard := none }) (v := ?v18x3) rfl (by kernel_rfl) (by kernel_rfl) (by kernel_rfl) (fun _ _ _ h => h) (Or.inl ⟨by rfl, ?hy18x3⟩) (by assumption) ?rest18x3
  case hy18x3 => (intro w hSw; (try dsimp only at hSw); go_simp; try with_reducible rfl)
  try simp only [Act.put, List.setIfInBounds_toArray, List.set_cons_zero, List.set_cons_succ]
  refine wpAnyH_take (i := 19) (oi := { dst := some 97, op := Op.move (Operand.tmp 96), type := 4, pos := "ref.go:88", after := #[{ on := 18, ground := Ground.data }, { on := 17, ground := Ground.chain }], guard := none }) (v := ?v19x3) rfl (by kernel_rfl) (by kernel_rfl) (by kernel_rfl) (fun _ _ _ h => h) (Or.inl ⟨by rfl, ?hy19x3⟩) (by assumption) ?rest19x3
  case hy19x3 => (intro w hSw; (try dsimp only at hSw); go_simp; try with_reducible rfl)
  try simp only [Act.put, List.setIfInBounds_toArray, List.set_cons_zero, List.set_cons_succ]
  refine wpAnyH_take (i := 20) (oi := { dst := some 98, op := Op.fieldAddr 25 (Operand.tmp 2) 2, type := 0, pos := "ref.go:88", after := #[{ on := 19, ground := Ground.guard }], guard := some (19, true) }) (v := undef) rfl (by kernel_rfl) (by kernel_rfl) (by kernel_rfl) (fun _ _ _ h => h) (Or.inr ⟨by rfl, rfl⟩) (by assumption) ?rest20x3
  try simp only [Act.put, List.setIfInBounds_toArray, List.set_cons_zero, List.set_cons_succ]
  refine wpAnyH_take (i := 21) (oi := { dst := some 99, op := Op.load 23 (Operand.tmp 98), type := 23, pos := "ref.go:88", after := #[{ on := 20, ground := Ground.data }, { on := 19, ground := Ground.guard }], guard := some (19, true) }) (v := undef) rfl (by kernel_rfl) (by kernel_rfl) (by kernel_rfl) (fun _ _ _ h => h) (Or.inr ⟨by rfl, rfl⟩) (by assumption) ?rest21x3
  try simp only [Act.put, List.setIfInBounds_toArray, List.set_cons_zero, List.set_cons_succ]
  refine wpAnyH_take (i := 22) (oi := { dst := some 100, op := Op.indexAddr 23 (Operand.tmp 99) (Operand.const (Value.int IntKind.i64 1)), type := 0, pos := "ref.go:88", after := #[{ on := 21, ground := Ground.data }, { on := 19, ground := Ground.guard }], guard := some (19, true) }) (v := undef) rfl (by kernel_rfl) (by kernel_rfl) (by kernel_rfl) (fun _ _ _ h => h) (Or.inr ⟨by rfl, rfl⟩) (by assumption) ?rest22x3
  try simp only [Act.put, List.setIfInBounds_toArray, List.set_cons_zero, List.set_cons_succ]
  refine wpAnyH_take (i := 23) (oi := { dst := some 101, op := Op.load 25 (Operand.tmp 100), type := 25, pos := "ref.go:88", after := #[{ on := 22, ground := Ground.data }, { on := 19, ground := Ground.guard }], guard := some (19, true) }) (v := undef) rfl (by kernel_rfl) (by kernel_rfl) (by kernel_rfl) (fun _ _ _ h => h) (Or.inr ⟨by rfl, rfl⟩) (by assumption) ?rest23x3
  try simp only [Act.put, List.setIfInBounds_toArray, List.set_cons_zero, List.set_cons_succ]
  refine wpAnyH_take (i := 24) (oi := { dst := some 102, op := Op.fieldAddr 45 (Operand.tmp 3) 4, type := 0, pos := "ref.go:88", after := #[{ on := 19, ground := Ground.guard }], guard := some (19, true) }) (v := undef) rfl (by kernel_rfl) (by kernel_rfl) (by kernel_rfl) (fun _ _ _ h => h) (Or.inr ⟨by rfl, rfl⟩) (by assumption) ?rest24x3
  try simp only [Act.put, List.setIfInBounds_toArray, List.set_cons_zero, List.set_cons_succ]
  refine wpAnyH_take (i := 25) (oi := { dst := some 103, op := Op.load 43 (Operand.tmp 102), type := 43, pos := "ref.go:88", after := #[{ on := 24, ground := Ground.data }, { on := 19, ground := Ground.guard }], guard := some (19, true) }) (v := undef) rfl (by kernel_rfl) (by kernel_rfl) (by kernel_rfl) (fun _ _ _ h => h) (Or.inr ⟨by rfl, rfl⟩) (by assumption) ?rest25x3
  try simp only [Act.put, List.setIfInBounds_toArray, List.set_cons_zero, List.set_cons_succ]
  refine wpAnyH_take (i := 26) (oi := { dst := some 104, op := Op.indexAddr 43 (Operand.tmp 103) (Operand.const (Value.int IntKind.i64 1)), type := 0, pos := "ref.go:88", after := #[{ on := 25, ground := Ground.data }, { on := 19, ground := Ground.guard }], guard := some (19, true) }) (v := undef) rfl (by kernel_rfl) (by kernel_rfl) (by kernel_rfl) (fun _ _ _ h => h) (Or.inr ⟨by rfl, rfl⟩) (by assumption) ?rest26x3
  try simp only [Act.put, List.setIfInBounds_toArray, List.set_cons_zero, List.set_cons_succ]
  refine wpAnyH_take (i := 27) (oi := { dst := some 105, op := Op.load 45 (Operand.tmp 104), type := 45, pos := "ref.go:88", after := #[{ on := 26, ground := Ground.data }, { on := 19, ground := Ground.guard }], guard := some (19, true) }) (v := undef) rfl (by kernel_rfl) (by kernel_rfl) (by kernel_rfl) (fun _ _ _ h => h) (Or.inr ⟨by rfl, rfl⟩) (by assumption) ?rest27x3
  try simp only [Act.put, List.setIfInBounds_toArray, List.set_cons_zero, List.set_cons_succ]
  refine wpAnyH_take (i := 28) (oi := { dst := some 106, op := Op.call { callee := Callee.value (Operand.func 66), args := #[Operand.tmp 101, Operand.tmp 105], argTypes := #[25, 45] }, type := 4, pos := "ref.go:88", after := #[{ on := 23, ground := Ground.data }, { on := 27, ground := Ground.data }, { on := 19, ground := Ground.chain }, { on := 19, ground := Ground.guard }], guard := some (19, true) }) (v := undef) rfl (by kernel_rfl) (by kernel_rfl) (by kernel_rfl) (fun _ _ _ h => h) (Or.inr ⟨by rfl, rfl⟩) (by assumption) ?rest28x3
  try simp only [Act.put, List.setIfInBounds_toArray, List.set_cons_zero, List.set_cons_succ]
  refine wpAnyH_take (i := 29) (oi := { dst := some 107, op := Op.pick (Operand.tmp 97) (Operand.tmp 106) (Operand.const (Value.bool false)), type := 4, pos := "ref.go:88", after := #[{ on := 19, ground := Ground.data }, { on := 28, ground := Ground.data }], guard := none }) (v := ?v29x3) rfl (by kernel_rfl) (by kernel_rfl) (by kernel_rfl) (fun _ _ _ h => h) (Or.inl ⟨by rfl, ?hy29x3⟩) (by assumption) ?rest29x3
  case hy29x3 => (intro w hSw; (try dsimp only at hSw); go_simp; try with_reducible rfl)
  try simp only [Act.put, List.setIfInBounds_toArray, List.set_cons_zero, List.set_cons_succ]
  refine wpAnyH_take (i := 30) (oi := { dst := some 4, op := Op.assign (Operand.tmp 107), type := 4, pos := "ref.go:88", after := #[{ on := 29, ground := Ground.data }, { on := 28, ground := Ground.chain }, { on := 0, ground := Ground.phase }, { on := 1, ground := Ground.phase }, { on := 2, ground := Ground.phase }, { on := 3, ground := Ground.phase }, { on := 4, ground := Ground.phase }, { on := 5, ground := Ground.phase }, { on := 6, ground := Ground.phase }, { on := 7, ground := Ground.phase }, { on := 8, ground := Ground.phase }, { on := 9, ground := Ground.phase }, { on := 10, ground := Ground.phase }, { on := 11, ground := Ground.phase }, { on := 12, ground := Ground.phase }, { on := 13, ground := Ground.phase }, { on := 14, ground := Ground.phase }, { on := 15, ground := Ground.phase }, { on := 16, ground := Ground.phase }, { on := 17, ground := Ground.phase }, { on := 18, ground := Ground.phase }, { on := 19, ground := Ground.phase }, { on := 20, ground := Ground.phase }, { on := 21, ground := Ground.phase }, { on := 22, ground := Ground.phase }, { on := 23, ground := Ground.phase }, { on := 24, ground := Ground.phase }, { on := 25, ground := Ground.phase }, { on := 26, ground := Ground.phase }, { on := 27, ground := Ground.phase }, { on := 28, ground := Ground.phase }, { on := 29, ground := Ground.phase }], guard := none }) (v := ?v30x3) rfl (by kernel_rfl) (by kernel_rfl) (by kernel_rfl) (fun _ _ _ h => h) (Or.inl ⟨by rfl, ?hy30x3⟩) (by assumption) ?rest30x3
  case hy30x3 => (intro w hSw; (try dsimp only at hSw); go_simp; try with_reducible rfl)
  try simp only [Act.put, List.setIfInBounds_toArray, List.set_cons_zero, List.set_cons_succ]
  refine wpAnyH_done (by kernel_rfl) ?_ _
  all_goals (go_wp2_with fail; go_ret; exact ⟨rbool HF.out, hB.out.trans (D1.out.mono hB.out.size)⟩)
 by_cases hl2 : gpl = 2
 rotate_left
 ·have hne : ((gpl : Int) == 2) = false := by simp; omega
  have HF : Hid (false = r) := by show _ = _; rw [← HR.out, pairOk, decide_eq_false (by omega)]; simp
  clear hr hbb hsp hw hs hp hq hp3 hq3
  go_enter Try.func66, Try.ntmps66
  go_wp2_with fail
  have EN : Hid (∀ W : World, Below W0.heap.size W0 W → W.cell? ⟨w.heap.size, 0, none⟩ = some (.int .i64 5) ∧ W.cell? ⟨w.heap.size, 1, none⟩ = some (.int .i64 0) ∧ W.cell? ⟨w.heap.size, 2, none⟩ = some (.slice (some ⟨b, off, none⟩) 2 sc) ∧ W.cell? ⟨w.heap.size + 1, 0, none⟩ = some (.bool false) ∧ W.cell? ⟨w.heap.size + 1, 1, none⟩ = some (.int .i64 gc) ∧ W.cell? ⟨w.heap.size + 1, 2, none⟩ = some (.int .u64 (gg : Int)) ∧ W.cell? ⟨w.heap.size + 1, 3, none⟩ = some (.slice gra grl grc) ∧ W.cell? ⟨w.heap.size + 1, 4, none⟩ = some (.slice gca gcl gcc) ∧ W.cell? ⟨w.heap.size + 1, 5, none⟩ = some (.slice gpa gpl gpc)) := fun W h => by obtain ⟨a0, a1, a2⟩ := tri_cells (heap_old (heap_old T0.out (Below.refl _ _)) h); obtain ⟨c0, c1, c2, c3, c4, c5⟩ := six_cells (heap_old (heap_old T1.out (Below.refl _ _)) h); exact ⟨a0, a1, a2, c0, c1, c2, c3, c4, c5⟩
  clear x0 x1 x2 y0 y1 y2 y3 y4 y5
  obtain ⟨m0, m1, m2, m3, m4, m5, m6, m7, m8⟩ := EN.out _ (Below.refl _ _)
  have D0 : Hid (Below W0.heap.size W0 W0.drew) := (Below.refl _ _).drew
  refine wp_region_held_drew (S := (fun w' => w'.cell? ⟨w.heap.size, 0, none⟩ = some (.int .i64 5) ∧ w'.cell? ⟨w.heap.size, 1, none⟩ = some (.int .i64 0) ∧ w'.cell? ⟨w.heap.size, 2, none⟩ = some (.slice (some ⟨b, off, none⟩) 2 sc) ∧ w'.cell? ⟨w.heap.size + 1, 0, none⟩ = some (.bool false) ∧ w'.cell? ⟨w.heap.size + 1, 1, none⟩ = some (.int .i64 gc) ∧ w'.cell? ⟨w.heap.size + 1, 2, none⟩ = some (.int .u64 (gg : Int)) ∧ w'.cell? ⟨w.heap.size + 1, 3, none⟩ = some (.slice gra grl grc) ∧ w'.cell? ⟨w.heap.size + 1, 4, none⟩ = some (.slice gca gcl gcc) ∧ w'.cell? ⟨w.heap.size + 1, 5, none⟩ = some (.slice gpa gpl gpc))) (by kernel_rfl) (by with_reducible exact EN.out _ D0.out) (fun hHeld => ?_)
  refine wpAnyH_take (i := 0) (oi := { dst := some 78, op := Op.load 45 (Operand.tmp 3), type := 45, pos := "ref.go:88", after := #[], guard := none }) (v := ?v0x4) rfl (by kernel_rfl) (by kernel_rfl) (by kernel_rfl) (fun _ _ _ h => h) (Or.inl ⟨by rfl, ?hy0x4⟩) (by assumption) ?rest0x4
  case hy0x4 => (intro w hSw; (try dsimp only at hSw); go_simp; try with_reducible rfl)
  try simp only [Act.put, List.setIfInBounds_toArray, List.set_cons_zero, List.set_cons_succ]
  refine wpAnyH_ready (rs := [1]) (by kernel_rfl) (by simp) (AllReadyH.cons (o := { dst := some 79, op := Op.call { callee := Callee.value (Operand.func 89), args := #[Operand.tmp 78, Operand.const (Value.bool false), Operand.const (Value.bool false), Operand.const (Value.bool false), Operand.const (Value.bool true)], argTypes := #[45, 4, 4, 4, 4] }, type := 4, pos := "ref.go:88", after := #[{ on := 0, ground := Ground.data }], guard := none }) rfl (fun K hK => ?_) AllReadyH.nil)
  go_simp
  go_at_call 89
  refine (plainR_4 ⟨false, gc, gg, gra, grl, grc, grows, gca, gcl, gcc, gcells, gpa, gpl, gpc⟩ true HO.out _).mono ?_
  rintro e w2 ⟨rfl, hb2⟩
  have D1 : Hid (Below W0.heap.size W0 w2) := Lib.hid (D0.out.trans (hb2.mono D0.out.size))
  dsimp only
  refine hK.out _ _ (by with_reducible exact EN.out _ D1.out) (fun hHeld1 => ?_)
  clear hK K
  try simp only [Act.put, List.setIfInBounds_toArray, List.set_cons_zero, List.set_cons_succ]
  refine wpAnyH_take (i := 2) (oi := { dst := some 80, op := Op.move (Operand.tmp 79), type := 4, pos := "ref.go:88", after := #[{ on := 1, ground := Ground.data }, { on := 1, ground := Ground.chain }], guard := none }) (v := ?v2x4) rfl (by kernel_rfl) (by kernel_rfl) (by kernel_rfl) (fun _ _ _ h => h) (Or.inl ⟨by rfl, ?hy2x4⟩) (by assumption) ?rest2x4
  case hy2x4 => (intro w hSw; (try dsimp only at hSw); go_simp; try with_reducible rfl)
  try simp only [Act.put, List.setIfInBounds_toArray, List.set_cons_zero, List.set_cons_succ]
  refine wpAnyH_take (i := 3) (oi := { dst := some 81, op := Op.fieldAddr 45 (Operand.tmp 3) 4, type := 0, pos := "ref.go:88", after := #[{ on := 2, ground := Ground.guard }], guard := some (2, true) }) (v := ?v3x4) rfl (by kernel_rfl) (by kernel_rfl) (by kernel_rfl) (fun _ _ _ h => h) (Or.inl ⟨by rfl, ?hy3x4⟩) (by assumption) ?rest3x4
  case hy3x4 => (intro w hSw; (try dsimp only at hSw); go_simp; try with_reducible rfl)
  try simp only [Act.put, List.setIfInBounds_toArray, List.set_cons_zero, List.set_cons_succ]
  refine wpAnyH_take (i := 4) (oi := { dst := some 82, op := Op.load 43 (Operand.tmp 81), type := 43, pos := "ref.go:88", after := #[{ on := 3, ground := Ground.data }, { on := 2, ground := Ground.guard }], guard := some (2, true) }) (v := ?v4x4) rfl (by kernel_rfl) (by kernel_rfl) (by kernel_rfl) (fun _ _ _ h => h) (Or.inl ⟨by rfl, ?hy4x4⟩) (by assumption) ?rest4x4
  case hy4x4 => (intro w hSw; (try dsimp only at hSw); go_simp; try with_reducible rfl)
  try simp only [Act.put, List.setIfInBounds_toArray, List.set_cons_zero, List.set_cons_succ]
  refine wpAnyH_take (i := 5) (oi := { dst := some 83, op := Op.call { callee := Callee.builtin Builtin.len, args := #[Operand.tmp 82], argTypes := #[43] }, type := 3, pos := "ref.go:88", after := #[{ on := 4, ground := Ground.data }, { on := 2, ground := Ground.guard }], guard := some (2, true) }) (v := ?v5x4) rfl (by kernel_rfl) (by kernel_rfl) (by kernel_rfl) (fun _ _ _ h => h) (Or.inl ⟨by rfl, ?hy5x4⟩) (by assumption) ?rest5x4
  case hy5x4 => (intro w hSw; (try dsimp only at hSw); go_simp; try with_reducible rfl)
  try simp only [Act.put, List.setIfInBounds_toArray, List.set_cons_zero, List.set_cons_succ]
  refine wpAnyH_take (i := 6) (oi := { dst := some 84, op := Op.binOp BinOp.eql 3 (Operand.tmp 83) (Operand.const (Value.int IntKind.i64 2)) 3, type := 4, pos := "ref.go:88", after := #[{ on := 5, ground := Ground.data }, { on := 2, ground := Ground.guard }], guard := some (2, true) }) (v := ?v6x4) rfl (by kernel_rfl) (by kernel_rfl) (by kernel_rfl) (fun _ _ _ h => h) (Or.inl ⟨by rfl, ?hy6x4⟩) (by assumption) ?rest6x4
  case hy6x4 => (intro w hSw; (try dsimp only at hSw); go_simp; try with_reducible rfl)
  try simp only [Act.put, List.setIfInBounds_toArray, List.set_cons_zero, List.set_cons_succ]
  refine wpAnyH_take (i := 7) (oi := { dst := some 85, op := Op.pick (Operand.tmp 80) (Operand.tmp 84) (Operand.const (Value.bool false)), type := 4, pos := "ref.go:88", after := #[{ on := 2, ground := Ground.data }, { on := 6, ground := Ground.data }], guard := none }) (v := ?v7x4) rfl (by kernel_rfl) (by kernel_rfl) (by kernel_rfl) (fun _ _ _ h => h) (Or.inl ⟨by rfl, ?hy7x4⟩) (by assumption) ?rest7x4
  case hy7x4 => (intro w hSw; (try dsimp only at hSw); go_simp; try with_reducible rfl)
  try simp only [Act.put, List.setIfInBounds_toArray, List.set_cons_zero, List.set_cons_succ]
  refine wpAnyH_take (i := 8) (oi := { dst := some 86, op := Op.move (Operand.tmp 85), type := 4, pos := "ref.go:88", after := #[{ on := 7, ground := Ground.data }, { on := 2, ground := Ground.chain }], guard := none }) (v := ?v8x4) rfl (by kernel_rfl) (by kernel_rfl) (by kernel_rfl) (fun _ _ _ h => h) (Or.inl ⟨by rfl, ?hy8x4⟩) (by assumption) ?rest8x4
  case hy8x4 => (intro w hSw; (try dsimp only at hSw); go_simp; try with_reducible rfl)
  try simp only [Act.put, List.setIfInBounds_toArray, List.set_cons_zero, List.set_cons_succ]
  refine wpAnyH_take (i := 9) (oi := { dst := some 87, op := Op.fieldAddr 25 (Operand.tmp 2) 2, type := 0, pos := "ref.go:88", after := #[{ on := 8, ground := Ground.guard }], guard := some (8, true) }) (v := undef) rfl (by kernel_rfl) (by kernel_rfl) (by kernel_rfl) (fun _ _ _ h => h) (Or.inr ⟨by rfl, rfl⟩) (by assumption) ?rest9x4
  try simp only [Act.put, List.setIfInBounds_toArray, List.set_cons_zero, List.set_cons_succ]
  refine wpAnyH_take (i := 10) (oi := { dst := some 88, op := Op.load 23 (Operand.tmp 87), type := 23, pos := "ref.go:88", after := #[{ on := 9, ground := Ground.data }, { on := 8, ground := Ground.guard }], guard := some (8, true) }) (v := undef) rfl (by kernel_rfl) (by kernel_rfl) (by kernel_rfl) (fun _ _ _ h => h) (Or.inr ⟨by rfl, rfl⟩) (by assumption) ?rest10x4
  try simp only [Act.put, List.setIfInBounds_toArray, List.set_cons_zero, List.set_cons_succ]
  refine wpAnyH_take (i := 11) (oi := { dst := some 89, op := Op.indexAddr 23 (Operand.tmp 88) (Operand.const (Value.int IntKind.i64 0)), type := 0, pos := "ref.go:88", after := #[{ on := 10, ground := Ground.data }, { on := 8, ground := Ground.guard }], guard := some (8, true) }) (v := undef) rfl (by kernel_rfl) (by kernel_rfl) (by kernel_rfl) (fun _ _ _ h => h) (Or.inr ⟨by rfl, rfl⟩) (by assumption) ?rest11x4
  try simp only [Act.put, List.setIfInBounds_toArray, List.set_cons_zero, List.set_cons_succ]
  refine wpAnyH_take (i := 12) (oi := { dst := some 90, op := Op.load 25 (Operand.tmp 89), type := 25, pos := "ref.go:88", after := #[{ on := 11, ground := Ground.data }, { on := 8, ground := Ground.guard }], guard := some (8, true) }) (v := undef) rfl (by kernel_rfl) (by kernel_rfl) (by kernel_rfl) (fun _ _ _ h => h) (Or.inr ⟨by rfl, rfl⟩) (by assumption) ?rest12x4
  try simp only [Act.put, List.setIfInBounds_toArray, List.set_cons_zero, List.set_cons_succ]
  refine wpAnyH_take (i := 13) (oi := { dst := some 91, op := Op.fieldAddr 45 (Operand.tmp 3) 4, type := 0, pos := "ref.go:88", after := #[{ on := 8, ground := Ground.guard }], guard := some (8, true) }) (v := undef) rfl (by kernel_rfl) (by kernel_rfl) (by kernel_rfl) (fun _ _ _ h => h) (Or.inr ⟨by rfl, rfl⟩) (by assumption) ?rest13x4
  try simp only [Act.put, List.setIfInBounds_toArray, List.set_cons_zero, List.set_cons_succ]
  refine wpAnyH_take (i := 14) (oi := { dst := some 92, op := Op.load 43 (Operand.tmp 91), type := 43, pos := "ref.go:88", after := #[{ on := 13, ground := Ground.data }, { on := 8, ground := Ground.guard }], guard := some (8, true) }) (v := undef) rfl (by kernel_rfl) (by kernel_rfl) (by kernel_rfl) (fun _ _ _ h => h) (Or.inr ⟨by rfl, rfl⟩) (by assumption) ?rest14x4
  try simp only [Act.put, List.setIfInBounds_toArray, List.set_cons_zero, List.set_cons_succ]
  refine wpAnyH_take (i := 15) (oi := { dst := some 93, op := Op.indexAddr 43 (Operand.tmp 92) (Operand.const (Value.int IntKind.i64 0)), type := 0, pos := "ref.go:88", after := #[{ on := 14, ground := Ground.data }, { on := 8, ground := Ground.guard }], guard := some (8, true) }) (v := undef) rfl (by kernel_rfl) (by kernel_rfl) (by kernel_rfl) (fun _ _ _ h => h) (Or.inr ⟨by rfl, rfl⟩) (by assumption) ?rest15x4
  try simp only [Act.put, List.setIfInBounds_toArray, List.set_cons_zero, List.set_cons_succ]
  refine wpAnyH_take (i := 16) (oi := { dst := some 94, op := Op.load 45 (Operand.tmp 93), type := 45, pos := "ref.go:88", after := #[{ on := 15, ground := Ground.data }, { on := 8, ground := Ground.guard }], guard := some (8, true) }) (v := undef) rfl (by kernel_rfl) (by kernel_rfl) (by kernel_rfl) (fun _ _ _ h => h) (Or.inr ⟨by rfl, rfl⟩) (by assumption) ?rest16x4
  try simp only [Act.put, List.setIfInBounds_toArray, List.set_cons_zero, List.set_cons_succ]
  refine wpAnyH_take (i := 17) (oi := { dst := some 95, op := Op.call { callee := Callee.value (Operand.func 66), args := #[Operand.tmp 90, Operand.tmp 94], argTypes := #[25, 45] }, type := 4, pos := "ref.go:88", after := #[{ on := 12, ground := Ground.data }, { on := 16, ground := Ground.data }, { on := 8, ground := Ground.chain }, { on := 8, ground := Ground.guard }], guard := some (8, true) }) (v := undef) rfl (by kernel_rfl) (by kernel_rfl) (by kernel_rfl) (fun _ _ _ h => h) (Or.inr ⟨by rfl, rfl⟩) (by assumption) ?rest17x4
  try simp only [Act.put, List.setIfInBounds_toArray, List.set_cons_zero, List.set_cons_succ]
  refine wpAnyH_take (i := 18) (oi := { dst := some 96, op := Op.pick (Operand.tmp 86) (Operand.tmp 95) (Operand.const (Value.bool false)), type := 4, pos := "ref.go:88", after := #[{ on := 8, ground := Ground.data }, { on := 17, ground := Ground.data }], guard := none }) (v := ?v18x4) rfl (by kernel_rfl) (by kernel_rfl) (by kernel_rfl) (fun _ _ _ h => h) (Or.inl ⟨by rfl, ?hy18x4⟩) (by assumption) ?rest18x4
  case hy18x4 => (intro w hSw; (try dsimp only at hSw); go_simp; try with_reducible rfl)
  try simp only [Act.put, List.setIfInBounds_toArray, List.set_cons_zero, List.set_cons_succ]
  refine wpAnyH_take (i := 19) (oi := { dst := some 97, op := Op.move (Operand.tmp 96), type := 4, pos := "ref.go:88", after := #[{ on := 18, ground := Ground.data }, { on := 17, ground := Ground.chain }], guard := none }) (v := ?v19x4) rfl (by kernel_rfl) (by kernel_rfl) (by kernel_rfl) (fun _ _ _ h => h) (Or.inl ⟨by rfl, ?hy19x4⟩) (by assumption) ?rest19x4
  case hy19x4 => (intro w hSw; (try dsimp only at hSw); go_simp; try with_reducible rfl)
  try simp only [Act.put, List.setIfInBounds_toArray, List.set_cons_zero, List.set_cons_succ]
  refine wpAnyH_take (i := 20) (oi := { dst := some 98, op := Op.fieldAddr 25 (Operand.tmp 2) 2, type := 0, pos := "ref.go:88", after := #[{ on := 19, ground := Ground.guard }], guard := some (19, true) }) (v := undef) rfl (by kernel_rfl) (by kernel_rfl) (by kernel_rfl) (fun _ _ _ h => h) (Or.inr ⟨by rfl, rfl⟩) (by assumption) ?rest20x4
  try simp only [Act.put, List.setIfInBounds_toArray, List.set_cons_zero, List.set_cons_succ]
  refine wpAnyH_take (i := 21) (oi := { dst := some 99, op := Op.load 23 (Operand.tmp 98), type := 23, pos := "ref.go:88", after := #[{ on := 20, ground := Ground.data }, { on := 19, ground := Ground.guard }], guard := some (19, true) }) (v := undef) rfl (by kernel_rfl) (by kernel_rfl) (by kernel_rfl) (fun _ _ _ h => h) (Or.inr ⟨by rfl, rfl⟩) (by assumption) ?rest21x4
  try simp only [Act.put, List.setIfInBounds_toArray, List.set_cons_zero, List.set_cons_succ]
  refine wpAnyH_take (i := 22) (oi := { dst := some 100, op := Op.indexAddr 23 (Operand.tmp 99) (Operand.const (Value.int IntKind.i64 1)), type := 0, pos := "ref.go:88", after := #[{ on := 21, ground := Ground.data }, { on := 19, ground := Ground.guard }], guard := some (19, true) }) (v := undef) rfl (by kernel_rfl) (by kernel_rfl) (by kernel_rfl) (fun _ _ _ h => h) (Or.inr ⟨by rfl, rfl⟩) (by assumption) ?rest22x4
  try simp only [Act.put, List.setIfInBounds_toArray, List.set_cons_zero, List.set_cons_succ]
  refine wpAnyH_take (i := 23) (oi := { dst := some 101, op := Op.load 25 (Operand.tmp 100), type := 25, pos := "ref.go:88", after := #[{ on := 22, ground := Ground.data }, { on := 19, ground := Ground.guard }], guard := some (19, true) }) (v := undef) rfl (by kernel_rfl) (by kernel_rfl) (by kernel_rfl) (fun _ _ _ h => h) (Or.inr ⟨by rfl, rfl⟩) (by assumption) ?rest23x4
  try simp only [Act.put, List.setIfInBounds_toArray, List.set_cons_zero, List.set_cons_succ]
  refine wpAnyH_take (i := 24) (oi := { dst := some 102, op := Op.fieldAddr 45 (Operand.tmp 3) 4, type := 0, pos := "ref.go:88", after := #[{ on := 19, ground := Ground.guard }], guard := some (19, true) }) (v := undef) rfl (by kernel_rfl) (by kernel_rfl) (by kernel_rfl) (fun _ _ _ h => h) (Or.inr ⟨by rfl, rfl⟩) (by assumption) ?rest24x4
  try simp only [Act.put, List.setIfInBounds_toArray, List.set_cons_zero, List.set_cons_succ]
  refine wpAnyH_take (i := 25) (oi := { dst := some 103, op := Op.load 43 (Operand.tmp 102), type := 43, pos := "ref.go:88", after := #[{ on := 24, ground := Ground.data }, { on := 19, ground := Ground.guard }], guard := some (19, true) }) (v := undef) rfl (by kernel_rfl) (by kernel_rfl) (by kernel_rfl) (fun _ _ _ h => h) (Or.inr ⟨by rfl, rfl⟩) (by assumption) ?rest25x4
  try simp only [Act.put, List.setIfInBounds_toArray, List.set_cons_zero, List.set_cons_succ]
  refine wpAnyH_take (i := 26) (oi := { dst := some 104, op := Op.indexAddr 43 (Operand.tmp 103) (Operand.const (Value.int IntKind.i64 1)), type := 0, pos := "ref.go:88", after := #[{ on := 25, ground := Ground.data }, { on := 19, ground := Ground.guard }], guard := some (19, true) }) (v := undef) rfl (by kernel_rfl) (by kernel_rfl) (by kernel_rfl) (fun _ _ _ h => h) (Or.inr ⟨by rfl, rfl⟩) (by assumption) ?rest26x4
  try simp only [Act.put, List.setIfInBounds_toArray, List.set_cons_zero, List.set_cons_succ]
  refine wpAnyH_take (i := 27) (oi := { dst := some 105, op := Op.load 45 (Operand.tmp 104), type := 45, pos := "ref.go:88", after := #[{ on := 26, ground := Ground.data }, { on := 19, ground := Ground.guard }], guard := some (19, true) }) (v := undef) rfl (by kernel_rfl) (by kernel_rfl) (by kernel_rfl) (fun _ _ _ h => h) (Or.inr ⟨by rfl, rfl⟩) (by assumption) ?rest27x4
  try simp only [Act.put, List.setIfInBounds_toArray, List.set_cons_zero, List.set_cons_succ]
  refine wpAnyH_take (i := 28) (oi := { dst := some 106, op := Op.call { callee := Callee.value (Operand.func 66), args := #[Operand.tmp 101, Operand.tmp 105], argTypes := #[25, 45] }, type := 4, pos := "ref.go:88", after := #[{ on := 23, ground := Ground.data }, { on := 27, ground := Ground.data }, { on := 19, ground := Ground.chain }, { on := 19, ground := Ground.guard }], guard := some (19, true) }) (v := undef) rfl (by kernel_rfl) (by kernel_rfl) (by kernel_rfl) (fun _ _ _ h => h) (Or.inr ⟨by rfl, rfl⟩) (by assumption) ?rest28x4
  try simp only [Act.put, List.setIfInBounds_toArray, List.set_cons_zero, List.set_cons_succ]
  refine wpAnyH_take (i := 29) (oi := { dst := some 107, op := Op.pick (Operand.tmp 97) (Operand.tmp 106) (Operand.const (Value.bool false)), type := 4, pos := "ref.go:88", after := #[{ on := 19, ground := Ground.data }, { on := 28, ground := Ground.data }], guard := none }) (v := ?v29x4) rfl (by kernel_rfl) (by kernel_rfl) (by kernel_rfl) (fun _ _ _ h => h) (Or.inl ⟨by rfl, ?hy29x4⟩) (by assumption) ?rest29x4
  case hy29x4 => (intro w hSw; (try dsimp only at hSw); go_simp; try with_reducible rfl)
  try simp only [Act.put, List.setIfInBounds_toArray, List.set_cons_zero, List.set_cons_succ]
  refine wpAnyH_take (i := 30) (oi := { dst := some 4, op := Op.assign (Operand.tmp 107), type := 4, pos := "ref.go:88", after := #[{ on := 29, ground := Ground.data }, { on := 28, ground := Ground.chain }, { on := 0, ground := Ground.phase }, { on := 1, ground := Ground.phase }, { on := 2, ground := Ground.phase }, { on := 3, ground := Ground.phase }, { on := 4, ground := Ground.phase }, { on := 5, ground := Ground.phase }, { on := 6, ground := Ground.phase }, { on := 7, ground := Ground.phase }, { on := 8, ground := Ground.phase }, { on := 9, ground := Ground.phase }, { on := 10, ground := Ground.phase }, { on := 11, ground := Ground.phase }, { on := 12, ground := Ground.phase }, { on := 13, ground := Ground.phase }, { on := 14, ground := Ground.phase }, { on := 15, ground := Ground.phase }, { on := 16, ground := Ground.phase }, { on := 17, ground := Ground.phase }, { on := 18, ground := Ground.phase }, { on := 19, ground := Ground.phase }, { on := 20, ground := Ground.phase }, { on := 21, ground := Ground.phase }, { on := 22, ground := Ground.phase }, { on := 23, ground := Ground.phase }, { on := 24, ground := Ground.phase }, { on := 25, ground := Ground.phase }, { on := 26, ground := Ground.phase }, { on := 27, ground := Ground.phase }, { on := 28, ground := Ground.phase }, { on := 29, ground := Ground.phase }], guard := none }) (v := ?v30x4) rfl (by kernel_rfl) (by kernel_rfl) (by kernel_rfl) (fun _ _ _ h => h) (Or.inl ⟨by rfl, ?hy30x4⟩) (by assumption) ?rest30x4
  case hy30x4 => (intro w hSw; (try dsimp only at hSw); go_simp; try with_reducible rfl)
  try simp only [Act.put, List.setIfInBounds_toArray, List.set_cons_zero, List.set_cons_succ]
  refine wpAnyH_done (by kernel_rfl) ?_ _
  all_goals (go_wp2_with fail; go_ret; exact ⟨rbool HF.out, hB.out.trans (D1.out.mono hB.out.size)⟩)
 subst hl2
 obtain ⟨x, y, rfl⟩ := two_of hgl
 obtain ⟨_, b2, of2, ha2, hb2l, hx6, hy6, hxi, hyi⟩ := hw.two
 dsimp only at ha2
 subst ha2
 have XA := Lib.hid hxi.at_; have YA := Lib.hid hyi.at_
 have XS := Lib.hid (hs x (by simp)); have YS := Lib.hid (hs y (by simp))
 obtain ⟨⟨xz, xc, xg, xra, xrl, xrc, xrows, xca, xcl, xcc, xcells, xpa, xpl, xpc⟩, xps⟩ := x
 obtain ⟨⟨yz, yc, yg, yra, yrl, yrc, yrows, yca, ycl, ycc, ycells, ypa, ypl, ypc⟩, yps⟩ := y
 have HX6 := Lib.hid hx6; have HY6 := Lib.hid hy6
 have XSS : Hid (0 ≤ xrl) := XS.out; have YSS : Hid (0 ≤ yrl) := YS.out
 have XAA : Hid (WF.At w ⟨xz, xc, xg, xra, xrl, xrc, xrows, xca, xcl, xcc, xcells, xpa, xpl, xpc⟩) := XA.out; have YAA : Hid (WF.At w ⟨yz, yc, yg, yra, yrl, yrc, yrows, yca, ycl, ycc, ycells, ypa, ypl, ypc⟩) := YA.out
 clear XS YS XA YA
 obtain ⟨r1, hr1⟩ : ∃ o, pwOk pt pn ⟨xz, xc, xg, xra, xrl, xrc, xrows, xca, xcl, xcc, xcells, xpa, xpl, xpc⟩ = o := ⟨_, rfl⟩
 obtain ⟨r2, hr2⟩ : ∃ o, pwOk qt qn ⟨yz, yc, yg, yra, yrl, yrc, yrows, yca, ycl, ycc, ycells, ypa, ypl, ypc⟩ = o := ⟨_, rfl⟩
 have HR1 := Lib.hid hr1; have HR2 := Lib.hid hr2
 have HRR : Hid ((r1 && r2) = r) := by show _ = _; rw [← HR.out, pairOk, HBB.out]; simp [pwAt, SV.f, WV.f, hr1, hr2]
 clear hr hbb hsp hw hs hp hq hp3 hq3 hx6 hy6 hxi hyi hr1 hr2 hgl HR
 cases r1
 ·have HF : Hid (false = r) := by show _ = _; rw [← HRR.out]; simp
  go_enter Try.func66, Try.ntmps66
  go_wp2_with fail
  have EN : Hid (∀ W : World, Below W0.heap.size W0 W → W.cell? ⟨w.heap.size, 0, none⟩ = some (.int .i64 5) ∧ W.cell? ⟨w.heap.size, 1, none⟩ = some (.int .i64 0) ∧ W.cell? ⟨w.heap.size, 2, none⟩ = some (.slice (some ⟨b, off, none⟩) 2 sc) ∧ W.cell? ⟨w.heap.size + 1, 0, none⟩ = some (.bool false) ∧ W.cell? ⟨w.heap.size + 1, 1, none⟩ = some (.int .i64 gc) ∧ W.cell? ⟨w.heap.size + 1, 2, none⟩ = some (.int .u64 (gg : Int)) ∧ W.cell? ⟨w.heap.size + 1, 3, none⟩ = some (.slice gra grl grc) ∧ W.cell? ⟨w.heap.size + 1, 4, none⟩ = some (.slice gca gcl gcc) ∧ W.cell? ⟨w.heap.size + 1, 5, none⟩ = some (.slice (some ⟨b2, of2, none⟩) 2 gpc) ∧ W.cell? ⟨b, off, none⟩ = some (.int .i64 pt) ∧ W.cell? ⟨b, off + 1, none⟩ = some (.int .i64 pn) ∧ W.cell? ⟨b, off + 2, none⟩ = some (.slice pa pl pc) ∧ W.cell? ⟨b, off + 3, none⟩ = some (.int .i64 qt) ∧ W.cell? ⟨b, off + 4, none⟩ = some (.int .i64 qn) ∧ W.cell? ⟨b, off + 5, none⟩ = some (.slice qa ql qc) ∧ W.cell? ⟨b2, of2, none⟩ = some (.bool xz) ∧ W.cell? ⟨b2, of2 + 1, none⟩ = some (.int .i64 xc) ∧ W.cell? ⟨b2, of2 + 2, none⟩ = some (.int .u64 (xg : Int)) ∧ W.cell? ⟨b2, of2 + 3, none⟩ = some (.slice xra xrl xrc) ∧ W.cell? ⟨b2, of2 + 4, none⟩ = some (.slice xca xcl xcc) ∧ W.cell? ⟨b2, of2 + 5, none⟩ = some (.slice xpa xpl xpc) ∧ W.cell? ⟨b2, of2 + 6, none⟩ = some (.bool yz) ∧ W.cell? ⟨b2, of2 + 7, none⟩ = some (.int .i64 yc) ∧ W.cell? ⟨b2, of2 + 8, none⟩ = some (.int .u64 (yg : Int)) ∧ W.cell? ⟨b2, of2 + 9, none⟩ = some (.slice yra yrl yrc) ∧ W.cell? ⟨b2, of2 + 10, none⟩ = some (.slice yca ycl ycc) ∧ W.cell? ⟨b2, of2 + 11, none⟩ = some (.slice ypa ypl ypc)) := fun W h => by
   obtain ⟨a0, a1, a2⟩ := tri_cells (heap_old (heap_old T0.out (Below.refl _ _)) h); obtain ⟨c0, c1, c2, c3, c4, c5⟩ := six_cells (heap_old (heap_old T1.out (Below.refl _ _)) h)
   have hww : Below w.heap.size w W := hB.out.trans (h.mono hB.out.size)
   obtain ⟨d0, d1, d2⟩ := HP3.out.below hww; obtain ⟨e0, e1, e2⟩ := HQ3.out.below hww; obtain ⟨f0, f1, f2, f3, f4, f5⟩ := HX6.out.below hww; obtain ⟨g0, g1, g2, g3, g4, g5⟩ := HY6.out.below hww
   exact ⟨a0, a1, a2, c0, c1, c2, c3, c4, c5, d0, d1, d2, e0, e1, e2, f0, f1, f2, f3, f4, f5, g0, g1, g2, g3, g4, g5⟩
  clear x0 x1 x2 y0 y1 y2 y3 y4 y5
  obtain ⟨m0, m1, m2, m3, m4, m5, m6, m7, m8, m9, m10, m11, m12, m13, m14, m15, m16, m17, m18, m19, m20, m21, m22, m23, m24, m25, m26⟩ := EN.out _ (Below.refl _ _)
  have D0 : Hid (Below W0.heap.size W0 W0.drew) := (Below.refl _ _).drew
  refine wp_region_held_drew (S := (fun w' => w'.cell? ⟨w.heap.size, 0, none⟩ = some (.int .i64 5) ∧ w'.cell? ⟨w.heap.size, 1, none⟩ = some (.int .i64 0) ∧ w'.cell? ⟨w.heap.size, 2, none⟩ = some (.slice (some ⟨b, off, none⟩) 2 sc) ∧ w'.cell? ⟨w.heap.size + 1, 0, none⟩ = some (.bool false) ∧ w'.cell? ⟨w.heap.size + 1, 1, none⟩ = some (.int .i64 gc) ∧ w'.cell? ⟨w.heap.size + 1, 2, none⟩ = some (.int .u64 (gg : Int)) ∧ w'.cell? ⟨w.heap.size + 1, 3, none⟩ = some (.slice gra grl grc) ∧ w'.cell? ⟨w.heap.size + 1, 4, none⟩ = some (.slice gca gcl gcc) ∧ w'.cell? ⟨w.heap.size + 1, 5, none⟩ = some (.slice (some ⟨b2, of2, none⟩) 2 gpc) ∧ w'.cell? ⟨b, off, none⟩ = some (.int .i64 pt) ∧ w'.cell? ⟨b, off + 1, none⟩ = some (.int .i64 pn) ∧ w'.cell? ⟨b, off + 2, none⟩ = some (.slice pa pl pc) ∧ w'.cell? ⟨b, off + 3, none⟩ = some (.int .i64 qt) ∧ w'.cell? ⟨b, off + 4, none⟩ = some (.int .i64 qn) ∧ w'.cell? ⟨b, off + 5, none⟩ = some (.slice qa ql qc) ∧ w'.cell? ⟨b2, of2, none⟩ = some (.bool xz) ∧ w'.cell? ⟨b2, of2 + 1, none⟩ = some (.int .i64 xc) ∧ w'.cell? ⟨b2, of2 + 2, none⟩ = some (.int .u64 (xg : Int)) ∧ w'.cell? ⟨b2, of2 + 3, none⟩ = some (.slice xra xrl xrc) ∧ w'.cell? ⟨b2, of2 + 4, none⟩ = some (.slice xca xcl xcc) ∧ w'.cell? ⟨b2, of2 + 5, none⟩ = some (.slice xpa xpl xpc) ∧ w'.cell? ⟨b2, of2 + 6, none⟩ = some (.bool yz) ∧ w'.cell? ⟨b2, of2 + 7, none⟩ = some (.int .i64 yc) ∧ w'.cell? ⟨b2, of2 + 8, none⟩ = some (.int .u64 (yg : Int)) ∧ w'.cell? ⟨b2, of2 + 9, none⟩ = some (.slice yra yrl yrc) ∧ w'.cell? ⟨b2, of2 + 10, none⟩ = some (.slice yca ycl ycc) ∧ w'.cell? ⟨b2, of2 + 11, none⟩ = some (.slice ypa ypl ypc))) (by kernel_rfl) (by with_reducible exact EN.out _ D0.out) (fun hHeld => ?_)
  refine wpAnyH_take (i := 0) (oi := { dst := some 78, op := Op.load 45 (Operand.tmp 3), type := 45, pos := "ref.go:88", after := #[], guard := none }) (v := ?v0x5) rfl (by kernel_rfl) (by kernel_rfl) (by kernel_rfl) (fun _ _ _ h => h) (Or.inl ⟨by rfl, ?hy0x5⟩) (by assumption) ?rest0x5
  case hy0x5 => (intro w hSw; (try dsimp only at hSw); go_simp; try with_reducible rfl)
  try simp only [Act.put, List.setIfInBounds_toArray, List.set_cons_zero, List.set_cons_succ]
  refine wpAnyH_ready (rs := [1]) (by kernel_rfl) (by simp) (AllReadyH.cons (o := { dst := some 79, op := Op.call { callee := Callee.value (Operand.func 89), args := #[Operand.tmp 78, Operand.const (Value.bool false), Operand.const (Value.bool false), Operand.const (Value.bool false), Operand.const (Value.bool true)], argTypes := #[45, 4, 4, 4, 4] }, type := 4, pos := "ref.go:88", after := #[{ on := 0, ground := Ground.data }], guard := none }) rfl (fun K hK => ?_) AllReadyH.nil)
  go_simp
  go_at_call 89
  refine (plainR_4 ⟨false, gc, gg, gra, grl, grc, grows, gca, gcl, gcc, gcells, (some ⟨b2, of2, none⟩), 2, gpc⟩ true HO.out _).mono ?_
  rintro e z1 ⟨rfl, hz1⟩
  have D1 : Hid (Below W0.heap.size W0 z1) := Lib.hid (D0.out.trans (hz1.mono D0.out.size))
  dsimp only
  refine hK.out _ _ (by with_reducible exact EN.out _ D1.out) (fun hHeld1 => ?_)
  clear hK K
  try simp only [Act.put, List.setIfInBounds_toArray, List.set_cons_zero, List.set_cons_succ]
  refine wpAnyH_take (i := 2) (oi := { dst := some 80, op := Op.move (Operand.tmp 79), type := 4, pos := "ref.go:88", after := #[{ on := 1, ground := Ground.data }, { on := 1, ground := Ground.chain }], guard := none }) (v := ?v2x5) rfl (by kernel_rfl) (by kernel_rfl) (by kernel_rfl) (fun _ _ _ h => h) (Or.inl ⟨by rfl, ?hy2x5⟩) (by assumption) ?rest2x5
  case hy2x5 => (intro w hSw; (try dsimp only at hSw); go_simp; try with_reducible rfl)
  try simp only [Act.put, List.setIfInBounds_toArray, List.set_cons_zero, List.set_cons_succ]
  refine wpAnyH_take (i := 3) (oi := { dst := some 81, op := Op.fieldAddr 45 (Operand.tmp 3) 4, type := 0, pos := "ref.go:88", after := #[{ on := 2, ground := Ground.guard }], guard := some (2, true) }) (v := ?v3x5) rfl (by kernel_rfl) (by kernel_rfl) (by kernel_rfl) (fun _ _ _ h => h) (Or.inl ⟨by rfl, ?hy3x5⟩) (by assumption) ?rest3x5
  case hy3x5 => (intro w hSw; (try dsimp only at hSw); go_simp; try with_reducible rfl)
  try simp only [Act.put, List.setIfInBounds_toArray, List.set_cons_zero, List.set_cons_succ]
  refine wpAnyH_take (i := 4) (oi := { dst := some 82, op := Op.load 43 (Operand.tmp 81), type := 43, pos := "ref.go:88", after := #[{ on := 3, ground := Ground.data }, { on := 2, ground := Ground.guard }], guard := some (2, true) }) (v := ?v4x5) rfl (by kernel_rfl) (by kernel_rfl) (by kernel_rfl) (fun _ _ _ h => h) (Or.inl ⟨by rfl, ?hy4x5⟩) (by assumption) ?rest4x5
  case hy4x5 => (intro w hSw; (try dsimp only at hSw); go_simp; try with_reducible rfl)
  try simp only [Act.put, List.setIfInBounds_toArray, List.set_cons_zero, List.set_cons_succ]
  refine wpAnyH_take (i := 5) (oi := { dst := some 83, op := Op.call { callee := Callee.builtin Builtin.len, args := #[Operand.tmp 82], argTypes := #[43] }, type := 3, pos := "ref.go:88", after := #[{ on := 4, ground := Ground.data }, { on := 2, ground := Ground.guard }], guard := some (2, true) }) (v := ?v5x5) rfl (by kernel_rfl) (by kernel_rfl) (by kernel_rfl) (fun _ _ _ h => h) (Or.inl ⟨by rfl, ?hy5x5⟩) (by assumption) ?rest5x5
  case hy5x5 => (intro w hSw; (try dsimp only at hSw); go_simp; try with_reducible rfl)
  try simp only [Act.put, List.setIfInBounds_toArray, List.set_cons_zero, List.set_cons_succ]
  refine wpAnyH_take (i := 6) (oi := { dst := some 84, op := Op.binOp BinOp.eql 3 (Operand.tmp 83) (Operand.const (Value.int IntKind.i64 2)) 3, type := 4, pos := "ref.go:88", after := #[{ on := 5, ground := Ground.data }, { on := 2, ground := Ground.guard }], guard := some (2, true) }) (v := ?v6x5) rfl (by kernel_rfl) (by kernel_rfl) (by kernel_rfl) (fun _ _ _ h => h) (Or.inl ⟨by rfl, ?hy6x5⟩) (by assumption) ?rest6x5
  case hy6x5 => (intro w hSw; (try dsimp only at hSw); go_simp; try with_reducible rfl)
  try simp only [Act.put, List.setIfInBounds_toArray, List.set_cons_zero, List.set_cons_succ]
  refine wpAnyH_take (i := 7) (oi := { dst := some 85, op := Op.pick (Operand.tmp 80) (Operand.tmp 84) (Operand.const (Value.bool false)), type := 4, pos := "ref.go:88", after := #[{ on := 2, ground := Ground.data }, { on := 6, ground := Ground.data }], guard := none }) (v := ?v7x5) rfl (by kernel_rfl) (by kernel_rfl) (by kernel_rfl) (fun _ _ _ h => h) (Or.inl ⟨by rfl, ?hy7x5⟩) (by assumption) ?rest7x5
  case hy7x5 => (intro w hSw; (try dsimp only at hSw); go_simp; try with_reducible rfl)
  try simp only [Act.put, List.setIfInBounds_toArray, List.set_cons_zero, List.set_cons_succ]
  refine wpAnyH_take (i := 8) (oi := { dst := some 86, op := Op.move (Operand.tmp 85), type := 4, pos := "ref.go:88", after := #[{ on := 7, ground := Ground.data }, { on := 2, ground := Ground.chain }], guard := none }) (v := ?v8x5) rfl (by kernel_rfl) (by kernel_rfl) (by kernel_rfl) (fun _ _ _ h => h) (Or.inl ⟨by rfl, ?hy8x5⟩) (by assumption) ?rest8x5
  case hy8x5 => (intro w hSw; (try dsimp only at hSw); go_simp; try with_reducible rfl)
  try simp only [Act.put, List.setIfInBounds_toArray, List.set_cons_zero, List.set_cons_succ]
  refine wpAnyH_take (i := 9) (oi := { dst := some 87, op := Op.fieldAddr 25 (Operand.tmp 2) 2, type := 0, pos := "ref.go:88", after := #[{ on := 8, ground := Ground.guard }], guard := some (8, true) }) (v := ?v9x5) rfl (by kernel_rfl) (by kernel_rfl) (by kernel_rfl) (fun _ _ _ h => h) (Or.inl ⟨by rfl, ?hy9x5⟩) (by assumption) ?rest9x5
  case hy9x5 => (intro w hSw; (try dsimp only at hSw); go_simp; try with_reducible rfl)
  try simp only [Act.put, List.setIfInBounds_toArray, List.set_cons_zero, List.set_cons_succ]
  refine wpAnyH_take (i := 10) (oi := { dst := some 88, op := Op.load 23 (Operand.tmp 87), type := 23, pos := "ref.go:88", after := #[{ on := 9, ground := Ground.data }, { on := 8, ground := Ground.guard }], guard := some (8, true) }) (v := ?v10x5) rfl (by kernel_rfl) (by kernel_rfl) (by kernel_rfl) (fun _ _ _ h => h) (Or.inl ⟨by rfl, ?hy10x5⟩) (by assumption) ?rest10x5
  case hy10x5 => (intro w hSw; (try dsimp only at hSw); go_simp; try with_reducible rfl)
  try simp only [Act.put, List.setIfInBounds_toArray, List.set_cons_zero, List.set_cons_succ]
  refine wpAnyH_take (i := 11) (oi := { dst := some 89, op := Op.indexAddr 23 (Operand.tmp 88) (Operand.const (Value.int IntKind.i64 0)), type := 0, pos := "ref.go:88", after := #[{ on := 10, ground := Ground.data }, { on := 8, ground := Ground.guard }], guard := some (8, true) }) (v := ?v11x5) rfl (by kernel_rfl) (by kernel_rfl) (by kernel_rfl) (fun _ _ _ h => h) (Or.inl ⟨by rfl, ?hy11x5⟩) (by assumption) ?rest11x5
  case hy11x5 => (intro w hSw; (try dsimp only at hSw); go_simp; try with_reducible rfl)
  try simp only [Act.put, List.setIfInBounds_toArray, List.set_cons_zero, List.set_cons_succ]
  refine wpAnyH_take (i := 12) (oi := { dst := some 90, op := Op.load 25 (Operand.tmp 89), type := 25, pos := "ref.go:88", after := #[{ on := 11, ground := Ground.data }, { on := 8, ground := Ground.guard }], guard := some (8, true) }) (v := ?v12x5) rfl (by kernel_rfl) (by kernel_rfl) (by kernel_rfl) (fun _ _ _ h => h) (Or.inl ⟨by rfl, ?hy12x5⟩) (by assumption) ?rest12x5
  case hy12x5 => (intro w hSw; (try dsimp only at hSw); go_simp; try with_reducible rfl)
  try simp only [Act.put, List.setIfInBounds_toArray, List.set_cons_zero, List.set_cons_succ]
  refine wpAnyH_take (i := 13) (oi := { dst := some 91, op := Op.fieldAddr 45 (Operand.tmp 3) 4, type := 0, pos := "ref.go:88", after := #[{ on := 8, ground := Ground.guard }], guard := some (8, true) }) (v := ?v13x5) rfl (by kernel_rfl) (by kernel_rfl) (by kernel_rfl) (fun _ _ _ h => h) (Or.inl ⟨by rfl, ?hy13x5⟩) (by assumption) ?rest13x5
  case hy13x5 => (intro w hSw; (try dsimp only at hSw); go_simp; try with_reducible rfl)
  try simp only [Act.put, List.setIfInBounds_toArray, List.set_cons_zero, List.set_cons_succ]
  refine wpAnyH_take (i := 14) (oi := { dst := some 92, op := Op.load 43 (Operand.tmp 91), type := 43, pos := "ref.go:88", after := #[{ on := 13, ground := Ground.data }, { on := 8, ground := Ground.guard }], guard := some (8, true) }) (v := ?v14x5) rfl (by kernel_rfl) (by kernel_rfl) (by kernel_rfl) (fun _ _ _ h => h) (Or.inl ⟨by rfl, ?hy14x5⟩) (by assumption) ?rest14x5
  case hy14x5 => (intro w hSw; (try dsimp only at hSw); go_simp; try with_reducible rfl)
  try simp only [Act.put, List.setIfInBounds_toArray, List.set_cons_zero, List.set_cons_succ]
  refine wpAnyH_take (i := 15) (oi := { dst := some 93, op := Op.indexAddr 43 (Operand.tmp 92) (Operand.const (Value.int IntKind.i64 0)), type := 0, pos := "ref.go:88", after := #[{ on := 14, ground := Ground.data }, { on := 8, ground := Ground.guard }], guard := some (8, true) }) (v := ?v15x5) rfl (by kernel_rfl) (by kernel_rfl) (by kernel_rfl) (fun _ _ _ h => h) (Or.inl ⟨by rfl, ?hy15x5⟩) (by assumption) ?rest15x5
  case hy15x5 => (intro w hSw; (try dsimp only at hSw); go_simp; try with_reducible rfl)
  try simp only [Act.put, List.setIfInBounds_toArray, List.set_cons_zero, List.set_cons_succ]
  refine wpAnyH_take (i := 16) (oi := { dst := some 94, op := Op.load 45 (Operand.tmp 93), type := 45, pos := "ref.go:88", after := #[{ on := 15, ground := Ground.data }, { on := 8, ground := Ground.guard }], guard := some (8, true) }) (v := ?v16x5) rfl (by kernel_rfl) (by kernel_rfl) (by kernel_rfl) (fun _ _ _ h => h) (Or.inl ⟨by rfl, ?hy16x5⟩) (by assumption) ?rest16x5
  case hy16x5 => (intro w hSw; (try dsimp only at hSw); go_simp; try with_reducible rfl)
  try simp only [Act.put, List.setIfInBounds_toArray, List.set_cons_zero, List.set_cons_succ]
  refine wpAnyH_ready (rs := [17]) (by kernel_rfl) (by simp) (AllReadyH.cons (o := { dst := some 95, op := Op.call { callee := Callee.value (Operand.func 66), args := #[Operand.tmp 90, Operand.tmp 94], argTypes := #[25, 45] }, type := 4, pos := "ref.go:88", after := #[{ on := 12, ground := Ground.data }, { on := 16, ground := Ground.data }, { on := 8, ground := Ground.chain }, { on := 8, ground := Ground.guard }], guard := some (8, true) }) rfl (fun K hK => ?_) AllReadyH.nil)
  go_simp
  go_at_call 66
  with_reducible refine (isR_plainY pt pn pa pl pc ⟨xz, xc, xg, xra, xrl, xrc, xrows, xca, xcl, xcc, xcells, xpa, xpl, xpc⟩ HP.out XSS.out _ (XAA.out.below (hB.out.trans ((D1.out).mono hB.out.size))) false HR1.out).mono ?_
  rintro e z2 ⟨rfl, hz2⟩
  have D2 : Hid (Below W0.heap.size W0 z2) := Lib.hid (D1.out.trans (hz2.mono D1.out.size))
  dsimp only
  refine hK.out _ _ (by with_reducible exact EN.out _ D2.out) (fun hHeld2 => ?_)
  clear hK K
  try simp only [Act.put, List.setIfInBounds_toArray, List.set_cons_zero, List.set_cons_succ]
  refine wpAnyH_take (i := 18) (oi := { dst := some 96, op := Op.pick (Operand.tmp 86) (Operand.tmp 95) (Operand.const (Value.bool false)), type := 4, pos := "ref.go:88", after := #[{ on := 8, ground := Ground.data }, { on := 17, ground := Ground.data }], guard := none }) (v := ?v18x5) rfl (by kernel_rfl) (by kernel_rfl) (by kernel_rfl) (fun _ _ _ h => h) (Or.inl ⟨by rfl, ?hy18x5⟩) (by assumption) ?rest18x5
  case hy18x5 => (intro w hSw; (try dsimp only at hSw); go_simp; try with_reducible rfl)
  try simp only [Act.put, List.setIfInBounds_toArray, List.set_cons_zero, List.set_cons_succ]
  refine wpAnyH_take (i := 19) (oi := { dst := some 97, op := Op.move (Operand.tmp 96), type := 4, pos := "ref.go:88", after := #[{ on := 18, ground := Ground.data }, { on := 17, ground := Ground.chain }], guard := none }) (v := ?v19x5) rfl (by kernel_rfl) (by kernel_rfl) (by kernel_rfl) (fun _ _ _ h => h) (Or.inl ⟨by rfl, ?hy19x5⟩) (by assumption) ?rest19x5
  case hy19x5 => (intro w hSw; (try dsimp only at hSw); go_simp; try with_reducible rfl)
  try simp only [Act.put, List.setIfInBounds_toArray, List.set_cons_zero, List.set_cons_succ]
  refine wpAnyH_take (i := 20) (oi := { dst := some 98, op := Op.fieldAddr 25 (Operand.tmp 2) 2, type := 0, pos := "ref.go:88", after := #[{ on := 19, ground := Ground.guard }], guard := some (19, true) }) (v := undef) rfl (by kernel_rfl) (by kernel_rfl) (by kernel_rfl) (fun _ _ _ h => h) (Or.inr ⟨by rfl, rfl⟩) (by assumption) ?rest20x5
  try simp only [Act.put, List.setIfInBounds_toArray, List.set_cons_zero, List.set_cons_succ]
  refine wpAnyH_take (i := 21) (oi := { dst := some 99, op := Op.load 23 (Operand.tmp 98), type := 23, pos := "ref.go:88", after := #[{ on := 20, ground := Ground.data }, { on := 19, ground := Ground.guard }], guard := some (19, true) }) (v := undef) rfl (by kernel_rfl) (by kernel_rfl) (by kernel_rfl) (fun _ _ _ h => h) (Or.inr ⟨by rfl, rfl⟩) (by assumption) ?rest21x5
  try simp only [Act.put, List.setIfInBounds_toArray, List.set_cons_zero, List.set_cons_succ]
  refine wpAnyH_take (i := 22) (oi := { dst := some 100, op := Op.indexAddr 23 (Operand.tmp 99) (Operand.const (Value.int IntKind.i64 1)), type := 0, pos := "ref.go:88", after := #[{ on := 21, ground := Ground.data }, { on := 19, ground := Ground.guard }], guard := some (19, true) }) (v := undef) rfl (by kernel_rfl) (by kernel_rfl) (by kernel_rfl) (fun _ _ _ h => h) (Or.inr ⟨by rfl, rfl⟩) (by assumption) ?rest22x5
  try simp only [Act.put, List.setIfInBounds_toArray, List.set_cons_zero, List.set_cons_succ]
  refine wpAnyH_take (i := 23) (oi := { dst := some 101, op := Op.load 25 (Operand.tmp 100), type := 25, pos := "ref.go:88", after := #[{ on := 22, ground := Ground.data }, { on := 19, ground := Ground.guard }], guard := some (19, true) }) (v := undef) rfl (by kernel_rfl) (by kernel_rfl) (by kernel_rfl) (fun _ _ _ h => h) (Or.inr ⟨by rfl, rfl⟩) (by assumption) ?rest23x5
  try simp only [Act.put, List.setIfInBounds_toArray, List.set_cons_zero, List.set_cons_succ]
  refine wpAnyH_take (i := 24) (oi := { dst := some 102, op := Op.fieldAddr 45 (Operand.tmp 3) 4, type := 0, pos := "ref.go:88", after := #[{ on := 19, ground := Ground.guard }], guard := some (19, true) }) (v := undef) rfl (by kernel_rfl) (by kernel_rfl) (by kernel_rfl) (fun _ _ _ h => h) (Or.inr ⟨by rfl, rfl⟩) (by assumption) ?rest24x5
  try simp only [Act.put, List.setIfInBounds_toArray, List.set_cons_zero, List.set_cons_succ]
  refine wpAnyH_take (i := 25) (oi := { dst := some 103, op := Op.load 43 (Operand.tmp 102), type := 43, pos := "ref.go:88", after := #[{ on := 24, ground := Ground.data }, { on := 19, ground := Ground.guard }], guard := some (19, true) }) (v := undef) rfl (by kernel_rfl) (by kernel_rfl) (by kernel_rfl) (fun _ _ _ h => h) (Or.inr ⟨by rfl, rfl⟩) (by assumption) ?rest25x5
  try simp only [Act.put, List.setIfInBounds_toArray, List.set_cons_zero, List.set_cons_succ]
  refine wpAnyH_take (i := 26) (oi := { dst := some 104, op := Op.indexAddr 43 (Operand.tmp 103) (Operand.const (Value.int IntKind.i64 1)), type := 0, pos := "ref.go:88", after := #[{ on := 25, ground := Ground.data }, { on := 19, ground := Ground.guard }], guard := some (19, true) }) (v := undef) rfl (by kernel_rfl) (by kernel_rfl) (by kernel_rfl) (fun _ _ _ h => h) (Or.inr ⟨by rfl, rfl⟩) (by assumption) ?rest26x5
  try simp only [Act.put, List.setIfInBounds_toArray, List.set_cons_zero, List.set_cons_succ]
  refine wpAnyH_take (i := 27) (oi := { dst := some 105, op := Op.load 45 (Operand.tmp 104), type := 45, pos := "ref.go:88", after := #[{ on := 26, ground := Ground.data }, { on := 19, ground := Ground.guard }], guard := some (19, true) }) (v := undef) rfl (by kernel_rfl) (by kernel_rfl) (by kernel_rfl) (fun _ _ _ h => h) (Or.inr ⟨by rfl, rfl⟩) (by assumption) ?rest27x5
  try simp only [Act.put, List.setIfInBounds_toArray, List.set_cons_zero, List.set_cons_succ]
  refine wpAnyH_take (i := 28) (oi := { dst := some 106, op := Op.call { callee := Callee.value (Operand.func 66), args := #[Operand.tmp 101, Operand.tmp 105], argTypes := #[25, 45] }, type := 4, pos := "ref.go:88", after := #[{ on := 23, ground := Ground.data }, { on := 27, ground := Ground.data }, { on := 19, ground := Ground.chain }, { on := 19, ground := Ground.guard }], guard := some (19, true) }) (v := undef) rfl (by kernel_rfl) (by kernel_rfl) (by kernel_rfl) (fun _ _ _ h => h) (Or.inr ⟨by rfl, rfl⟩) (by assumption) ?rest28x5
  try simp only [Act.put, List.setIfInBounds_toArray, List.set_cons_zero, List.set_cons_succ]
  refine wpAnyH_take (i := 29) (oi := { dst := some 107, op := Op.pick (Operand.tmp 97) (Operand.tmp 106) (Operand.const (Value.bool false)), type := 4, pos := "ref.go:88", after := #[{ on := 19, ground := Ground.data }, { on := 28, ground := Ground.data }], guard := none }) (v := ?v29x5) rfl (by kernel_rfl) (by kernel_rfl) (by kernel_rfl) (fun _ _ _ h => h) (Or.inl ⟨by rfl, ?hy29x5⟩) (by assumption) ?rest29x5
  case hy29x5 => (intro w hSw; (try dsimp only at hSw); go_simp; try with_reducible rfl)
  try simp only [Act.put, List.setIfInBounds_toArray, List.set_cons_zero, List.set_cons_succ]
  refine wpAnyH_take (i := 30) (oi := { dst := some 4, op := Op.assign (Operand.tmp 107), type := 4, pos := "ref.go:88", after := #[{ on := 29, ground := Ground.data }, { on := 28, ground := Ground.chain }, { on := 0, ground := Ground.phase }, { on := 1, ground := Ground.phase }, { on := 2, ground := Ground.phase }, { on := 3, ground := Ground.phase }, { on := 4, ground := Ground.phase }, { on := 5, ground := Ground.phase }, { on := 6, ground := Ground.phase }, { on := 7, ground := Ground.phase }, { on := 8, ground := Ground.phase }, { on := 9, ground := Ground.phase }, { on := 10, ground := Ground.phase }, { on := 11, ground := Ground.phase }, { on := 12, ground := Ground.phase }, { on := 13, ground := Ground.phase }, { on := 14, ground := Ground.phase }, { on := 15, ground := Ground.phase }, { on := 16, ground := Ground.phase }, { on := 17, ground := Ground.phase }, { on := 18, ground := Ground.phase }, { on := 19, ground := Ground.phase }, { on := 20, ground := Ground.phase }, { on := 21, ground := Ground.phase }, { on := 22, ground := Ground.phase }, { on := 23, ground := Ground.phase }, { on := 24, ground := Ground.phase }, { on := 25, ground := Ground.phase }, { on := 26, ground := Ground.phase }, { on := 27, ground := Ground.phase }, { on := 28, ground := Ground.phase }, { on := 29, ground := Ground.phase }], guard := none }) (v := ?v30x5) rfl (by kernel_rfl) (by kernel_rfl) (by kernel_rfl) (fun _ _ _ h => h) (Or.inl ⟨by rfl, ?hy30x5⟩) (by assumption) ?rest30x5
  case hy30x5 => (intro w hSw; (try dsimp only at hSw); go_simp; try with_reducible rfl)
  try simp only [Act.put, List.setIfInBounds_toArray, List.set_cons_zero, List.set_cons_succ]
  refine wpAnyH_done (by kernel_rfl) ?_ _
  all_goals (go_wp2_with fail; go_ret; exact ⟨rbool HF.out, hB.out.trans (D2.out.mono hB.out.size)⟩)
 ·have HF : Hid (r2 = r) := by show _ = _; rw [← HRR.out]; simp
  go_enter Try.func66, Try.ntmps66
  go_wp2_with fail
  have EN : Hid (∀ W : World, Below W0.heap.size W0 W → W.cell? ⟨w.heap.size, 0, none⟩ = some (.int .i64 5) ∧ W.cell? ⟨w.heap.size, 1, none⟩ = some (.int .i64 0) ∧ W.cell? ⟨w.heap.size, 2, none⟩ = some (.slice (some ⟨b, off, none⟩) 2 sc) ∧ W.cell? ⟨w.heap.size + 1, 0, none⟩ = some (.bool false) ∧ W.cell? ⟨w.heap.size + 1, 1, none⟩ = some (.int .i64 gc) ∧ W.cell? ⟨w.heap.size + 1, 2, none⟩ = some (.int .u64 (gg : Int)) ∧ W.cell? ⟨w.heap.size + 1, 3, none⟩ = some (.slice gra grl grc) ∧ W.cell? ⟨w.heap.size + 1, 4, none⟩ = some (.slice gca gcl gcc) ∧ W.cell? ⟨w.heap.size + 1, 5, none⟩ = some (.slice (some ⟨b2, of2, none⟩) 2 gpc) ∧ W.cell? ⟨b, off, none⟩ = some (.int .i64 pt) ∧ W.cell? ⟨b, off + 1, none⟩ = some (.int .i64 pn) ∧ W.cell? ⟨b, off + 2, none⟩ = some (.slice pa pl pc) ∧ W.cell? ⟨b, off + 3, none⟩ = some (.int .i64 qt) ∧ W.cell? ⟨b, off + 4, none⟩ = some (.int .i64 qn) ∧ W.cell? ⟨b, off + 5, none⟩ = some (.slice qa ql qc) ∧ W.cell? ⟨b2, of2, none⟩ = some (.bool xz) ∧ W.cell? ⟨b2, of2 + 1, none⟩ = some (.int .i64 xc) ∧ W.cell? ⟨b2, of2 + 2, none⟩ = some (.int .u64 (xg : Int)) ∧ W.cell? ⟨b2, of2 + 3, none⟩ = some (.slice xra xrl xrc) ∧ W.cell? ⟨b2, of2 + 4, none⟩ = some (.slice xca xcl xcc) ∧ W.cell? ⟨b2, of2 + 5, none⟩ = some (.slice xpa xpl xpc) ∧ W.cell? ⟨b2, of2 + 6, none⟩ = some (.bool yz) ∧ W.cell? ⟨b2, of2 + 7, none⟩ = some (.int .i64 yc) ∧ W.cell? ⟨b2, of2 + 8, none⟩ = some (.int .u64 (yg : Int)) ∧ W.cell? ⟨b2, of2 + 9, none⟩ = some (.slice yra yrl yrc) ∧ W.cell? ⟨b2, of2 + 10, none⟩ = some (.slice yca ycl ycc) ∧ W.cell? ⟨b2, of2 + 11, none⟩ = some (.slice ypa ypl ypc)) := fun W h => by
   obtain ⟨a0, a1, a2⟩ := tri_cells (heap_old (heap_old T0.out (Below.refl _ _)) h); obtain ⟨c0, c1, c2, c3, c4, c5⟩ := six_cells (heap_old (heap_old T1.out (Below.refl _ _)) h)
   have hww : Below w.heap.size w W := hB.out.trans (h.mono hB.out.size)
   obtain ⟨d0, d1, d2⟩ := HP3.out.below hww; obtain ⟨e0, e1, e2⟩ := HQ3.out.below hww; obtain ⟨f0, f1, f2, f3, f4, f5⟩ := HX6.out.below hww; obtain ⟨g0, g1, g2, g3, g4, g5⟩ := HY6.out.below hww
   exact ⟨a0, a1, a2, c0, c1, c2, c3, c4, c5, d0, d1, d2, e0, e1, e2, f0, f1, f2, f3, f4, f5, g0, g1, g2, g3, g4, g5⟩
  clear x0 x1 x2 y0 y1 y2 y3 y4 y5
  obtain ⟨m0, m1, m2, m3, m4, m5, m6, m7, m8, m9, m10, m11, m12, m13, m14, m15, m16, m17, m18, m19, m20, m21, m22, m23, m24, m25, m26⟩ := EN.out _ (Below.refl _ _)
  have D0 : Hid (Below W0.heap.size W0 W0.drew) := (Below.refl _ _).drew
  refine wp_region_held_drew (S := (fun w' => w'.cell? ⟨w.heap.size, 0, none⟩ = some (.int .i64 5) ∧ w'.cell? ⟨w.heap.size, 1, none⟩ = some (.int .i64 0) ∧ w'.cell? ⟨w.heap.size, 2, none⟩ = some (.slice (some ⟨b, off, none⟩) 2 sc) ∧ w'.cell? ⟨w.heap.size + 1, 0, none⟩ = some (.bool false) ∧ w'.cell? ⟨w.heap.size + 1, 1, none⟩ = some (.int .i64 gc) ∧ w'.cell? ⟨w.heap.size + 1, 2, none⟩ = some (.int .u64 (gg : Int)) ∧ w'.cell? ⟨w.heap.size + 1, 3, none⟩ = some (.slice gra grl grc) ∧ w'.cell? ⟨w.heap.size + 1, 4, none⟩ = some (.slice gca gcl gcc) ∧ w'.cell? ⟨w.heap.size + 1, 5, none⟩ = some (.slice (some ⟨b2, of2, none⟩) 2 gpc) ∧ w'.cell? ⟨b, off, none⟩ = some (.int .i64 pt) ∧ w'.cell? ⟨b, off + 1, none⟩ = some (.int .i64 pn) ∧ w'.cell? ⟨b, off + 2, none⟩ = some (.slice pa pl pc) ∧ w'.cell? ⟨b, off + 3, none⟩ = some (.int .i64 qt) ∧ w'.cell? ⟨b, off + 4, none⟩ = some (.int .i64 qn) ∧ w'.cell? ⟨b, off + 5, none⟩ = some (.slice qa ql qc) ∧ w'.cell? ⟨b2, of2, none⟩ = some (.bool xz) ∧ w'.cell? ⟨b2, of2 + 1, none⟩ = some (.int .i64 xc) ∧ w'.cell? ⟨b2, of2 + 2, none⟩ = some (.int .u64 (xg : Int)) ∧ w'.cell? ⟨b2, of2 + 3, none⟩ = some (.slice xra xrl xrc) ∧ w'.cell? ⟨b2, of2 + 4, none⟩ = some (.slice xca xcl xcc) ∧ w'.cell? ⟨b2, of2 + 5, none⟩ = some (.slice xpa xpl xpc) ∧ w'.cell? ⟨b2, of2 + 6, none⟩ = some (.bool yz) ∧ w'.cell? ⟨b2, of2 + 7, none⟩ = some (.int .i64 yc) ∧ w'.cell? ⟨b2, of2 + 8, none⟩ = some (.int .u64 (yg : Int)) ∧ w'.cell? ⟨b2, of2 + 9, none⟩ = some (.slice yra yrl yrc) ∧ w'.cell? ⟨b2, of2 + 10, none⟩ = some (.slice yca ycl ycc) ∧ w'.cell? ⟨b2, of2 + 11, none⟩ = some (.slice ypa ypl ypc))) (by kernel_rfl) (by with_reducible exact EN.out _ D0.out) (fun hHeld => ?_)
  refine wpAnyH_take (i := 0) (oi := { dst := some 78, op := Op.load 45 (Operand.tmp 3), type := 45, pos := "ref.go:88", after := #[], guard := none }) (v := ?v0x6) rfl (by kernel_rfl) (by kernel_rfl) (by kernel_rfl) (fun _ _ _ h => h) (Or.inl ⟨by rfl, ?hy0x6⟩) (by assumption) ?rest0x6
  case hy0x6 => (intro w hSw; (try dsimp only at hSw); go_simp; try with_reducible rfl)
  try simp only [Act.put, List.setIfInBounds_toArray, List.set_cons_zero, List.set_cons_succ]
  refine wpAnyH_ready (rs := [1]) (by kernel_rfl) (by simp) (AllReadyH.cons (o := { dst := some 79, op := Op.call { callee := Callee.value (Operand.func 89), args := #[Operand.tmp 78, Operand.const (Value.bool false), Operand.const (Value.bool false), Operand.const (Value.bool false), Operand.const (Value.bool true)], argTypes := #[45, 4, 4, 4, 4] }, type := 4, pos := "ref.go:88", after := #[{ on := 0, ground := Ground.data }], guard := none }) rfl (fun K hK => ?_) AllReadyH.nil)
  go_simp
  go_at_call 89
  refine (plainR_4 ⟨false, gc, gg, gra, grl, grc, grows, gca, gcl, gcc, gcells, (some ⟨b2, of2, none⟩), 2, gpc⟩ true HO.out _).mono ?_
  rintro e z1 ⟨rfl, hz1⟩
  have D1 : Hid (Below W0.heap.size W0 z1) := Lib.hid (D0.out.trans (hz1.mono D0.out.size))
  dsimp only
  refine hK.out _ _ (by with_reducible exact EN.out _ D1.out) (fun hHeld1 => ?_)
  clear hK K
  try simp only [Act.put, List.setIfInBounds_toArray, List.set_cons_zero, List.set_cons_succ]
  refine wpAnyH_take (i := 2) (oi := { dst := some 80, op := Op.move (Operand.tmp 79), type := 4, pos := "ref.go:88", after := #[{ on := 1, ground := Ground.data }, { on := 1, ground := Ground.chain }], guard := none }) (v := ?v2x6) rfl (by kernel_rfl) (by kernel_rfl) (by kernel_rfl) (fun _ _ _ h => h) (Or.inl ⟨by rfl, ?hy2x6⟩) (by assumption) ?rest2x6
  case hy2x6 => (intro w hSw; (try dsimp only at hSw); go_simp; try with_reducible rfl)
  try simp only [Act.put, List.setIfInBounds_toArray, List.set_cons_zero, List.set_cons_succ]
  refine wpAnyH_take (i := 3) (oi := { dst := some 81, op := Op.fieldAddr 45 (Operand.tmp 3) 4, type := 0, pos := "ref.go:88", after := #[{ on := 2, ground := Ground.guard }], guard := some (2, true) }) (v := ?v3x6) rfl (by kernel_rfl) (by kernel_rfl) (by kernel_rfl) (fun _ _ _ h => h) (Or.inl ⟨by rfl, ?hy3x6⟩) (by assumption) ?rest3x6
  case hy3x6 => (intro w hSw; (try dsimp only at hSw); go_simp; try with_reducible rfl)
  try simp only [Act.put, List.setIfInBounds_toArray, List.set_cons_zero, List.set_cons_succ]
  refine wpAnyH_take (i := 4) (oi := { dst := some 82, op := Op.load 43 (Operand.tmp 81), type := 43, pos := "ref.go:88", after := #[{ on := 3, ground := Ground.data }, { on := 2, ground := Ground.guard }], guard := some (2, true) }) (v := ?v4x6) rfl (by kernel_rfl) (by kernel_rfl) (by kernel_rfl) (fun _ _ _ h => h) (Or.inl ⟨by rfl, ?hy4x6⟩) (by assumption) ?rest4x6
  case hy4x6 => (intro w hSw; (try dsimp only at hSw); go_simp; try with_reducible rfl)
  try simp only [Act.put, List.setIfInBounds_toArray, List.set_cons_zero, List.set_cons_succ]
  refine wpAnyH_take (i := 5) (oi := { dst := some 83, op := Op.call { callee := Callee.builtin Builtin.len, args := #[Operand.tmp 82], argTypes := #[43] }, type := 3, pos := "ref.go:88", after := #[{ on := 4, ground := Ground.data }, { on := 2, ground := Ground.guard }], guard := some (2, true) }) (v := ?v5x6) rfl (by kernel_rfl) (by kernel_rfl) (by kernel_rfl) (fun _ _ _ h => h) (Or.inl ⟨by rfl, ?hy5x6⟩) (by assumption) ?rest5x6
  case hy5x6 => (intro w hSw; (try dsimp only at hSw); go_simp; try with_reducible rfl)
  try simp only [Act.put, List.setIfInBounds_toArray, List.set_cons_zero, List.set_cons_succ]
  refine wpAnyH_take (i := 6) (oi := { dst := some 84, op := Op.binOp BinOp.eql 3 (Operand.tmp 83) (Operand.const (Value.int IntKind.i64 2)) 3, type := 4, pos := "ref.go:88", after := #[{ on := 5, ground := Ground.data }, { on := 2, ground := Ground.guard }], guard := some (2, true) }) (v := ?v6x6) rfl (by kernel_rfl) (by kernel_rfl) (by kernel_rfl) (fun _ _ _ h => h) (Or.inl ⟨by rfl, ?hy6x6⟩) (by assumption) ?rest6x6
  case hy6x6 => (intro w hSw; (try dsimp only at hSw); go_simp; try with_reducible rfl)
  try simp only [Act.put, List.setIfInBounds_toArray, List.set_cons_zero, List.set_cons_succ]
  refine wpAnyH_take (i := 7) (oi := { dst := some 85, op := Op.pick (Operand.tmp 80) (Operand.tmp 84) (Operand.const (Value.bool false)), type := 4, pos := "ref.go:88", after := #[{ on := 2, ground := Ground.data }, { on := 6, ground := Ground.data }], guard := none }) (v := ?v7x6) rfl (by kernel_rfl) (by kernel_rfl) (by kernel_rfl) (fun _ _ _ h => h) (Or.inl ⟨by rfl, ?hy7x6⟩) (by assumption) ?rest7x6
  case hy7x6 => (intro w hSw; (try dsimp only at hSw); go_simp; try with_reducible rfl)
  try simp only [Act.put, List.setIfInBounds_toArray, List.set_cons_zero, List.set_cons_succ]
  refine wpAnyH_take (i := 8) (oi := { dst := some 86, op := Op.move (Operand.tmp 85), type := 4, pos := "ref.go:88", after := #[{ on := 7, ground := Ground.data }, { on := 2, ground := Ground.chain }], guard := none }) (v := ?v8x6) rfl (by kernel_rfl) (by kernel_rfl) (by kernel_rfl) (fun _ _ _ h => h) (Or.inl ⟨by rfl, ?hy8x6⟩) (by assumption) ?rest8x6
  case hy8x6 => (intro w hSw; (try dsimp only at hSw); go_simp; try with_reducible rfl)
  try simp only [Act.put, List.setIfInBounds_toArray, List.set_cons_zero, List.set_cons_succ]
  refine wpAnyH_take (i := 9) (oi := { dst := some 87, op := Op.fieldAddr 25 (Operand.tmp 2) 2, type := 0, pos := "ref.go:88", after := #[{ on := 8, ground := Ground.guard }], guard := some (8, true) }) (v := ?v9x6) rfl (by kernel_rfl) (by kernel_rfl) (by kernel_rfl) (fun _ _ _ h => h) (Or.inl ⟨by rfl, ?hy9x6⟩) (by assumption) ?rest9x6
  case hy9x6 => (intro w hSw; (try dsimp only at hSw); go_simp; try with_reducible rfl)
  try simp only [Act.put, List.setIfInBounds_toArray, List.set_cons_zero, List.set_cons_succ]
  refine wpAnyH_take (i := 10) (oi := { dst := some 88, op := Op.load 23 (Operand.tmp 87), type := 23, pos := "ref.go:88", after := #[{ on := 9, ground := Ground.data }, { on := 8, ground := Ground.guard }], guard := some (8, true) }) (v := ?v10x6) rfl (by kernel_rfl) (by kernel_rfl) (by kernel_rfl) (fun _ _ _ h => h) (Or.inl ⟨by rfl, ?hy10x6⟩) (by assumption) ?rest10x6
  case hy10x6 => (intro w hSw; (try dsimp only at hSw); go_simp; try with_reducible rfl)
  try simp only [Act.put, List.setIfInBounds_toArray, List.set_cons_zero, List.set_cons_succ]
  refine wpAnyH_take (i := 11) (oi := { dst := some 89, op := Op.indexAddr 23 (Operand.tmp 88) (Operand.const (Value.int IntKind.i64 0)), type := 0, pos := "ref.go:88", after := #[{ on := 10, ground := Ground.data }, { on := 8, ground := Ground.guard }], guard := some (8, true) }) (v := ?v11x6) rfl (by kernel_rfl) (by kernel_rfl) (by kernel_rfl) (fun _ _ _ h => h) (Or.inl ⟨by rfl, ?hy11x6⟩) (by assumption) ?rest11x6
  case hy11x6 => (intro w hSw; (try dsimp only at hSw); go_simp; try with_reducible rfl)
  try simp only [Act.put, List.setIfInBounds_toArray, List.set_cons_zero, List.set_cons_succ]
  refine wpAnyH_take (i := 12) (oi := { dst := some 90, op := Op.load 25 (Operand.tmp 89), type := 25, pos := "ref.go:88", after := #[{ on := 11, ground := Ground.data }, { on := 8, ground := Ground.guard }], guard := some (8, true) }) (v := ?v12x6) rfl (by kernel_rfl) (by kernel_rfl) (by kernel_rfl) (fun _ _ _ h => h) (Or.inl ⟨by rfl, ?hy12x6⟩) (by assumption) ?rest12x6
  case hy12x6 => (intro w hSw; (try dsimp only at hSw); go_simp; try with_reducible rfl)
  try simp only [Act.put, List.setIfInBounds_toArray, List.set_cons_zero, List.set_cons_succ]
  refine wpAnyH_take (i := 13) (oi := { dst := some 91, op := Op.fieldAddr 45 (Operand.tmp 3) 4, type := 0, pos := "ref.go:88", after := #[{ on := 8, ground := Ground.guard }], guard := some (8, true) }) (v := ?v13x6) rfl (by kernel_rfl) (by kernel_rfl) (by kernel_rfl) (fun _ _ _ h => h) (Or.inl ⟨by rfl, ?hy13x6⟩) (by assumption) ?rest13x6
  case hy13x6 => (intro w hSw; (try dsimp only at hSw); go_simp; try with_reducible rfl)
  try simp only [Act.put, List.setIfInBounds_toArray, List.set_cons_zero, List.set_cons_succ]
  refine wpAnyH_take (i := 14) (oi := { dst := some 92, op := Op.load 43 (Operand.tmp 91), type := 43, pos := "ref.go:88", after := #[{ on := 13, ground := Ground.data }, { on := 8, ground := Ground.guard }], guard := some (8, true) }) (v := ?v14x6) rfl (by kernel_rfl) (by kernel_rfl) (by kernel_rfl) (fun _ _ _ h => h) (Or.inl ⟨by rfl, ?hy14x6⟩) (by assumption) ?rest14x6
  case hy14x6 => (intro w hSw; (try dsimp only at hSw); go_simp; try with_reducible rfl)
  try simp only [Act.put, List.setIfInBounds_toArray, List.set_cons_zero, List.set_cons_succ]
  refine wpAnyH_take (i := 15) (oi := { dst := some 93, op := Op.indexAddr 43 (Operand.tmp 92) (Operand.const (Value.int IntKind.i64 0)), type := 0, pos := "ref.go:88", after := #[{ on := 14, ground := Ground.data }, { on := 8, ground := Ground.guard }], guard := some (8, true) }) (v := ?v15x6) rfl (by kernel_rfl) (by kernel_rfl) (by kernel_rfl) (fun _ _ _ h => h) (Or.inl ⟨by rfl, ?hy15x6⟩) (by assumption) ?rest15x6
  case hy15x6 => (intro w hSw; (try dsimp only at hSw); go_simp; try with_reducible rfl)
  try simp only [Act.put, List.setIfInBounds_toArray, List.set_cons_zero, List.set_cons_succ]
  refine wpAnyH_take (i := 16) (oi := { dst := some 94, op := Op.load 45 (Operand.tmp 93), type := 45, pos := "ref.go:88", after := #[{ on := 15, ground := Ground.data }, { on := 8, ground := Ground.guard }], guard := some (8, true) }) (v := ?v16x6) rfl (by kernel_rfl) (by kernel_rfl) (by kernel_rfl) (fun _ _ _ h => h) (Or.inl ⟨by rfl, ?hy16x6⟩) (by assumption) ?rest16x6
  case hy16x6 => (intro w hSw; (try dsimp only at hSw); go_simp; try with_reducible rfl)
  try simp only [Act.put, List.setIfInBounds_toArray, List.set_cons_zero, List.set_cons_succ]
  refine wpAnyH_ready (rs := [17]) (by kernel_rfl) (by simp) (AllReadyH.cons (o := { dst := some 95, op := Op.call { callee := Callee.value (Operand.func 66), args := #[Operand.tmp 90, Operand.tmp 94], argTypes := #[25, 45] }, type := 4, pos := "ref.go:88", after := #[{ on := 12, ground := Ground.data }, { on := 16, ground := Ground.data }, { on := 8, ground := Ground.chain }, { on := 8, ground := Ground.guard }], guard := some (8, true) }) rfl (fun K hK => ?_) AllReadyH.nil)
  go_simp
  go_at_call 66
  with_reducible refine (isR_plainY pt pn pa pl pc ⟨xz, xc, xg, xra, xrl, xrc, xrows, xca, xcl, xcc, xcells, xpa, xpl, xpc⟩ HP.out XSS.out _ (XAA.out.below (hB.out.trans ((D1.out).mono hB.out.size))) true HR1.out).mono ?_
  rintro e z2 ⟨rfl, hz2⟩
  have D2 : Hid (Below W0.heap.size W0 z2) := Lib.hid (D1.out.trans (hz2.mono D1.out.size))
  dsimp only
  refine hK.out _ _ (by with_reducible exact EN.out _ D2.out) (fun hHeld2 => ?_)
  clear hK K
  try simp only [Act.put, List.setIfInBounds_toArray, List.set_cons_zero, List.set_cons_succ]
  refine wpAnyH_take (i := 18) (oi := { dst := some 96, op := Op.pick (Operand.tmp 86) (Operand.tmp 95) (Operand.const (Value.bool false)), type := 4, pos := "ref.go:88", after := #[{ on := 8, ground := Ground.data }, { on := 17, ground := Ground.data }], guard := none }) (v := ?v18x6) rfl (by kernel_rfl) (by kernel_rfl) (by kernel_rfl) (fun _ _ _ h => h) (Or.inl ⟨by rfl, ?hy18x6⟩) (by assumption) ?rest18x6
  case hy18x6 => (intro w hSw; (try dsimp only at hSw); go_simp; try with_reducible rfl)
  try simp only [Act.put, List.setIfInBounds_toArray, List.set_cons_zero, List.set_cons_succ]
  refine wpAnyH_take (i := 19) (oi := { dst := some 97, op := Op.move (Operand.tmp 96), type := 4, pos := "ref.go:88", after := #[{ on := 18, ground := Ground.data }, { on := 17, ground := Ground.chain }], guard := none }) (v := ?v19x6) rfl (by kernel_rfl) (by kernel_rfl) (by kernel_rfl) (fun _ _ _ h => h) (Or.inl ⟨by rfl, ?hy19x6⟩) (by assumption) ?rest19x6
  case hy19x6 => (intro w hSw; (try dsimp only at hSw); go_simp; try with_reducible rfl)
  try simp only [Act.put, List.setIfInBounds_toArray, List.set_cons_zero, List.set_cons_succ]
  refine wpAnyH_take (i := 20) (oi := { dst := some 98, op := Op.fieldAddr 25 (Operand.tmp 2) 2, type := 0, pos := "ref.go:88", after := #[{ on := 19, ground := Ground.guard }], guard := some (19, true) }) (v := ?v20x6) rfl (by kernel_rfl) (by kernel_rfl) (by kernel_rfl) (fun _ _ _ h => h) (Or.inl ⟨by rfl, ?hy20x6⟩) (by assumption) ?rest20x6
  case hy20x6 => (intro w hSw; (try dsimp only at hSw); go_simp; try with_reducible rfl)
  try simp only [Act.put, List.setIfInBounds_toArray, List.set_cons_zero, List.set_cons_succ]
  refine wpAnyH_take (i := 21) (oi := { dst := some 99, op := Op.load 23 (Operand.tmp 98), type := 23, pos := "ref.go:88", after := #[{ on := 20, ground := Ground.data }, { on := 19, ground := Ground.guard }], guard := some (19, true) }) (v := ?v21x6) rfl (by kernel_rfl) (by kernel_rfl) (by kernel_rfl) (fun _ _ _ h => h) (Or.inl ⟨by rfl, ?hy21x6⟩) (by assumption) ?rest21x6
  case hy21x6 => (intro w hSw; (try dsimp only at hSw); go_simp; try with_reducible rfl)
  try simp only [Act.put, List.setIfInBounds_toArray, List.set_cons_zero, List.set_cons_succ]
  refine wpAnyH_take (i := 22) (oi := { dst := some 100, op := Op.indexAddr 23 (Operand.tmp 99) (Operand.const (Value.int IntKind.i64 1)), type := 0, pos := "ref.go:88", after := #[{ on := 21, ground := Ground.data }, { on := 19, ground := Ground.guard }], guard := some (19, true) }) (v := ?v22x6) rfl (by kernel_rfl) (by kernel_rfl) (by kernel_rfl) (fun _ _ _ h => h) (Or.inl ⟨by rfl, ?hy22x6⟩) (by assumption) ?rest22x6
  case hy22x6 => (intro w hSw; (try dsimp only at hSw); go_simp; try with_reducible rfl)
  try simp only [Act.put, List.setIfInBounds_toArray, List.set_cons_zero, List.set_cons_succ]
  refine wpAnyH_take (i := 23) (oi := { dst := some 101, op := Op.load 25 (Operand.tmp 100), type := 25, pos := "ref.go:88", after := #[{ on := 22, ground := Ground.data }, { on := 19, ground := Ground.guard }], guard := some (19, true) }) (v := ?v23x6) rfl (by kernel_rfl) (by kernel_rfl) (by kernel_rfl) (fun _ _ _ h => h) (Or.inl ⟨by rfl, ?hy23x6⟩) (by assumption) ?rest23x6
  case hy23x6 => (intro w hSw; (try dsimp only at hSw); go_simp; try with_reducible rfl)
  try simp only [Act.put, List.setIfInBounds_toArray, List.set_cons_zero, List.set_cons_succ]
  refine wpAnyH_take (i := 24) (oi := { dst := some 102, op := Op.fieldAddr 45 (Operand.tmp 3) 4, type := 0, pos := "ref.go:88", after := #[{ on := 19, ground := Ground.guard }], guard := some (19, true) }) (v := ?v24x6) rfl (by kernel_rfl) (by kernel_rfl) (by kernel_rfl) (fun _ _ _ h => h) (Or.inl ⟨by rfl, ?hy24x6⟩) (by assumption) ?rest24x6
  case hy24x6 => (intro w hSw; (try dsimp only at hSw); go_simp; try with_reducible rfl)
  try simp only [Act.put, List.setIfInBounds_toArray, List.set_cons_zero, List.set_cons_succ]
  refine wpAnyH_take (i := 25) (oi := { dst := some 103, op := Op.load 43 (Operand.tmp 102), type := 43, pos := "ref.go:88", after := #[{ on := 24, ground := Ground.data }, { on := 19, ground := Ground.guard }], guard := some (19, true) }) (v := ?v25x6) rfl (by kernel_rfl) (by kernel_rfl) (by kernel_rfl) (fun _ _ _ h => h) (Or.inl ⟨by rfl, ?hy25x6⟩) (by assumption) ?rest25x6
  case hy25x6 => (intro w hSw; (try dsimp only at hSw); go_simp; try with_reducible rfl)
  try simp only [Act.put, List.setIfInBounds_toArray, List.set_cons_zero, List.set_cons_succ]
  refine wpAnyH_take (i := 26) (oi := { dst := some 104, op := Op.indexAddr 43 (Operand.tmp 103) (Operand.const (Value.int IntKind.i64 1)), type := 0, pos := "ref.go:88", after := #[{ on := 25, ground := Ground.data }, { on := 19, ground := Ground.guard }], guard := some (19, true) }) (v := ?v26x6) rfl (by kernel_rfl) (by kernel_rfl) (by kernel_rfl) (fun _ _ _ h => h) (Or.inl ⟨by rfl, ?hy26x6⟩) (by assumption) ?rest26x6
  case hy26x6 => (intro w hSw; (try dsimp only at hSw); go_simp; try with_reducible rfl)
  try simp only [Act.put, List.setIfInBounds_toArray, List.set_cons_zero, List.set_cons_succ]
  refine wpAnyH_take (i := 27) (oi := { dst := some 105, op := Op.load 45 (Operand.tmp 104), type := 45, pos := "ref.go:88", after := #[{ on := 26, ground := Ground.data }, { on := 19, ground := Ground.guard }], guard := some (19, true) }) (v := ?v27x6) rfl (by kernel_rfl) (by kernel_rfl) (by kernel_rfl) (fun _ _ _ h => h) (Or.inl ⟨by rfl, ?hy27x6⟩) (by assumption) ?rest27x6
  case hy27x6 => (intro w hSw; (try dsimp only at hSw); go_simp; try with_reducible rfl)
  try simp only [Act.put, List.setIfInBounds_toArray, List.set_cons_zero, List.set_cons_succ]
  refine wpAnyH_ready (rs := [28]) (by kernel_rfl) (by simp) (AllReadyH.cons (o := { dst := some 106, op := Op.call { callee := Callee.value (Operand.func 66), args := #[Operand.tmp 101, Operand.tmp 105], argTypes := #[25, 45] }, type := 4, pos := "ref.go:88", after := #[{ on := 23, ground := Ground.data }, { on := 27, ground := Ground.data }, { on := 19, ground := Ground.chain }, { on := 19, ground := Ground.guard }], guard := some (19, true) }) rfl (fun K hK => ?_) AllReadyH.nil)
  go_simp
  go_at_call 66
  with_reducible refine (isR_plainY qt qn qa ql qc ⟨yz, yc, yg, yra, yrl, yrc, yrows, yca, ycl, ycc, ycells, ypa, ypl, ypc⟩ HQ.out YSS.out _ (YAA.out.below (hB.out.trans ((D2.out).mono hB.out.size))) r2 HR2.out).mono ?_
  rintro e z3 ⟨rfl, hz3⟩
  have D3 : Hid (Below W0.heap.size W0 z3) := Lib.hid (D2.out.trans (hz3.mono D2.out.size))
  dsimp only
  refine hK.out _ _ (by with_reducible exact EN.out _ D3.out) (fun hHeld3 => ?_)
  clear hK K
  try simp only [Act.put, List.setIfInBounds_toArray, List.set_cons_zero, List.set_cons_succ]
  refine wpAnyH_take (i := 29) (oi := { dst := some 107, op := Op.pick (Operand.tmp 97) (Operand.tmp 106) (Operand.const (Value.bool false)), type := 4, pos := "ref.go:88", after := #[{ on := 19, ground := Ground.data }, { on := 28, ground := Ground.data }], guard := none }) (v := ?v29x6) rfl (by kernel_rfl) (by kernel_rfl) (by kernel_rfl) (fun _ _ _ h => h) (Or.inl ⟨by rfl, ?hy29x6⟩) (by assumption) ?rest29x6
  case hy29x6 => (intro w hSw; (try dsimp only at hSw); go_simp; try with_reducible rfl)
  try simp only [Act.put, List.setIfInBounds_toArray, List.set_cons_zero, List.set_cons_succ]
  refine wpAnyH_take (i := 30) (oi := { dst := some 4, op := Op.assign (Operand.tmp 107), type := 4, pos := "ref.go:88", after := #[{ on := 29, ground := Ground.data }, { on := 28, ground := Ground.chain }, { on := 0, ground := Ground.phase }, { on := 1, ground := Ground.phase }, { on := 2, ground := Ground.phase }, { on := 3, ground := Ground.phase }, { on := 4, ground := Ground.phase }, { on := 5, ground := Ground.phase }, { on := 6, ground := Ground.phase }, { on := 7, ground := Ground.phase }, { on := 8, ground := Ground.phase }, { on := 9, ground := Ground.phase }, { on := 10, ground := Ground.phase }, { on := 11, ground := Ground.phase }, { on := 12, ground := Ground.phase }, { on := 13, ground := Ground.phase }, { on := 14, ground := Ground.phase }, { on := 15, ground := Ground.phase }, { on := 16, ground := Ground.phase }, { on := 17, ground := Ground.phase }, { on := 18, ground := Ground.phase }, { on := 19, ground := Ground.phase }, { on := 20, ground := Ground.phase }, { on := 21, ground := Ground.phase }, { on := 22, ground := Ground.phase }, { on := 23, ground := Ground.phase }, { on := 24, ground := Ground.phase }, { on := 25, ground := Ground.phase }, { on := 26, ground := Ground.phase }, { on := 27, ground := Ground.phase }, { on := 28, ground := Ground.phase }, { on := 29, ground := Ground.phase }], guard := none }) (v := ?v30x6) rfl (by kernel_rfl) (by kernel_rfl) (by kernel_rfl) (fun _ _ _ h => h) (Or.inl ⟨by rfl, ?hy30x6⟩) (by assumption) ?rest30x6
  case hy30x6 => (intro w hSw; (try dsimp only at hSw); go_simp; try with_reducible rfl)
  try simp only [Act.put, List.setIfInBounds_toArray, List.set_cons_zero, List.set_cons_succ]
  refine wpAnyH_done (by kernel_rfl) ?_ _
  all_goals (go_wp2_with fail; go_ret; exact ⟨rbool HF.out, hB.out.trans (D3.out.mono hB.out.size)⟩)
end Go.Proofs.Ytpkcaabbcoiiiaa
namespace Go.Proofs.Ytpkcaabbcoiiiaa
open Go.RowKit
def mixL (ys xs : List Nat) (k : Nat) : List Nat := ys.take k ++ xs.drop k
theorem mixL_set {ys xs : List Nat} {k x y : Nat} (hy : ys[k]? = some y) (hx : xs[k]? = some x) : (mixL ys xs k).set k y = mixL ys xs (k + 1) := by
 obtain ⟨hk, ex⟩ := List.getElem?_eq_some_iff.1 hx
 obtain ⟨hk2, ey⟩ := List.getElem?_eq_some_iff.1 hy
 unfold mixL
 have hl : (ys.take k).length = k := by rw [List.length_take]; omega
 rw [List.set_append_right _ _ (by omega), hl, Nat.sub_self, List.drop_eq_getElem_cons hk, List.set_cons_zero, List.take_succ_eq_append_getElem hk2, ey, List.append_assoc]
 rfl
theorem mixL_at {ys xs : List Nat} {k x : Nat} (hl : ys.length = xs.length) (hx : xs[k]? = some x) : (mixL ys xs k)[k]? = some x := by
 obtain ⟨hk, ex⟩ := List.getElem?_eq_some_iff.1 hx
 unfold mixL
 have h2 : (ys.take k).length = k := by rw [List.length_take]; omega
 rw [List.getElem?_append_right (by omega), h2, Nat.sub_self, List.getElem?_drop, Nat.add_zero, hx]
theorem mixL_zero (ys xs : List Nat) : mixL ys xs 0 = xs := by simp [mixL]
theorem mixL_all {ys xs : List Nat} (hl : ys.length = xs.length) : mixL ys xs xs.length = ys := by
 unfold mixL
 rw [List.take_of_length_le (by omega), List.drop_of_length_le (Nat.le_refl _), List.append_nil]
theorem u64s_set (l : List Nat) (k y : Nat) : (u64s l).set k (.int .u64 (y : Int)) = u64s (l.set k y) := by
 unfold u64s; rw [List.map_set]
theorem u64s_get {l : List Nat} {k x : Nat} (h : l[k]? = some x) : (u64s l)[k]? = some (.int .u64 (x : Int)) := by
 unfold u64s; rw [List.getElem?_map, h]; rfl
end Go.Proofs.Ytpkcaabbcoiiiaa
namespace Go.Proofs.Ytpkcaabbcoiiiaa
open Go.RowKit
def FRet (gen : Nat) (rows : List Nat) (err : Int) (w : World) (e : Ending) (w' : World) : Prop :=
 ∃ a cap, e = .returned (.tuple #[.agg #[.int .u64 (gen : Int), .slice a rows.length cap], .int .i64 err]) ∧ VRow w' a (u64s rows) ∧ (∀ ad, a = some ad → w.heap.size ≤ ad.block ∧ ad.block < w'.heap.size) ∧ Below w.heap.size w w'
theorem fret_own {w w' : World} {gen n : Nat} {v : Value} {rows : List Nat} {base : Nat} (hb0 : w.heap.size ≤ base) (h : w'.ownsRow base 38 1 v n (u64s rows)) (hb : Below w.heap.size w w') (err : Int) : FRet gen rows err w (.returned (.tuple #[.agg #[.int .u64 (gen : Int), v], .int .i64 err])) w' := by
 obtain ⟨hn, a, cap, rfl, hr, hf⟩ := VRow.of_own h
 exact ⟨a, cap, by rw [u64s_length], hr, fun ad e => ⟨Nat.le_trans hb0 (hf ad e).1, (hf ad e).2⟩, hb⟩
end Go.Proofs.Ytpkcaabbcoiiiaa
namespace Go.Proofs.Ytpkcaabbcoiiiaa
open Go.RowKit
theorem checkE_ok {n : Int} {gen : Nat} {rows : List Nat} (h : checkE n gen rows = 0) : dimB n = true ∧ shapeB n.toNat gen rows = true ∧ clearB gen rows = true := by
 unfold checkE at h
 split at h
 ·rename_i hd
  split at h
  ·rename_i hs
   rw [Bool.and_eq_true] at hs
   exact ⟨hd, hs.1, hs.2⟩
  ·cases h
 ·cases h
theorem shapeB_len {m gen : Nat} {rows : List Nat} (h : shapeB m gen rows = true) : rows.length = m ∧ insN m gen = true ∧ ∀ r ∈ rows, insN m r = true := by
 unfold shapeB at h
 simp only [Bool.and_eq_true, decide_eq_true_eq, List.all_eq_true] at h
 exact h
end Go.Proofs.Ytpkcaabbcoiiiaa
namespace Go.Proofs.Ytpkcaabbcoiiiaa
open Go.RowKit
def FOwn (gen : Nat) (rows : List Nat) (err : Int) (w : World) (e : Ending) (w' : World) : Prop :=
 ∃ v, e = .returned (.tuple #[.agg #[.int .u64 (gen : Int), v], .int .i64 err]) ∧ w'.ownsRow w.heap.size 38 1 v rows.length (u64s rows) ∧ Below w.heap.size w w'
theorem fown_nil {w w' : World} (err : Int) (hb : Below w.heap.size w w') : FOwn 0 [] err w (.returned (.tuple #[.agg #[.int .u64 0, .slice none 0 0], .int .i64 err])) w' :=
 ⟨_, rfl, World.ownsRow_nil _ _ _ _, hb⟩
theorem fown_own {w w' : World} {gen n : Nat} {v : Value} {rows : List Nat} (h : w'.ownsRow w.heap.size 38 1 v n (u64s rows)) (hb : Below w.heap.size w w') (err : Int) : FOwn gen rows err w (.returned (.tuple #[.agg #[.int .u64 (gen : Int), v], .int .i64 err])) w' := by
 have hn : n = rows.length := by have := h.1; rw [u64s_length] at this; omega
 subst hn
 exact ⟨v, rfl, h, hb⟩
theorem FOwn.ret {gen : Nat} {rows : List Nat} {err : Int} {w w' : World} {e : Ending} (h : FOwn gen rows err w e w') : FRet gen rows err w e w' := by
 obtain ⟨v, rfl, ho, hb⟩ := h
 exact fret_own (Nat.le_refl _) ho hb err
def onesL (m : Nat) : List Nat := (List.range m).map fun i => 2 ^ i
theorem onesL_length (m : Nat) : (onesL m).length = m := by simp [onesL]
theorem onesL_at {m k : Nat} (h : k < m) : (onesL m)[k]? = some (2 ^ k) := by
 unfold onesL
 rw [List.getElem?_map, List.getElem?_range h]; rfl
def oneV (n : Int) : List Nat := if dimB n = true then onesL n.toNat else []
def oneE (n : Int) : Int := if dimB n = true then 0 else 31
set_option maxHeartbeats 2000000 in
theorem oneA_is (n : Int) (w : World) (e0 : Int) (he : oneE n = e0) (ys : List Nat) (hys : oneV n = ys) :
  Calls Try.prog 111 #[.int .i64 n] w (FOwn 0 ys e0 w) := by
 have hB0 : Below w.heap.size w (w.alloc (.cells #[.int .u64 0, .slice none 0 0] 41)) := (Below.refl _ _).alloc (Nat.le_refl _) _
 have T0 := Lib.hid (heapV_new w (.cells #[.int .u64 0, .slice none 0 0] 41))
 obtain ⟨i0, hi, hz0, hz1, hz2⟩ := info_parts infoU
 cases hd : dimB n
 ·obtain rfl : 31 = e0 := by rw [← he, oneE, hd]; rfl
  obtain rfl : [] = ys := by rw [← hys, oneV, hd]; rfl
  obtain ⟨d0, d1, df⟩ := two_cells T0.out
  have f0 := df 0; have f1 := df 1
  have hx : n < 0 ∨ 64 < n := by
   by_cases h : n < 0
   ·exact .inl h
   ·simp [dimB, show 0 ≤ n by omega] at hd; exact .inr hd
  clear df hd he hys
  rcases hx with hx | hx
  all_goals
   go_enter Try.func111, Try.ntmps111
   go_wp2
   refine bodyPost_ret (v := .tuple #[.agg #[.int .u64 0, .slice none 0 0], .int .i64 31]) ?_ rfl (fown_nil 31 hB0)
   simp [results, Try.results111, go_sem, d0, d1]
 ·obtain ⟨m, rfl, hm⟩ := dim_nat hd
  obtain rfl : 0 = e0 := by rw [← he, oneE, hd]; rfl
  have HY : Hid (onesL m = ys) := by show _ = _; rw [← hys, oneV, hd, if_pos rfl, Int.toNat_natCast]
  have hm0 : (0 : Int) ≤ (m : Int) := by omega
  have hm64 : (m : Int) ≤ 64 := by omega
  clear hd he hys
  go_enter Try.func111, Try.ntmps111
  go_wp2_with (at_make; go_loud (refine wpList_make_full _ rfl (.tmp 13) (.tmp 13) 39 rfl w.heap.size 38 i0 _ 1 Try.underlying39 hi hz0 hz1 .i64 .i64 (m : Int) (m : Int) m rfl rfl rfl rfl (by rw [hz2]; omega) (by unfold maxLen; omega) hB0.size ?_; intro w2 hown2 hgrow2))
  have hbl : (w.alloc (.cells #[.int .u64 0, .slice none 0 0] 41)).heap.size = w.heap.size + 1 := by simp
  have hzz : Hid (w2.ownsRow w.heap.size 38 1 (.slice (some ⟨w.heap.size + 1, 0, none⟩) m m) m (u64s (mixL (onesL m) (List.replicate m 0) 0))) := by
   rw [mixL_zero, ← hbl]
   have e : u64s (List.replicate m 0) = List.replicate m (.int .u64 0) := by simp [u64s]
   have e2 : (madeCells (Value.int IntKind.u64 0).cells (m * 1)).toList = List.replicate m (.int .u64 0) := by
    rw [Nat.mul_one]
    apply List.ext_getElem
    ·simp [madeCells]
    ·intro i h1 h2
     simp [madeCells, Value.cells, Nat.mod_one]
   rw [e, ← e2]
   exact hown2
  have U0 := Lib.hid ((hgrow2.block _ (Array.getElem?_eq_some_iff.1 T0.out).1 (by simp)).trans T0.out)
  have hB2 : Below w.heap.size w w2 := hB0.grown hgrow2 hB0.size (fun j e => by cases e)
  clear hown2
  go_wp2_with fail
  go_loopw [17] (fun i wr => ∃ k : Nat, k ≤ m ∧ i = .int .i64 k ∧ Hid (wr.ownsRow w.heap.size 38 1 (.slice (some ⟨w.heap.size + 1, 0, none⟩) m m) m (u64s (mixL (onesL m) (List.replicate m 0) k))) ∧ Hid (wr.heap[w.heap.size]? = some (.cells #[.int .u64 0, .slice none 0 0] 41 (0, 0))) ∧ Below w.heap.size w wr) (fun i _ => m - (intOf i).toNat)
  case atStart => exact ⟨0, Nat.zero_le _, rfl, hzz, U0, hB2⟩
  case round =>
   obtain ⟨k, hk, rfl, HO, HR, hb⟩ := hrel
   by_cases hlt : k < m
   ·have hsh : IntKind.u64.wrap ((2 : Int) ^ k) = ((2 ^ k : Nat) : Int) := by
     have hpw : 2 ^ k ≤ 9223372036854775808 := pow_lt64 (by omega)
     rw [IntKind.wrap_u64]
     have e : ((2 : Int) ^ k) = ((2 ^ k : Nat) : Int) := by simp
     rw [e]
     generalize 2 ^ k = q at *
     omega
    have hxk : (List.replicate m 0)[k]? = some 0 := by simp [hlt]
    have HM := Lib.hid (mixL_set (onesL_at hlt) hxk)
    obtain ⟨q, hq⟩ : ∃ q : Nat, 2 ^ k = q := ⟨_, rfl⟩
    rw [hq] at hsh HM
    have q0 := HO.out.frozenAt k
    have d0 := (HO.out.cellAt k (by omega)).trans (u64s_get (mixL_at (by rw [onesL_length]; simp) hxk))
    have g0 : (0 : Int) ≤ (k : Int) := by omega
    have g3 : (k : Int) < (m : Int) := by omega
    have HO2 : Hid ((wr.setCell ⟨w.heap.size + 1, k, none⟩ (.int .u64 (q : Int))).ownsRow w.heap.size 38 1 (.slice (some ⟨w.heap.size + 1, 0, none⟩) m m) m (u64s (mixL (onesL m) (List.replicate m 0) (k + 1)))) := by
     rw [← HM.out, ← u64s_set]
     exact (HO.out.stored k _).1
    have HR2 := Lib.hid (heap_other (B := w.heap.size + 1) (j := k) (c := .int .u64 (q : Int)) HR.out (by omega))
    have hb2 := hb.setCell (p := ⟨w.heap.size + 1, k, none⟩) (by simp) (.int .u64 (q : Int))
    clear hxk hq
    go_wp2
    go_roundw
    case rel => exact ⟨k + 1, by omega, by go_num, HO2, HR2, hb2⟩
    case measure => simp [intOf]; omega
   ·obtain rfl : k = m := by omega
    have HO2 : Hid (wr.ownsRow w.heap.size 38 1 (.slice (some ⟨w.heap.size + 1, 0, none⟩) k k) k (u64s ys)) := by
     have := HO.out
     have e : mixL (onesL k) (List.replicate k 0) k = onesL k := by
      have := mixL_all (ys := onesL k) (xs := List.replicate k 0) (by rw [onesL_length]; simp)
      simpa using this
     rwa [e, HY.out] at this
    obtain ⟨r0, r1, rf⟩ := two_cells HR.out
    have rf0 := rf 0; have rf1 := rf 1
    have N1 := Lib.hid (two_set1 (c := .slice (some ⟨w.heap.size + 1, 0, none⟩) k k) (two_set0 (c := .int .u64 0) HR.out))
    obtain ⟨s0, s1, _⟩ := two_cells N1.out
    have HO5 := Lib.hid ((HO2.out.kept (grownBy_set _ _ 0 (.int .u64 0)) (.inr (not_row HR.out (by decide) HO2.out).symm)).kept (grownBy_set _ w.heap.size 1 (.slice (some ⟨w.heap.size + 1, 0, none⟩) k k)) (.inr (not_row HR.out (by decide) HO2.out).symm))
    have HB5 := Lib.hid ((hb.setCell (p := ⟨w.heap.size, 0, none⟩) (Nat.le_refl _) (.int .u64 0)).setCell (p := ⟨w.heap.size, 1, none⟩) (Nat.le_refl _) (.slice (some ⟨w.heap.size + 1, 0, none⟩) k k))
    clear rf
    go_wp2
    refine bodyPost_ret (v := .tuple #[.agg #[.int .u64 0, .slice (some ⟨w.heap.size + 1, 0, none⟩) k k], .int .i64 0]) ?_ rfl (fown_own (gen := 0) HO5.out HB5.out 0)
    simp [results, Try.results111, go_sem, s0, s1]
end Go.Proofs.Ytpkcaabbcoiiiaa
namespace Go.Proofs.Ytpkcaabbcoiiiaa
open Go.RowKit
theorem u64_nat {a : Int} (h : (Lit.int .u64 a).wf = true) : ∃ n : Nat, a = n ∧ n < 18446744073709551616 := by
 simp only [Lit.wf, IntKind.min, IntKind.max, IntKind.signed, IntKind.bits, Bool.and_eq_true, decide_eq_true_eq] at h
 simp at h
 exact ⟨a.toNat, by omega, by omega⟩
end Go.Proofs.Ytpkcaabbcoiiiaa
namespace Go.Proofs.Ytpkcaabbcoiiiaa
open Go.RowKit
structure Good (m : Nat) (g : Nat) (rows : List Nat) : Prop where
 hm : m ≤ 64
 hl : rows.length = m
 hg : g < 2 ^ m
 hr : ∀ r ∈ rows, r < 2 ^ m
 hc : ∀ r ∈ rows, r &&& g = 0
theorem Good.r64 {m g : Nat} {rows : List Nat} (h : Good m g rows) : ∀ r ∈ rows, r < 18446744073709551616 := fun r hr => Nat.lt_of_lt_of_le (h.hr r hr) (pow_le64 h.hm)
theorem check_good {n : Int} {g : Nat} {rows : List Nat} (hg : g < 18446744073709551616) (hr : ∀ r ∈ rows, r < 18446744073709551616) (h : checkE n g rows = 0) : ∃ m : Nat, n = m ∧ Good m g rows := by
 obtain ⟨hd, hs, hc⟩ := checkE_ok h
 obtain ⟨m, rfl, hm⟩ := dim_nat hd
 rw [Int.toNat_natCast] at hs
 obtain ⟨hl, ig, ir⟩ := shapeB_len hs
 unfold clearB at hc
 rw [List.all_eq_true] at hc
 exact ⟨m, rfl, hm, hl, (insN_iff hm hg).1 ig, fun r h => (insN_iff hm (hr r h)).1 (ir r h), fun r h => by simpa using hc r h⟩
end Go.Proofs.Ytpkcaabbcoiiiaa
namespace Go.Proofs.Ytpkcaabbcoiiiaa
open Go.RowKit
theorem ones_good {m : Nat} (hm : m ≤ 64) : Good m 0 (onesL m) where
 hm := hm
 hl := onesL_length m
 hg := Nat.two_pow_pos m
 hr := fun r hr => by
  obtain ⟨i, hi, rfl⟩ := List.mem_map.1 hr
  exact Nat.pow_lt_pow_right (by omega) (List.mem_range.1 hi)
 hc := fun r _ => Nat.and_zero r
theorem one_good {m : Nat} (hm : m ≤ 64) : oneE m = 0 ∧ oneV m = onesL m := by
 have hd : dimB m = true := by simp [dimB]; omega
 exact ⟨by rw [oneE, if_pos hd], by rw [oneV, if_pos hd, Int.toNat_natCast]⟩
section
variable {m ga gb gc : Nat} {xs ys zs : List Nat}
end
end Go.Proofs.Ytpkcaabbcoiiiaa
namespace Go.Proofs.Ytpkcaabbcoiiiaa
open Go.RowKit
def vals (c : Cl) : List Value := [.int .u64 (c.f : Int), .int .i64 c.k, .int .i64 c.v]
def flat (cs : List Cl) : List Value := cs.flatMap vals
theorem flat_length (cs : List Cl) : (flat cs).length = cs.length * 3 := by
 induction cs with
 | nil => rfl
 | cons c r ih => simp [flat, vals] at ih ⊢; omega
theorem flat_cons (c : Cl) (r : List Cl) : flat (c :: r) = vals c ++ flat r := by simp [flat]
theorem flat_at : ∀ {cs : List Cl} {i : Nat} {c : Cl}, cs[i]? = some c → (flat cs)[i * 3]? = some (.int .u64 (c.f : Int)) ∧ (flat cs)[i * 3 + 1]? = some (.int .i64 c.k) ∧ (flat cs)[i * 3 + 2]? = some (.int .i64 c.v)
 | [], i, c, h => by simp at h
 | x :: r, 0, c, h => by
  simp at h; subst h
  simp [flat_cons, vals]
 | x :: r, i + 1, c, h => by
  simp at h
  have ih := flat_at (cs := r) (i := i) h
  have e0 : (i + 1) * 3 = i * 3 + 3 := by omega
  have e1 : (i + 1) * 3 + 1 = (i * 3 + 1) + 3 := by omega
  have e2 : (i + 1) * 3 + 2 = (i * 3 + 2) + 3 := by omega
  rw [e1, e2, e0, flat_cons]
  simp only [vals, List.cons_append, List.nil_append, List.getElem?_cons_succ]
  exact ih
theorem crow_of_own {w : World} {base : Nat} {E : Nat} {v : Value} {n : Nat} {cs : List Cl} (h : w.ownsRow base E 3 v n (flat cs)) :
  n = cs.length ∧ ∃ a cap, v = .slice a n cap ∧ CRow w a cs ∧ ∀ ad, a = some ad → base ≤ ad.block ∧ ad.off = 0 ∧ ad.block < w.heap.size := by
 have hl := h.1
 rw [flat_length] at hl
 have hn : n = cs.length := by omega
 refine ⟨hn, ?_⟩
 rcases h.2 with ⟨rfl, h0⟩ | ⟨g, cap, cur, rfl, hg, hh, hnc, hcm, hcs, ht⟩
 ·subst h0
  have : cs = [] := List.length_eq_zero_iff.1 hn.symm
  exact ⟨none, 0, rfl, .inl this, fun ad e => by cases e⟩
 ·refine ⟨some ⟨g, 0, none⟩, cap, rfl, .inr ⟨g, 0, rfl, fun i c hi => ?_⟩, fun ad e => by cases e; exact ⟨hg, rfl, (Array.getElem?_eq_some_iff.1 hh).1⟩⟩
  obtain ⟨f0, f1, f2⟩ := flat_at hi
  have hi2 : i < cs.length := (List.getElem?_eq_some_iff.1 hi).1
  have c0 := h.cellAt (i * 3) (by omega)
  have c1 := h.cellAt (i * 3 + 1) (by omega)
  have c2 := h.cellAt (i * 3 + 2) (by omega)
  rw [Nat.zero_add]
  exact ⟨c0.trans f0, c1.trans f1, c2.trans f2⟩
def CellsRet (cs : List Cl) (err : Int) (w : World) (e : Ending) (w' : World) : Prop :=
 ∃ a cap, e = .returned (.tuple #[.slice a cs.length cap, .int .i64 err]) ∧ CRow w' a cs ∧ (∀ ad, a = some ad → w.heap.size ≤ ad.block ∧ ad.block < w'.heap.size) ∧ Below w.heap.size w w'
theorem cellsRet_nil (err : Int) {w w' : World} (hb : Below w.heap.size w w') : CellsRet [] err w (.returned (.tuple #[.slice none 0 0, .int .i64 err])) w' :=
 ⟨none, 0, rfl, .inl rfl, (fun ad e => by cases e), hb⟩
def CellsRet1 (cs : List Cl) (w : World) (e : Ending) (w' : World) : Prop :=
 ∃ v, e = .returned v ∧ w'.ownsRow w.heap.size 96 3 v cs.length (flat cs) ∧ Below w.heap.size w w'
theorem infoC : (Try.prog.info? 96).map (fun i => (i.zero, i.size, i.bytes)) = some (some (.agg #[.int .u64 0, .int .i64 0, .int .i64 0]), 3, 24) := by kernel_rfl
end Go.Proofs.Ytpkcaabbcoiiiaa
namespace Go.Proofs.Ytpkcaabbcoiiiaa
open Go.RowKit
theorem chkC_zero {d : Int} {cs : List Cl} (h : chkC d cs = 0) : 0 ≤ d ∧ d ≤ 64 ∧ (cs.length : Int) = d ∧ cs.all (okAt d.toNat) = true := by
 unfold chkC at h
 split at h
 ·omega
 ·split at h
  ·omega
  ·cases hz : cs.all (okAt d.toNat) <;> rw [hz] at h <;> simp at h
   exact ⟨by omega, by omega, by omega, rfl⟩
end Go.Proofs.Ytpkcaabbcoiiiaa
namespace Go.Proofs.Ytpkcaabbcoiiiaa
open Go.RowKit
def z0 : Cl := ⟨0, 0, 0⟩
theorem made_flat (n : Nat) : (madeCells (Value.agg #[.int .u64 0, .int .i64 0, .int .i64 0]).cells (n * 3)).toList = flat (List.replicate n z0) := by
 have hc : (Value.agg #[.int .u64 0, .int .i64 0, .int .i64 0]).cells = #[.int .u64 0, .int .i64 0, .int .i64 0] := rfl
 rw [hc]
 apply List.ext_getElem?
 intro j
 by_cases hj : j < n * 3
 ·have e : (List.replicate n z0)[j / 3]? = some z0 := by rw [List.getElem?_replicate, if_pos (by omega)]
  obtain ⟨f0, f1, f2⟩ := flat_at e
  have hr : j % 3 = 0 ∨ j % 3 = 1 ∨ j % 3 = 2 := by omega
  have hlt : j < (madeCells #[Value.int .u64 0, .int .i64 0, .int .i64 0] (n * 3)).toList.length := by simp [madeCells]; exact hj
  rcases hr with h | h | h
  ·have ej : j = j / 3 * 3 := by omega
   rw [← ej] at f0
   rw [f0, List.getElem?_eq_getElem hlt]
   simp [madeCells, h, z0]
  ·have ej : j = j / 3 * 3 + 1 := by omega
   rw [← ej] at f1
   rw [f1, List.getElem?_eq_getElem hlt]
   simp [madeCells, h, z0]
  ·have ej : j = j / 3 * 3 + 2 := by omega
   rw [← ej] at f2
   rw [f2, List.getElem?_eq_getElem hlt]
   simp [madeCells, h, z0]
 ·rw [List.getElem?_eq_none (by simp [madeCells]; omega), List.getElem?_eq_none (by rw [flat_length]; simp; omega)]
theorem fill_step {full : List Cl} {n k : Nat} {z : Cl} (hl : full.length = n) (hz : full[k]? = some z) : (full.take k ++ List.replicate (n - k) z0).set k z = full.take (k + 1) ++ List.replicate (n - (k + 1)) z0 := by
 obtain ⟨hk, ex⟩ := List.getElem?_eq_some_iff.1 hz
 have hl2 : (full.take k).length = k := by simp; omega
 rw [List.set_append_right _ _ (by omega), hl2, Nat.sub_self, show n - k = (n - (k + 1)) + 1 by omega, List.replicate_succ, List.set_cons_zero, List.take_succ_eq_append_getElem hk, List.append_assoc, ex]
 rfl
theorem fill_at {full : List Cl} {n k : Nat} (hl : full.length = n) (hk : k < n) : (full.take k ++ List.replicate (n - k) z0)[k]? = some z0 := by
 have hl2 : (full.take k).length = k := by simp; omega
 rw [List.getElem?_append_right (by omega), hl2, Nat.sub_self, List.getElem?_replicate, if_pos (by omega)]
end Go.Proofs.Ytpkcaabbcoiiiaa
namespace Go.Proofs.Ytpkcaabbcoiiiaa
open Go.RowKit
def oneAt (k : Nat) : Cl := ⟨2 ^ k, 0, 0⟩
def unitC (n : Nat) : List Cl := (List.range n).map oneAt
def unitR (d : Int) : List Cl := if dimC d = 0 then unitC d.toNat else []
theorem unit_length (n : Nat) : (unitC n).length = n := by simp [unitC]
theorem unit_at {n k : Nat} (hk : k < n) : (unitC n)[k]? = some (oneAt k) := by
 simp [unitC, List.getElem?_range hk]
theorem pow_u64 {k : Nat} (hk : k < 64) : IntKind.u64.wrap (2 ^ k : Int) = ((2 ^ k : Nat) : Int) := by
 have h : 2 ^ k < 18446744073709551616 := Nat.lt_of_lt_of_le (Nat.pow_lt_pow_right (by decide) hk) (by decide)
 have e : (2 ^ k : Int) = ((2 ^ k : Nat) : Int) := by simp
 rw [e]
 generalize 2 ^ k = q at h
 simp [IntKind.wrap, IntKind.signed, IntKind.bits]
 omega
end Go.Proofs.Ytpkcaabbcoiiiaa
namespace Go.Proofs.Ytpkcaabbcoiiiaa
open Go.RowKit
theorem flat_set1 : ∀ (cs : List Cl) (i : Nat) (f f' : Nat), cs[i]? = some ⟨f, 0, 0⟩ → (flat cs).set (i * 3) (.int .u64 (f' : Int)) = flat (cs.set i ⟨f', 0, 0⟩)
 | [], i, f, f', h => by simp at h
 | x :: r, 0, f, f', h => by
  simp at h; subst h
  simp [flat_cons, vals]
 | x :: r, i + 1, f, f', h => by
  have ih := flat_set1 r i f f' (by simpa using h)
  have e0 : (i + 1) * 3 = i * 3 + 3 := by omega
  rw [e0, flat_cons, List.set_cons_succ, flat_cons, ← ih]
  simp [vals]
theorem own_store1 {w : World} {base g n cap k : Nat} {E : Nat} {cs : List Cl} {f : Nat} (h : w.ownsRow base E 3 (.slice (some ⟨g, 0, none⟩) n cap) n (flat cs)) (hk : cs[k]? = some ⟨f, 0, 0⟩) (f' : Nat) :
  (w.setCell ⟨g, k * 3, none⟩ (.int .u64 (f' : Int))).ownsRow base E 3 (.slice (some ⟨g, 0, none⟩) n cap) n (flat (cs.set k ⟨f', 0, 0⟩)) := by
 rw [← flat_set1 cs k f f' hk]
 exact (h.stored (k * 3) _).1
set_option maxHeartbeats 2000000 in
theorem unit_any (n : Nat) (w : World) (hn : n ≤ 64) : Calls Try.prog 121 #[.int .i64 n] w (CellsRet1 (unitC n) w) := by
 obtain ⟨i0, hi, hz0, hz1, hz2⟩ := info_parts infoC
 have HN := Lib.hid (unit_length n)
 go_enter Try.func121, Try.ntmps121
 go_wp2_with (at_make; refine wpList_make_full _ rfl (.tmp 5) (.tmp 5) 42 rfl w.heap.size 96 i0 _ 3 Try.underlying42 hi hz0 hz1 .i64 .i64 (n : Int) (n : Int) n rfl rfl rfl rfl (by rw [hz2]; omega) (by unfold maxLen; omega) (Nat.le_refl _) ?_; intro w2 hown2 hgrow2)
 have HO1 : Hid (w2.ownsRow w.heap.size 96 3 (.slice (some ⟨w.heap.size, 0, none⟩) n n) n (flat ((unitC n).take 0 ++ List.replicate (n - 0) z0))) := by
  rw [List.take_zero, List.nil_append, Nat.sub_zero, ← made_flat]; exact hown2
 have hb2 : Below w.heap.size w w2 := (Below.refl _ _).grown hgrow2 (Nat.le_refl _) (fun j e => by cases e)
 clear hown2
 go_wp2_with fail
 go_loopw [8] (fun i wr => ∃ k : Nat, k ≤ n ∧ i = .int .i64 k ∧ Hid (wr.ownsRow w.heap.size 96 3 (.slice (some ⟨w.heap.size, 0, none⟩) n n) n (flat ((unitC n).take k ++ List.replicate (n - k) z0))) ∧ Below w.heap.size w wr) (fun i _ => n - (intOf i).toNat)
 case atStart => exact ⟨0, Nat.zero_le _, rfl, HO1, hb2⟩
 case round =>
  obtain ⟨k, hk, rfl, HO, hb⟩ := hrel
  by_cases hlt : k < n
  ·have HZ := Lib.hid (fill_step (full := unitC n) (n := n) (k := k) HN.out (unit_at hlt))
   have HA := Lib.hid (fill_at (full := unitC n) (n := n) HN.out hlt)
   have HW := Lib.hid (pow_u64 (k := k) (by omega))
   have f3 := flat_at HA.out
   have e0 := (HO.out.cellAt (k * 3) (by omega)).trans f3.1
   have q0 := HO.out.frozenAt (k * 3)
   clear f3
   have g0 : (0 : Int) ≤ (k : Int) := by omega
   have g1 : k < 64 := by omega
   have g2 : (k : Int) < 64 := by omega
   have g3 : (k : Int) < (n : Int) := by omega
   have HS := Lib.hid (own_store1 HO.out HA.out (2 ^ k))
   rw [show (⟨2 ^ k, 0, 0⟩ : Cl) = oneAt k from rfl, HZ.out, ← HW.out] at HS
   have HB : Hid (Below w.heap.size w (wr.setCell ⟨w.heap.size, k * 3, none⟩ (.int .u64 (IntKind.u64.wrap (2 ^ k))))) := hb.setCell (p := ⟨w.heap.size, k * 3, none⟩) (Nat.le_refl _) _
   go_wp2
   go_roundw
   case rel => exact ⟨k + 1, by omega, by go_num, HS, HB.out⟩
   case measure => simp [intOf]; omega
  ·obtain rfl : n = k := by omega
   have HE : Hid (wr.ownsRow w.heap.size 96 3 (.slice (some ⟨w.heap.size, 0, none⟩) n n) n (flat (unitC n))) := by
    have := HO.out
    rw [List.take_of_length_le (by rw [HN.out]; exact Nat.le_refl _), Nat.sub_self, List.replicate_zero, List.append_nil] at this
    exact this
   go_wp2
   go_ret
   exact ⟨_, rfl, by rw [HN.out]; exact HE.out, hb⟩
theorem cellsRet_of1 {cs : List Cl} {w w1 w2 : World} {v : Value} (hb1 : Below w.heap.size w w1) (hown : w2.ownsRow w1.heap.size 96 3 v cs.length (flat cs)) (hb2 : Below w1.heap.size w1 w2) (err : Int) : CellsRet cs err w (.returned (.tuple #[v, .int .i64 err])) w2 := by
 obtain ⟨_, a2, cap2, rfl, hr2, hf2⟩ := crow_of_own hown
 exact ⟨a2, cap2, rfl, hr2, fun ad e => ⟨Nat.le_trans hb1.size (hf2 ad e).1, (hf2 ad e).2.2⟩, hb1.trans (hb2.mono hb1.size)⟩
theorem ce_dim_nat {d : Int} (h : dimC d = 0) : ∃ n : Nat, d = n ∧ n ≤ 64 := by
 by_cases hd : d < 0 ∨ 64 < d
 ·simp [dimC, hd] at h
 ·exact ⟨d.toNat, by omega, by omega⟩
set_option maxHeartbeats 2000000 in
theorem one_any (d : Int) (w : World) (c : Int) (hc : dimC d = c) :
  Calls Try.prog 112 #[.int .i64 d] w (CellsRet (unitR d) c w) := by
 have HC := Lib.hid hc
 by_cases h0 : c = 0
 ·subst h0
  obtain ⟨n, rfl, hn⟩ := ce_dim_nat hc
  have HR := Lib.hid (show unitR n = unitC n by simp [unitR, hc])
  clear hc
  go_enter Try.func112, Try.ntmps112
  go_wp2_with (go_at_call 115; refine (checkDim_is _ _ 0 HC.out).mono ?_; rintro e w' ⟨rfl, rfl⟩)
  refine (unit_any n _ hn).mono ?_
  rintro e w2 ⟨v, rfl, hown, hb2⟩
  have HO := Lib.hid hown
  clear hown
  go_wp2
  go_ret2
  rw [HR.out]
  exact cellsRet_of1 (Below.refl _ _) HO.out hb2 0
 ·have HR := Lib.hid (show unitR d = [] by simp [unitR, hc, h0])
  have hne : (c != 0) = true := by simpa using h0
  clear hc h0
  go_enter Try.func112, Try.ntmps112
  go_wp2_with (go_at_call 115; refine (checkDim_is _ _ c HC.out).mono ?_; rintro e w' ⟨rfl, rfl⟩)
  go_ret2
  rw [HR.out]
  exact cellsRet_nil c (Below.refl _ _)
end Go.Proofs.Ytpkcaabbcoiiiaa
namespace Go.Proofs.Ytpkcaabbcoiiiaa
open Go.RowKit
structure IsCells (w : World) (a : Option Addr) (len cap : Nat) (xs : List Cl) : Prop where
 len : len = xs.length
 max : xs.length ≤ maxLen
 row : CRow w a xs
 bits : Bits xs
end Go.Proofs.Ytpkcaabbcoiiiaa
namespace Go.Proofs.Ytpkcaabbcoiiiaa
open Go.RowKit
set_option linter.unusedSimpArgs false
def Oks (xs : List Cl) : Prop := ∀ (i : Nat) x, xs[i]? = some x → x.ok
end Go.Proofs.Ytpkcaabbcoiiiaa
namespace Go.Proofs.Ytpkcaabbcoiiiaa
open Go.RowKit
set_option linter.unusedSimpArgs false
theorem okAt_iff {n : Nat} {c : Cl} : okAt n c = true ↔ c.f < 2 ^ n ∧ kindOk c.f c.k c.v = true := by
 unfold okAt cellOk inside
 rw [Bool.and_eq_true, beq_iff_eq, Nat.div_eq_zero_iff]
 constructor
 ·rintro ⟨h | h, h2⟩
  ·have := Nat.two_pow_pos n; omega
  ·exact ⟨h, h2⟩
 ·rintro ⟨h, h2⟩; exact ⟨.inr h, h2⟩
theorem ce_pow_le64 {n f : Nat} (hn : n ≤ 64) (h : f < 2 ^ n) : f < 18446744073709551616 :=
 Nat.lt_of_lt_of_le h (Nat.le_trans (Nat.pow_le_pow_right (by decide) hn) (by decide))
structure Val (n : Nat) (xs : List Cl) : Prop where
 le : n ≤ 64
 len : xs.length = n
 ok : ∀ (i : Nat) c, xs[i]? = some c → okAt n c = true
theorem Val.oks {n : Nat} {xs : List Cl} (h : Val n xs) : Oks xs := fun i c hi => by
 obtain ⟨h1, h2⟩ := okAt_iff.1 (h.ok i c hi)
 exact ⟨ce_pow_le64 h.le h1, h2⟩
theorem Val.bits {n : Nat} {xs : List Cl} (h : Val n xs) : Bits xs := fun c hc => by
 obtain ⟨i, hi, e⟩ := List.mem_iff_getElem.1 hc
 exact (h.oks i c (by rw [← e]; exact List.getElem?_eq_getElem hi)).1
theorem val_of {d : Int} {xs : List Cl} (h : chkC d xs = 0) : ∃ n : Nat, d = n ∧ Val n xs := by
 obtain ⟨d0, d1, la, oka⟩ := chkC_zero h
 refine ⟨d.toNat, by omega, by omega, by omega, fun i c hi => ?_⟩
 exact List.all_eq_true.1 oka c (List.mem_of_getElem? hi)
theorem val_unit {n : Nat} (hn : n ≤ 64) : Val n (unitC n) := by
 refine ⟨hn, unit_length n, fun i c hi => ?_⟩
 have h1 : i < n := by rw [← unit_length n]; exact (List.getElem?_eq_some_iff.1 hi).1
 rw [unit_at h1] at hi
 cases hi
 exact okAt_iff.2 ⟨Nat.pow_lt_pow_right (by decide) h1, by simp [kindOk, oneAt]⟩
end Go.Proofs.Ytpkcaabbcoiiiaa
namespace Go.Proofs.Ytpkcaabbcoiiiaa
open Go.RowKit
structure PF where
 z : Bool
 c : Int
 g : Nat
 rows : List Nat
 cells : List Cl
def WF.pf (f : WF) : PF := ⟨f.z, f.c, f.g, f.rows, f.cells⟩
def zeroP : PF := ⟨true, 0, 0, [], []⟩
def pC (c : Int) : PF := ⟨false, c, 0, [], []⟩
def pF (g : Nat) (rows : List Nat) : PF := ⟨false, 0, g, rows, []⟩
def pX (cs : List Cl) : PF := ⟨false, 0, 0, [], cs⟩
inductive OkP (t n : Int) : PF → Prop
 | zero : OkP t n zeroP
 | bool (h : t = 1) : OkP t n (pC 0)
 | cost (c : Int) (h : t = 2) (h0 : 0 ≤ c) (h1 : c ≤ n) : OkP t n (pC c)
 | facts (m g : Nat) (rows : List Nat) (h : t = 3) (hn : n = (m : Int)) (hg : Good m g rows) : OkP t n (pF g rows)
 | cells (m : Nat) (cs : List Cl) (h : t = 4) (hn : n = (m : Int)) (hv : Val m cs) : OkP t n (pX cs)
def oneP (t n : Int) : PF := if t = 3 then pF 0 (onesL n.toNat) else if t = 4 then pX (unitC n.toNat) else pC 0
theorem plainB_cases {t n : Int} {l : Nat} (h : plainB t n l = true) : l = 0 ∧ ((t = 1 ∧ n = 0) ∨ (t = 2 ∧ 0 ≤ n ∧ n ≤ 1048576) ∨ (t = 3 ∧ ∃ m : Nat, n = m ∧ m ≤ 64) ∨ (t = 4 ∧ ∃ m : Nat, n = m ∧ m ≤ 64)) := by
 obtain ⟨h0, ht⟩ := plainB_tag h
 obtain ⟨d0, d1, d2, d3⟩ := plainB_dim h
 refine ⟨h0, ?_⟩
 rcases ht with rfl | rfl | rfl | rfl
 ·exact .inl ⟨rfl, d2 rfl⟩
 ·exact .inr (.inl ⟨rfl, d0, d1⟩)
 ·exact .inr (.inr (.inl ⟨rfl, n.toNat, by omega, by have := d3 (.inl rfl); omega⟩))
 ·exact .inr (.inr (.inr ⟨rfl, n.toNat, by omega, by have := d3 (.inr rfl); omega⟩))
section
variable {t n : Int} {l : Nat} {a b c : PF}
theorem one_1 : oneP 1 n = pC 0 := by simp [oneP]
theorem one_2 : oneP 2 n = pC 0 := by simp [oneP]
theorem one_3 (m : Nat) : oneP 3 m = pF 0 (onesL m) := by simp [oneP]
theorem one_4 (m : Nat) : oneP 4 m = pX (unitC m) := by simp [oneP]
theorem one_okP (h : plainB t n l = true) : OkP t n (oneP t n) := by
 rcases (plainB_cases h).2 with ⟨rfl, hn⟩ | ⟨rfl, h0, h1⟩ | ⟨rfl, m, rfl, hm⟩ | ⟨rfl, m, rfl, hm⟩
 ·rw [one_1]; exact .bool rfl
 ·rw [one_2]; exact .cost 0 rfl (by omega) h0
 ·rw [one_3]; exact .facts m 0 _ rfl rfl (ones_good hm)
 ·rw [one_4]; exact .cells m _ rfl rfl (val_unit hm)
end
inductive PS where
 | one (t n : Int)
 | two (t n u m : Int)
def PS.ok : PS → Prop
 | .one t n => plainB t n 0 = true
 | .two t n u m => plainB t n 0 = true ∧ plainB u m 0 = true
inductive PX where
 | one (a : PF)
 | two (a b : PF)
def OkX : PS → PX → Prop
 | .one t n, .one a => OkP t n a
 | .two t n u m, .two a b => OkP t n a ∧ OkP u m b
 | _, _ => False
def oneX : PS → PX
 | .one t n => .one (oneP t n)
 | .two t n u m => .two (oneP t n) (oneP u m)
def zeroX : PS → PX
 | .one _ _ => .one zeroP
 | .two _ _ _ _ => .two zeroP zeroP
section
variable {S : PS} {x y v : PX}
end
structure PIs (w : World) (t n : Int) (f : WF) (a : PF) : Prop where
 at_ : f.At w
 pf : f.pf = a
 ok : OkP t n a
 pl : f.pl = 0
theorem PIs.below {w w' : World} {t n : Int} {f : WF} {a : PF} (h : PIs w t n f a) (hb : Below w.heap.size w w') : PIs w' t n f a := ⟨h.at_.below hb, h.pf, h.ok, h.pl⟩
def XIs (w : World) : PS → WF → PX → Prop
 | .one t n, f, .one a => PIs w t n f a
 | .two t n u m, f, .two a b => f.pf = pC 0 ∧ f.rl = 0 ∧ f.cl = 0 ∧ f.pl = 2 ∧ ∃ blk off g h, f.pa = some ⟨blk, off, none⟩ ∧ W6 w blk off g ∧ W6 w blk (off + 6) h ∧ PIs w t n g a ∧ PIs w u m h b
 | _, _, _ => False
theorem PIs.of {w : World} {t n : Int} {f : WF} (hp : plainB t n 0 = true) (hf : f.At w) (h : pwOk t n f = true) : PIs w t n f f.pf := by
 have hrl := hf.rl; have hcl := hf.cl; have hg := hf.g64; have hr := hf.r64
 obtain ⟨z, c, g, ra, rl, rc, rows, ca, cl, cc, cells, pa, pl, pc⟩ := f
 dsimp only at hrl hcl hg hr
 subst hrl hcl
 simp only [pwOk, Bool.and_eq_true, Bool.or_eq_true, bareB, onlyB, decide_eq_true_eq, Bool.not_eq_true'] at h
 obtain ⟨⟨h1, h2, h3, h4⟩, h5⟩ := h
 have ht5 : t ≠ 5 := by rintro rfl; simp [plainB] at hp
 have hpl : pl = 0 := by
  rcases h4 with ⟨_, h4⟩ | h4
  ·exact absurd h4 ht5
  ·exact h4
 refine ⟨hf, rfl, ?_, hpl⟩
 show OkP t n ⟨z, c, g, rows, cells⟩
 cases z
 ·have h1' : t = 2 ∨ c = 0 := by simpa using h1
  have h2' : t = 3 ∨ (g = 0 ∧ rows.length = 0) := by simpa using h2
  have h3' : t = 4 ∨ cells.length = 0 := by simpa using h3
  simp only [Bool.false_eq_true, false_or] at h5
  rcases (plainB_cases hp).2 with ⟨rfl, hn⟩ | ⟨rfl, h0, h1⟩ | ⟨rfl, m, rfl, hm⟩ | ⟨rfl, m, rfl, hm⟩
  ·obtain rfl : c = 0 := by omega
   obtain ⟨rfl, hr0⟩ : g = 0 ∧ rows.length = 0 := by
    rcases h2' with h | h
    ·omega
    ·exact h
   obtain rfl := List.eq_nil_of_length_eq_zero hr0
   obtain rfl := List.eq_nil_of_length_eq_zero (h3'.resolve_left (by decide))
   exact .bool rfl
  ·obtain ⟨rfl, hr0⟩ := h2'.resolve_left (by decide)
   obtain rfl := List.eq_nil_of_length_eq_zero hr0
   obtain rfl := List.eq_nil_of_length_eq_zero (h3'.resolve_left (by decide))
   simp only [if_true, Bool.and_eq_true, decide_eq_true_eq] at h5
   exact .cost c rfl h5.1 h5.2
  ·obtain rfl : c = 0 := by omega
   obtain rfl := List.eq_nil_of_length_eq_zero (h3'.resolve_left (by decide))
   have h6 : checkE (m : Int) g rows = 0 := by simpa using h5
   obtain ⟨k, hk, hgood⟩ := check_good hg hr h6
   exact .facts k g rows rfl hk hgood
  ·obtain rfl : c = 0 := by omega
   obtain ⟨rfl, hr0⟩ := h2'.resolve_left (by decide)
   obtain rfl := List.eq_nil_of_length_eq_zero hr0
   have h6 : chkC (m : Int) cells = 0 := by simpa using h5
   obtain ⟨k, hk, hv⟩ := val_of h6
   exact .cells k cells rfl hk hv
 ·obtain rfl : c = 0 := by simpa using h1
  obtain ⟨rfl, hr0⟩ : g = 0 ∧ rows.length = 0 := by simpa using h2
  have hc0 : cells.length = 0 := by simpa using h3
  obtain rfl := List.eq_nil_of_length_eq_zero hr0
  obtain rfl := List.eq_nil_of_length_eq_zero hc0
  exact .zero
end Go.Proofs.Ytpkcaabbcoiiiaa
namespace Go.Proofs.Ytpkcaabbcoiiiaa
open Go.RowKit
def pairF (blk : Nat) : WF := ⟨false, 0, 0, none, 0, 0, [], none, 0, 0, [], some ⟨blk, 0, none⟩, 2, 2⟩
def zeroF : WF := ⟨true, 0, 0, none, 0, 0, [], none, 0, 0, [], none, 0, 0⟩
set_option maxHeartbeats 2000000 in
theorem pair_is (f g : WF) (w : World) :
  Calls Try.prog 101 #[f.val, g.val] w fun e w' => ∃ blk, e = .returned (pairF blk).val ∧ W6 w' blk 0 f ∧ W6 w' blk 6 g ∧ w.heap.size ≤ blk ∧ Below w.heap.size w w' := by
 obtain ⟨z, c, g0, ra, rl, rc, rows, ca, cl, cc, cells, pa, pl, pc⟩ := f
 obtain ⟨z2, c2, g2, ra2, rl2, rc2, rows2, ca2, cl2, cc2, cells2, pa2, pl2, pc2⟩ := g
 show Calls Try.prog 101 #[.agg #[.bool z, .int .i64 c, .int .u64 (g0 : Int), .slice ra rl rc, .slice ca cl cc, .slice pa pl pc], .agg #[.bool z2, .int .i64 c2, .int .u64 (g2 : Int), .slice ra2 rl2 rc2, .slice ca2 cl2 cc2, .slice pa2 pl2 pc2]] w _
 obtain ⟨W2, hW2⟩ : ∃ W, (w.alloc (.cells #[.bool z, .int .i64 c, .int .u64 (g0 : Int), .slice ra rl rc, .slice ca cl cc, .slice pa pl pc] 45)).alloc (.cells #[.bool z2, .int .i64 c2, .int .u64 (g2 : Int), .slice ra2 rl2 rc2, .slice ca2 cl2 cc2, .slice pa2 pl2 pc2] 45) = W := ⟨_, rfl⟩
 have hs2 : W2.heap.size = w.heap.size + 1 + 1 := by rw [← hW2]; simp
 have B2 : Below w.heap.size w W2 := by rw [← hW2]; exact wbox _ _ _ _ _
 obtain ⟨t0, t1⟩ := two_boxes2 W2 #[.bool false, .int .i64 0, .int .u64 0, .slice none 0 0, .slice none 0 0, .slice (some ⟨w.heap.size + 1 + 1 + 1, 0, none⟩) 2 2] #[.bool z, .int .i64 c, .int .u64 (g0 : Int), .slice ra rl rc, .slice ca cl cc, .slice pa pl pc, .bool z2, .int .i64 c2, .int .u64 (g2 : Int), .slice ra2 rl2 rc2, .slice ca2 cl2 cc2, .slice pa2 pl2 pc2] 45 45
 have B4 : Below w.heap.size w ((W2.alloc (.cells #[.bool false, .int .i64 0, .int .u64 0, .slice none 0 0, .slice none 0 0, .slice (some ⟨w.heap.size + 1 + 1 + 1, 0, none⟩) 2 2] 45)).alloc (.cells #[.bool z, .int .i64 c, .int .u64 (g0 : Int), .slice ra rl rc, .slice ca cl cc, .slice pa pl pc, .bool z2, .int .i64 c2, .int .u64 (g2 : Int), .slice ra2 rl2 rc2, .slice ca2 cl2 cc2, .slice pa2 pl2 pc2] 45)) := B2.trans ((wbox _ _ _ _ _).mono B2.size)
 rw [hs2] at t0 t1
 obtain ⟨s0, s1, s2, s3, s4, s5⟩ := six_cells t0
 have T1 := Lib.hid t1
 have HB4 := Lib.hid B4
 clear t0 t1 B2 B4 hs2
 subst hW2
 go_enter Try.func101, Try.ntmps101
 go_wp2_with fail
 refine bodyPost_ret (v := .agg #[.bool false, .int .i64 0, .int .u64 0, .slice none 0 0, .slice none 0 0, .slice (some ⟨w.heap.size + 1 + 1 + 1, 0, none⟩) 2 2]) ?_ rfl ?_
 rotate_left
 ·exact ⟨w.heap.size + 1 + 1 + 1, rfl, ⟨bcell T1.out rfl, bcell T1.out rfl, bcell T1.out rfl, bcell T1.out rfl, bcell T1.out rfl, bcell T1.out rfl⟩, ⟨bcell T1.out rfl, bcell T1.out rfl, bcell T1.out rfl, bcell T1.out rfl, bcell T1.out rfl, bcell T1.out rfl⟩, by omega, HB4.out⟩
 simp [results, Try.results101, go_sem, s0, s1, s2, s3, s4, s5]
set_option maxHeartbeats 2000000 in
theorem zeroA_plain (t n : Int) (a : Option Addr) (l c0 : Nat) (ht : t ≠ 5) (w : World) :
  Calls Try.prog 85 #[.agg #[.int .i64 t, .int .i64 n, .slice a l c0]] w fun e w' => e = .returned zeroF.val ∧ Below w.heap.size w w' := by
 have e5 : (t == 5) = false := by simp [ht]
 clear ht
 obtain ⟨t0, t1⟩ := two_boxes2 w #[.int .i64 t, .int .i64 n, .slice a l c0] #[.bool true, .int .i64 0, .int .u64 0, .slice none 0 0, .slice none 0 0, .slice none 0 0] 25 45
 obtain ⟨s0, s1, s2, s3, s4, s5⟩ := six_cells t1
 clear t0 t1
 go_enter Try.func85, Try.ntmps85
 go_wp2_with fail
 refine bodyPost_ret (v := .agg #[.bool true, .int .i64 0, .int .u64 0, .slice none 0 0, .slice none 0 0, .slice none 0 0]) ?_ rfl ⟨rfl, wbox _ _ _ _ _⟩
 simp [results, Try.results85, go_sem, s0, s1, s2, s3, s4, s5]
end Go.Proofs.Ytpkcaabbcoiiiaa
namespace Go.Proofs.Ytpkcaabbcoiiiaa
open Go.RowKit
theorem pl_pair {t n : Int} {l : Nat} (h : plainB t n l = true) : t ≠ 5 := by
 rintro rfl; simp [plainB] at h
set_option maxHeartbeats 2000000 in
theorem spaceR_is (d : Nat) (s : SV) (e0 : Int) (w : World) (hs : SIn w d s) (he : spaceE s = e0) :
  Calls Try.prog 34 #[s.f.val] w fun e w' => e = .returned (.int .i64 e0) ∧ Below w.heap.size w w' := by
 match d, s, hs with
 | d + 1, .mk ⟨t, n, a, l, c⟩ ps, hs =>
 show Calls Try.prog 34 #[.agg #[.int .i64 t, .int .i64 n, .slice a l c]] w _
 have hl : ps.length = l := hs.1
 by_cases ht : t = 5
 ·subst ht
  have hB := Lib.hid (sbox w #[.int .i64 5, .int .i64 n, .slice a l c] 25)
  have BX := Lib.hid (heapV_new w (.cells #[.int .i64 5, .int .i64 n, .slice a l c] 25))
  have hpl : plainB 5 n l = false := by simp [plainB]
  by_cases h0 : n = 0 ∧ l = 2
  ·obtain ⟨rfl, rfl⟩ := h0
   obtain ⟨p, q, rfl⟩ := two_of hl
   obtain ⟨_, b, off, ha, hb, hp, hq, _, _⟩ := hs.two
   obtain rfl : a = some ⟨b, off, none⟩ := ha
   obtain ⟨⟨pt, pn, pa, pl, pc⟩, pps⟩ := p
   obtain ⟨⟨qt, qn, qa, ql, qc⟩, qps⟩ := q
   have HP := Lib.hid (hp.below hB.out); have HQ := Lib.hid (hq.below hB.out)
   obtain ⟨r1, hr1⟩ : ∃ r, plainB pt pn pl = r := ⟨_, rfl⟩
   obtain ⟨r2, hr2⟩ : ∃ r, plainB qt qn ql = r := ⟨_, rfl⟩
   have HR1 := Lib.hid hr1; have HR2 := Lib.hid hr2
   have HE : Hid ((if r1 = true ∧ r2 = true then (0 : Int) else 50) = e0) := by
    show _ = _
    rw [← he]; simp [spaceE, hpl, SV.pl, SV.f, hr1, hr2]
   obtain ⟨W0, hW0⟩ : ∃ W, w.alloc (.cells #[.int .i64 5, .int .i64 0, .slice (some ⟨b, off, none⟩) 2 c] 25) = W := ⟨_, rfl⟩
   rw [hW0] at BX HP HQ hB
   clear hs hl hp hq hr1 hr2 he hpl
   have NX : ∀ W : World, Below W0.heap.size W0 W → Hid (W.cell? ⟨w.heap.size, 0, none⟩ = some (.int .i64 5) ∧ W.cell? ⟨w.heap.size, 1, none⟩ = some (.int .i64 0) ∧ W.cell? ⟨w.heap.size, 2, none⟩ = some (.slice (some ⟨b, off, none⟩) 2 c)) := fun _ h => tri_cells (heap_old BX.out h)
   have NNX := Lib.hid NX
   clear NX
   obtain ⟨z0, z1, z2⟩ := (NNX.out _ (Below.refl _ _)).out
   go_enter Try.func34, Try.ntmps34
   go_wp2_with fail
   clear z0 z1 z2
   go_loopw [3, 4] (fun o i wr => Below W0.heap.size W0 wr ∧ ((i = .int .i64 0 ∧ o = .bool true) ∨ (i = .int .i64 1 ∧ o = .bool r1) ∨ (i = .int .i64 2 ∧ r1 = true ∧ o = .bool r2))) (fun _ i _ => 2 - (intOf i).toNat)
   case atStart => exact ⟨Below.refl _ _, .inl ⟨rfl, rfl⟩⟩
   case round =>
    obtain ⟨hb1, hrel⟩ := hrel
    obtain ⟨x0, x1, x2⟩ := (NNX.out _ hb1).out
    obtain ⟨y0, y1, y2⟩ := HP.out.below hb1
    obtain ⟨v0, v1, v2⟩ := HQ.out.below hb1
    dsimp only [SV.f] at y0 y1 y2 v0 v1 v2
    simp only [Nat.add_assoc, Nat.reduceAdd] at v1 v2
    rcases hrel with ⟨rfl, rfl⟩ | ⟨rfl, rfl⟩ | ⟨rfl, hr, rfl⟩
    ·by_cases hp5 : pt = 5
     ·subst hp5
      have HF : Hid (r1 = false) := by show _ = _; rw [← HR1.out]; simp [plainB]
      go_wp2_with fail
      go_roundw
      case rel => exact ⟨hb1, .inr (.inl ⟨rfl, by rw [HF.out]⟩)⟩
      case measure => simp [intOf]
     ·have hp6 : (pt != 5) = true := by simp [hp5]
      go_wp2_with fail
      refine (spaceR_flat pt pn pa pl pc hp5 r1 HR1.out _).mono ?_
      rintro e w3 ⟨rfl, hb3⟩
      cases r1
      all_goals
       simp only [Bool.false_eq_true, if_false, if_true]
       go_wp2_with fail
       go_roundw
       case rel => exact ⟨hb1.trans (hb3.mono hb1.size), .inr (.inl ⟨rfl, rfl⟩)⟩
       case measure => simp [intOf]
    ·cases r1
     ·have HE2 : Hid ((50 : Int) = e0) := by show _ = _; rw [← HE.out]; simp
      go_wp2_with fail
      go_ret
      exact ⟨rint HE2.out, hB.out.trans (hb1.mono hB.out.size)⟩
     ·by_cases hp5 : qt = 5
      ·subst hp5
       have HF : Hid (r2 = false) := by show _ = _; rw [← HR2.out]; simp [plainB]
       go_wp2_with fail
       go_roundw
       case rel => exact ⟨hb1, .inr (.inr ⟨by first | rfl | trivial, by first | rfl | trivial, by first | rfl | (rw [HF.out])⟩)⟩
       case measure => simp [intOf]
      ·have hp6 : (qt != 5) = true := by simp [hp5]
       go_wp2_with fail
       refine (spaceR_flat qt qn qa ql qc hp5 r2 HR2.out _).mono ?_
       rintro e w3 ⟨rfl, hb3⟩
       cases r2
       all_goals
        simp only [Bool.false_eq_true, if_false, if_true]
        go_wp2_with fail
        go_roundw
        case rel => exact ⟨hb1.trans (hb3.mono hb1.size), .inr (.inr ⟨by first | rfl | trivial, by first | rfl | trivial, by first | rfl | trivial⟩)⟩
        case measure => simp [intOf]
    ·have HE2 : Hid ((if r2 = true then (0 : Int) else 50) = e0) := by show _ = _; rw [← HE.out, hr]; simp
     cases r2
     all_goals
      go_wp2_with fail
      go_ret
      exact ⟨rint HE2.out, hB.out.trans (hb1.mono hB.out.size)⟩
  ·have HE : Hid ((50 : Int) = e0) := by
    show _ = _
    rw [← he, spaceE, hpl, if_neg (by simp), if_neg]
    rintro ⟨_, h1, h2, _⟩
    exact h0 ⟨h1, by omega⟩
   obtain ⟨W0, hW0⟩ : ∃ W, w.alloc (.cells #[.int .i64 5, .int .i64 n, .slice a l c] 25) = W := ⟨_, rfl⟩
   rw [hW0] at BX hB
   obtain ⟨x0, x1, x2⟩ := tri_cells BX.out
   clear hs hl he hpl
   have hc : (n = 0 ∧ ((n == 0) = true) ∧ ((l : Int) == 2) = false) ∨ ((n == 0) = false) := by
    by_cases hn : n = 0
    ·exact .inl ⟨hn, by simp [hn], by simp; omega⟩
    ·exact .inr (by simp [hn])
   clear h0
   rcases hc with ⟨rfl, c1, c2⟩ | c1
   all_goals
    go_enter Try.func34, Try.ntmps34
    go_wp2_with fail
    go_loopw [3, 4] (fun o i wr => i = .int .i64 0 ∧ o = .bool false ∧ W0 = wr) (fun _ i _ => 0)
    case atStart => exact ⟨rfl, rfl, rfl⟩
    case round =>
     obtain ⟨rfl, rfl, rfl⟩ := hrel
     by_cases hl0 : 0 < l
     ·have g1 : (0 : Int) < (l : Int) := by omega
      go_wp2_with fail
      go_ret
      exact ⟨rint HE.out, hB.out⟩
     ·obtain rfl : l = 0 := by omega
      go_wp2_with fail
      go_ret
      exact ⟨rint HE.out, hB.out⟩
 ·obtain ⟨r, hr⟩ : ∃ r, plainB t n l = r := ⟨_, rfl⟩
  refine (spaceR_flat t n a l c ht r hr w).mono ?_
  rintro e w1 ⟨rfl, hb⟩
  refine ⟨?_, hb⟩
  rw [← he, spaceE_flat ht, hr]
end Go.Proofs.Ytpkcaabbcoiiiaa
namespace Go.Proofs.Ytpkcaabbcoiiiaa
open Go.RowKit
theorem six_frozen {w : World} {B : Nat} {cs : Array Value} {T : TypeId} (h : w.heap[B]? = some (.cells cs T (0, 0))) (j : Nat) : w.frozen? ⟨B, j, none⟩ = false := by
 unfold World.frozen?; simp [h]
theorem six_set {w : World} {B : Nat} {a b c d e f v0 v1 v2 v3 v4 v5 : Value} {T : TypeId} (h : w.heap[B]? = some (.cells #[a, b, c, d, e, f] T (0, 0))) :
  ((((((w.setCell ⟨B, 0, none⟩ v0).setCell ⟨B, 1, none⟩ v1).setCell ⟨B, 2, none⟩ v2).setCell ⟨B, 3, none⟩ v3).setCell ⟨B, 4, none⟩ v4).setCell ⟨B, 5, none⟩ v5).heap[B]? = some (.cells #[v0, v1, v2, v3, v4, v5] T (0, 0)) :=
 heap_setCell_same _ B 5 _ _ _ (heap_setCell_same _ B 4 _ _ _ (heap_setCell_same _ B 3 _ _ _ (heap_setCell_same _ B 2 _ _ _ (heap_setCell_same _ B 1 _ _ _ (heap_setCell_same w B 0 _ _ _ h)))))
theorem put6_below {n : Nat} {w0 w : World} {B : Nat} (v0 v1 v2 v3 v4 v5 : Value) (h : Below n w0 w) (hB : n ≤ B) :
  Below n w0 ((((((w.setCell ⟨B, 0, none⟩ v0).setCell ⟨B, 1, none⟩ v1).setCell ⟨B, 2, none⟩ v2).setCell ⟨B, 3, none⟩ v3).setCell ⟨B, 4, none⟩ v4).setCell ⟨B, 5, none⟩ v5) :=
 (((((h.setCell (p := ⟨B, 0, none⟩) hB _).setCell (p := ⟨B, 1, none⟩) hB _).setCell (p := ⟨B, 2, none⟩) hB _).setCell (p := ⟨B, 3, none⟩) hB _).setCell (p := ⟨B, 4, none⟩) hB _).setCell (p := ⟨B, 5, none⟩) hB _
def Above (n : Nat) (w w' : World) : Prop := ∀ k, n ≤ k → w'.heap[k]? = w.heap[k]?
theorem Above.refl (n : Nat) (w : World) : Above n w w := fun _ _ => rfl
theorem Above.setCell {n : Nat} {a w : World} (h : Above n a w) {p : Addr} (hp : p.block < n) (u : Value) : Above n a (w.setCell p u) := fun k hk => (Below.heap_setCell _ _ _ _ (by omega)).trans (h k hk)
theorem Above.cell {n : Nat} {w w' : World} (h : Above n w w') {p : Addr} (hp : n ≤ p.block) : w'.cell? p = w.cell? p := World.cell?_of_block (w := w) (h p.block hp)
theorem put6_above {n : Nat} {w0 w : World} {B : Nat} (v0 v1 v2 v3 v4 v5 : Value) (h : Above n w0 w) (hB : B < n) :
  Above n w0 ((((((w.setCell ⟨B, 0, none⟩ v0).setCell ⟨B, 1, none⟩ v1).setCell ⟨B, 2, none⟩ v2).setCell ⟨B, 3, none⟩ v3).setCell ⟨B, 4, none⟩ v4).setCell ⟨B, 5, none⟩ v5) :=
 (((((h.setCell (p := ⟨B, 0, none⟩) hB _).setCell (p := ⟨B, 1, none⟩) hB _).setCell (p := ⟨B, 2, none⟩) hB _).setCell (p := ⟨B, 3, none⟩) hB _).setCell (p := ⟨B, 4, none⟩) hB _).setCell (p := ⟨B, 5, none⟩) hB _
theorem W6.above {w w' : World} {n b o : Nat} {f : WF} (h : W6 w b o f) (hn : n ≤ b) (hb : Above n w w') : W6 w' b o f :=
 ⟨(hb.cell hn).trans h.1, (hb.cell hn).trans h.2.1, (hb.cell hn).trans h.2.2.1, (hb.cell hn).trans h.2.2.2.1, (hb.cell hn).trans h.2.2.2.2.1, (hb.cell hn).trans h.2.2.2.2.2⟩
structure PNew (n : Nat) (w : World) (t d : Int) (f : WF) (a : PF) : Prop where
 is : PIs w t d f a
 ra : ∀ ad, f.ra = some ad → n ≤ ad.block
 ca : ∀ ad, f.ca = some ad → n ≤ ad.block
theorem PNew.below {n : Nat} {w w' : World} {t d : Int} {f : WF} {a : PF} (h : PNew n w t d f a) (hb : Below w.heap.size w w') : PNew n w' t d f a := ⟨h.is.below hb, h.ra, h.ca⟩
theorem PNew.mono {n m : Nat} {w : World} {t d : Int} {f : WF} {a : PF} (h : PNew n w t d f a) (hm : m ≤ n) : PNew m w t d f a := ⟨h.is, fun ad e => Nat.le_trans hm (h.ra ad e), fun ad e => Nat.le_trans hm (h.ca ad e)⟩
def XNew (n : Nat) (w : World) : PS → WF → PX → Prop
 | .one t d, f, .one a => PNew n w t d f a
 | .two t d u m, f, .two a b => f.pf = pC 0 ∧ f.rl = 0 ∧ f.cl = 0 ∧ f.pl = 2 ∧ ∃ blk g h, f.pa = some ⟨blk, 0, none⟩ ∧ n ≤ blk ∧ W6 w blk 0 g ∧ W6 w blk 6 h ∧ PNew n w t d g a ∧ PNew n w u m h b
 | _, _, _ => False
theorem XNew.is {n : Nat} {w : World} {S : PS} {f : WF} {x : PX} (h : XNew n w S f x) : XIs w S f x := by
 cases S <;> cases x <;> first | exact h.elim | exact PNew.is h | skip
 obtain ⟨h1, h2, h3, h4, blk, g, k, h5, _, h6, h7, h8, h9⟩ := h
 exact ⟨h1, h2, h3, h4, blk, 0, g, k, h5, h6, by simpa using h7, h8.is, h9.is⟩
theorem XNew.below {n : Nat} {w w' : World} {S : PS} {f : WF} {x : PX} (h : XNew n w S f x) (hb : Below w.heap.size w w') : XNew n w' S f x := by
 cases S <;> cases x <;> first | exact h.elim | exact PNew.below h hb | skip
 obtain ⟨h1, h2, h3, h4, blk, g, k, h5, h0, h6, h7, h8, h9⟩ := h
 exact ⟨h1, h2, h3, h4, blk, g, k, h5, h0, h6.below hb, h7.below hb, h8.below hb, h9.below hb⟩
theorem XNew.mono {n m : Nat} {w : World} {S : PS} {f : WF} {x : PX} (h : XNew n w S f x) (hm : m ≤ n) : XNew m w S f x := by
 cases S <;> cases x <;> first | exact h.elim | exact PNew.mono h hm | skip
 obtain ⟨h1, h2, h3, h4, blk, g, k, h5, h0, h6, h7, h8, h9⟩ := h
 exact ⟨h1, h2, h3, h4, blk, g, k, h5, Nat.le_trans hm h0, h6, h7, h8.mono hm, h9.mono hm⟩
def WRet (S : PS) (x : PX) (w : World) (e : Ending) (w' : World) : Prop := ∃ f : WF, e = .returned f.val ∧ XNew w.heap.size w' S f x ∧ Below w.heap.size w w'
theorem zero_new (n : Nat) (w : World) (t d : Int) : PNew n w t d zeroF zeroP :=
 ⟨⟨⟨.inl rfl, rfl, by decide, (fun r hr => by cases hr), .inl rfl, rfl, (fun c hc => by cases hc), by decide⟩, rfl, .zero, rfl⟩, (fun ad e => by cases e), (fun ad e => by cases e)⟩
theorem pair_new {n : Nat} {w : World} {t d u m : Int} {blk : Nat} {g h : WF} {a b : PF} (h6 : W6 w blk 0 g) (h7 : W6 w blk 6 h) (hn : n ≤ blk) (ha : PNew n w t d g a) (hb : PNew n w u m h b) : XNew n w (.two t d u m) (pairF blk) (.two a b) :=
 ⟨rfl, rfl, rfl, rfl, blk, g, h, rfl, hn, h6, h7, ha, hb⟩
end Go.Proofs.Ytpkcaabbcoiiiaa
namespace Go.Proofs.Ytpkcaabbcoiiiaa
open Go.RowKit
def Row (w : World) (a : Option Addr) (zs : List Int) : Prop :=
 zs = [] ∨ ∃ b off, a = some ⟨b, off, none⟩ ∧ ∀ i, i < zs.length → w.cell? ⟨b, off + i, none⟩ = some (.int .i64 (zs.getD i 0))
def okc (limit c : Int) : Bool := decide (-1 ≤ c) && decide (c ≤ limit)
def chk (limit : Int) (zs : List Int) : Int := if limit < 0 ∨ 1048576 < limit then 20 else if zs.all (okc limit) then 0 else 21
end Go.Proofs.Ytpkcaabbcoiiiaa
namespace Go.Proofs.Ytpkcaabbcoiiiaa
open Go.RowKit
theorem co_cell_lt {w : World} {a : Addr} {v : Value} (h : w.cell? a = some v) : a.block < w.heap.size := by
 rcases Nat.lt_or_ge a.block w.heap.size with h' | h'
 ·exact h'
 ·simp [World.cell?, Array.getElem?_eq_none h'] at h
theorem Row.below {w w' : World} {a : Option Addr} {zs : List Int} (h : Row w a zs) (hb : Below w.heap.size w w') : Row w' a zs := by
 rcases h with h | ⟨b, off, rfl, hc⟩
 ·exact .inl h
 ·refine .inr ⟨b, off, rfl, fun i hi => ?_⟩
  have h1 := hc i hi
  rw [hb.cell]
  ·exact h1
  ·exact co_cell_lt h1
end Go.Proofs.Ytpkcaabbcoiiiaa
namespace Go.Proofs.Ytpkcaabbcoiiiaa
open Go Go.RowKit
theorem VRow.agree {A W : World} {lo : Nat} {a : Option Addr} {vs : List Value} (h : VRow A a vs) (hl : ∀ ad, a = some ad → lo ≤ ad.block) (hg : Agree lo A W) : VRow W a vs := by
 rcases h with h | ⟨b, off, rfl, hc⟩
 ·exact .inl h
 ·exact .inr ⟨b, off, rfl, fun i v hi => hg.cell (p := ⟨b, off + i, none⟩) (hl ⟨b, off, none⟩ rfl) (hc i v hi)⟩
theorem CRow.agree {A W : World} {lo : Nat} {a : Option Addr} {cs : List Cl} (h : CRow A a cs) (hl : ∀ ad, a = some ad → lo ≤ ad.block) (hg : Agree lo A W) : CRow W a cs := by
 rcases h with h | ⟨b, off, rfl, hc⟩
 ·exact .inl h
 ·exact .inr ⟨b, off, rfl, fun i c hi => ⟨hg.cell (p := ⟨b, _, none⟩) (hl ⟨b, off, none⟩ rfl) (hc i c hi).1, hg.cell (p := ⟨b, _, none⟩) (hl ⟨b, off, none⟩ rfl) (hc i c hi).2.1, hg.cell (p := ⟨b, _, none⟩) (hl ⟨b, off, none⟩ rfl) (hc i c hi).2.2⟩⟩
theorem W6.agree {A W : World} {lo b o : Nat} {f : WF} (h : W6 A b o f) (hb : lo ≤ b) (hg : Agree lo A W) : W6 W b o f :=
 ⟨hg.cell hb h.1, hg.cell hb h.2.1, hg.cell hb h.2.2.1, hg.cell hb h.2.2.2.1, hg.cell hb h.2.2.2.2.1, hg.cell hb h.2.2.2.2.2⟩
theorem PNew.agree {n : Nat} {A W : World} {t d : Int} {f : WF} {a : PF} (h : PNew n A t d f a) (hg : Agree n A W) : PNew n W t d f a :=
 ⟨⟨⟨h.is.at_.rows.agree h.ra hg, h.is.at_.rl, h.is.at_.g64, h.is.at_.r64, h.is.at_.cells.agree h.ca hg, h.is.at_.cl, h.is.at_.bits, h.is.at_.cmax⟩, h.is.pf, h.is.ok, h.is.pl⟩, h.ra, h.ca⟩
theorem XNew.agree {n : Nat} {A W : World} {S : PS} {f : WF} {x : PX} (h : XNew n A S f x) (hg : Agree n A W) : XNew n W S f x := by
 cases S <;> cases x <;> first | exact h.elim | exact PNew.agree h hg | skip
 obtain ⟨h1, h2, h3, h4, blk, g, k, h5, h0, h6, h7, h8, h9⟩ := h
 exact ⟨h1, h2, h3, h4, blk, g, k, h5, h0, h6.agree h0 hg, h7.agree h0 hg, h8.agree hg, h9.agree hg⟩
abbrev SF.three (f : SF) : List Value := [.int .i64 f.tag, .int .i64 f.dim, .slice f.a f.len f.cap]
theorem S3.cells {w : World} {b o : Nat} {f : SF} (h : S3 w b o f) : CellsAt w b o f.three := ⟨h.1, h.2.1, h.2.2, trivial⟩
abbrev costF (c : Int) : WF := ⟨false, c, 0, none, 0, 0, [], none, 0, 0, [], none, 0, 0⟩
abbrev factsF (g : Nat) (a : Option Addr) (cap : Nat) (rows : List Nat) : WF := ⟨false, 0, g, a, rows.length, cap, rows, none, 0, 0, [], none, 0, 0⟩
abbrev cellsF (a : Option Addr) (cap : Nat) (cs : List Cl) : WF := ⟨false, 0, 0, none, 0, 0, [], a, cs.length, cap, cs, none, 0, 0⟩
theorem new_cost {n : Nat} {W : World} {t d c : Int} (h : OkP t d (pC c)) : PNew n W t d (costF c) (pC c) :=
 ⟨⟨⟨.inl rfl, rfl, (by show (0 : Nat) < _; decide), (fun r hr => by cases hr), .inl rfl, rfl, (fun c hc => by cases hc), (by show (0 : Nat) ≤ _; decide)⟩, rfl, h, rfl⟩, (fun ad e => by cases e), (fun ad e => by cases e)⟩
theorem new_facts {n : Nat} {W : World} {t d : Int} {g : Nat} {a : Option Addr} {cap : Nat} {rows : List Nat} (h : OkP t d (pF g rows)) (hg : g < 18446744073709551616) (hr : ∀ r ∈ rows, r < 18446744073709551616) (hv : VRow W a (u64s rows)) (hl : ∀ ad, a = some ad → n ≤ ad.block) : PNew n W t d (factsF g a cap rows) (pF g rows) :=
 ⟨⟨⟨hv, rfl, hg, hr, .inl rfl, rfl, (fun c hc => by cases hc), by simp [maxLen]⟩, rfl, h, rfl⟩, hl, (fun ad e => by cases e)⟩
theorem new_cells {n : Nat} {W : World} {t d : Int} {a : Option Addr} {cap : Nat} {cs : List Cl} (h : OkP t d (pX cs)) (hb : Bits cs) (hm : cs.length ≤ maxLen) (hv : CRow W a cs) (hl : ∀ ad, a = some ad → n ≤ ad.block) : PNew n W t d (cellsF a cap cs) (pX cs) :=
 ⟨⟨⟨.inl rfl, rfl, (by show (0 : Nat) < _; decide), (fun r hr => by cases hr), hv, rfl, hb, hm⟩, rfl, h, rfl⟩, (fun ad e => by cases e), hl⟩
theorem row_own {W : World} {B : Nat} {T : TypeId} {a b : Int} (h : W.heap[B]? = some (.cells (List.toArray [.int .i64 a, .int .i64 b]) T (0, 0))) : Row W (some ⟨B, 0, none⟩) [a, b] := by
 refine .inr ⟨B, 0, rfl, fun i hi => ?_⟩
 match i, hi with
 | 0, _ => exact cell_own h rfl
 | 1, _ => exact cell_own h rfl
theorem plain_ne5 {t n : Int} {l : Nat} (h : plainB t n l = true) : t ≠ 5 := pl_pair h
section
variable {w W : World} {k : Nat} {n : Int} {f g : WF} {x y : PF}
theorem wret_one {t : Int} {f : WF} {x : PF} (h : PNew w.heap.size W t n f x) (hb : Below w.heap.size w W) : WRet (.one t n) (.one x) w (.returned f.val) W := ⟨f, rfl, h, hb⟩
theorem one_f1 {t : Int} (hp : plainB t n 0 = true) (h3 : t ≠ 3) (h4 : t ≠ 4) : PNew k W t n (costF 0) (oneP t n) := by
 have h := one_okP hp
 have e : oneP t n = pC 0 := by unfold oneP; rw [if_neg h3, if_neg h4]
 rw [e] at h ⊢
 exact new_cost h
theorem one_f3 {m : Nat} {a : Option Addr} {cap : Nat} (hm : m ≤ 64) (hv : VRow W a (u64s (onesL m))) (hl : ∀ ad, a = some ad → k ≤ ad.block) : PNew k W 3 m (factsF 0 a cap (onesL m)) (oneP 3 m) := by
 rw [one_3]
 exact new_facts (.facts m _ _ rfl rfl (ones_good hm)) (by decide) (ones_good hm).r64 hv hl
theorem one_f4 {m : Nat} {a : Option Addr} {cap : Nat} (hm : m ≤ 64) (hv : CRow W a (unitC m)) (hl : ∀ ad, a = some ad → k ≤ ad.block) : PNew k W 4 m (cellsF a cap (unitC m)) (oneP 4 m) := by
 have h := val_unit hm
 rw [one_4]
 exact new_cells (.cells m _ rfl rfl h) h.bits (by have := h.len; unfold maxLen; omega) hv hl
theorem dim3 {t : Int} {l : Nat} (h : plainB t n l = true) (ht : t = 3 ∨ t = 4) : ∃ m : Nat, n = m ∧ m ≤ 64 := by
 obtain ⟨d0, _, _, d3⟩ := plainB_dim h
 exact ⟨n.toNat, by omega, by have := d3 ht; omega⟩
end
def SIs (w : World) : PS → SF → Prop
 | .one t n, f => ∃ a c, f = ⟨t, n, a, 0, c⟩
 | .two t n u m, f => ∃ b off c a1 c1 a2 c2, f = ⟨5, 0, some ⟨b, off, none⟩, 2, c⟩ ∧ S3 w b off ⟨t, n, a1, 0, c1⟩ ∧ S3 w b (off + 3) ⟨u, m, a2, 0, c2⟩
theorem SIs.below {w w' : World} {S : PS} {f : SF} (h : SIs w S f) (hb : Below w.heap.size w w') : SIs w' S f := by
 cases S with
 | one t n => exact h
 | two t n u m =>
  obtain ⟨b, off, c, a1, c1, a2, c2, h1, h2, h3⟩ := h
  exact ⟨b, off, c, a1, c1, a2, c2, h1, h2.below hb, h3.below hb⟩
def isNew (lo : Nat) (S : PS) (x : PX) : Asr := fun v w => ∃ f : WF, v = f.val ∧ XNew lo w S f x
theorem stab_isNew {lo : Nat} {S : PS} {x : PX} : Stab (isNew lo S x) := fun v w w' ⟨f, h1, h2⟩ hb => ⟨f, h1, h2.below hb⟩
theorem wret_gives {P : Program} {f : FuncId} {vs : Array Value} {w : World} {S : PS} {x : PX} {lo : Nat} (hlo : lo ≤ w.heap.size) (h : Calls P f vs w (WRet S x w)) : Calls P f vs w (Gives (isNew lo S x) w) := h.mono fun e w' ⟨f, he, hn, hb⟩ => ⟨f.val, he, ⟨f, rfl, hn.mono hlo⟩, hb⟩
theorem holds2 {p q : Asr} {vs : List Value} {w : World} (h : Holds [p, q] vs w) : ∃ a b, vs = [a, b] ∧ p a w ∧ q b w := by
 match vs, h with
 | [a, b], h => exact ⟨a, b, rfl, h.1, h.2.1⟩
theorem pair_gives {w : World} {lo : Nat} {t n u m : Int} {a b : PF} {vs : List Value} (hlo : lo ≤ w.heap.size) (h : Holds [isNew lo (.one t n) (.one a), isNew lo (.one u m) (.one b)] vs w) : Calls Try.prog 101 vs.toArray w (Gives (isNew lo (.two t n u m) (.two a b)) w) := by
 obtain ⟨v1, v2, rfl, ⟨f, rfl, hf⟩, g, rfl, hg⟩ := holds2 h
 refine (pair_is f g w).mono ?_
 rintro e w' ⟨blk, rfl, h6, h7, hb1, hb⟩
 exact ⟨_, rfl, ⟨pairF blk, rfl, pair_new h6 h7 (Nat.le_trans hlo hb1) (PNew.below hf hb) (PNew.below hg hb)⟩, hb⟩
end Go.Proofs.Ytpkcaabbcoiiiaa
namespace Go.Proofs.Ytpkcaabbcoiiiaa
open Go Go.RowKit
theorem one4_is (m : Nat) (hm : m ≤ 64) (w : World) : Calls Try.prog 112 #[.int .i64 (m : Int)] w (CellsRet (unitC m) 0 w) := by
 have h0 : dimC (m : Int) = 0 := by unfold dimC; rw [if_neg (by omega)]
 have := one_any (m : Int) w 0 h0
 rwa [show unitR (m : Int) = unitC m by unfold unitR; rw [if_pos h0, Int.toNat_natCast]] at this
theorem oneA_plain (t n : Int) (sa : Option Addr) (sc : Nat) (w : World) (hp : plainB t n 0 = true) :
  Calls Try.prog 103 #[.agg #[.int .i64 t, .int .i64 n, .slice sa 0 sc]] w (WRet (.one t n) (.one (oneP t n)) w) := by
 refine enterF (args := [.agg #[.int .i64 t, .int .i64 n, .slice sa 0 sc]]) Try.func103 rfl Try.ntmps103 rfl ?_
 have hS := St.start w
 refine seqF (regF ?_)
 refine op_box (cs := [_, _, _]) hS rfl rfl rfl ?_
 clear hS; intro B1 W1 hS
 refine op_alloc (cs := [_, _, _, _, _, _]) hS Try.zeroValue45 rfl rfl ?_
 clear hS; intro B2 W2 hS
 refine endF (XF.thenN ?_)
 refine seqF (regF ?_)
 refine op_alloc (cs := [_, _, _, _, _, _]) hS Try.zeroValue45 rfl rfl ?_
 clear hS; intro B3 W3 hS
 refine endF (XF.thenN ?_)
 refine seqF ?_
 refine seqF (regF ?_)
 refine op_field (o' := 0) fa_25_0 rfl rfl rfl ?_
 refine op_load Try.isAgg22 rfl (cell_own (hS.at_ 2 rfl) rfl) rfl ?_
 refine endF (XF.thenN ?_)
 refine blockF ?_
 refine seqF (regF ?_)
 refine op_eql rfl rfl rfl ?_
 refine op_assign rfl rfl ?_
 refine endF (XF.thenN ?_)
 refine condF rfl (fun hc => ?_) (fun hc => ?_)
 ·have hc6 := of_decide_eq_true hc; clear hc
  have e3 : t = 3 := hc6
  subst e3
  obtain ⟨m, rfl, hm⟩ := dim3 hp (.inl rfl)
  refine regF ?_
  refine op_field (o' := 1) fa_25_1 rfl rfl rfl ?_
  refine op_load Try.isAgg3 rfl (cell_own (hS.at_ 2 rfl) rfl) rfl ?_
  have hsz := hS.below.size
  refine op_call (vs := [_]) hS goes_111 rfl ((oneA_is m _ _ (one_good hm).1 _ (one_good hm).2).mono fun _ _ h => FOwn.ret h) rfl ?_
  rintro e W4 ⟨a1, c1, rfl, hv, hl, hb⟩
  refine ⟨_, rfl, hb, fun hS' => ?_⟩
  clear hS; have hS := hS'; clear hS'
  refine op_move rfl rfl ?_
  refine op_extract rfl rfl rfl ?_
  refine op_extract rfl rfl rfl ?_
  refine op_field (o' := 2) fa_45_2 rfl rfl rfl ?_
  refine op_storeA (i := 0) (vs := [_, _]) (cs' := [_, _, _, _, _, _]) (O' := [_, _, _]) hS Try.sizeOf41 rfl rfl rfl rfl rfl rfl rfl ?_
  clear hS; intro W5 hS
  refine endF ?_
  refine XF.blkN ?_
  refine XF.thenN ?_
  refine seqF (regF ?_)
  refine op_loadA (vs := [_, _, _, _, _, _]) Try.isAgg45 Try.sizeOf45 rfl (CellsAt.own (j := 0) (m := 6) (hS.at_ 0 rfl) rfl) rfl ?_
  refine op_storeA (i := 1) (vs := [_, _, _, _, _, _]) (cs' := [_, _, _, _, _, _]) (O' := [_, _, _]) hS Try.sizeOf45 rfl rfl rfl rfl rfl rfl rfl ?_
  clear hS; intro W6 hS
  refine endF (XF.thenN ?_)
  refine retF ?_
  refine XF.res (resC1 (vs := [_, _, _, _, _, _]) Try.results103 Try.isAgg45 Try.sizeOf45 rfl (CellsAt.own (j := 0) (m := 6) (hS.at_ 1 rfl) rfl)) ?_
  exact wret_one (one_f3 hm (hv.agree (fun ad e => (hl ad e).1) (hS.since 0 rfl)) (fun ad e => Nat.le_trans hsz (hl ad e).1)) hS.below
 ·have hc6 := of_decide_eq_false hc; clear hc
  refine seqF (regF ?_)
  refine op_eql rfl rfl rfl ?_
  refine op_assign rfl rfl ?_
  refine endF (XF.thenN ?_)
  refine condF rfl (fun hc => ?_) (fun hc => ?_)
  ·have hc15 := of_decide_eq_true hc; clear hc
   have e4 : t = 4 := hc15
   subst e4
   obtain ⟨m, rfl, hm⟩ := dim3 hp (.inr rfl)
   refine regF ?_
   refine op_field (o' := 1) fa_25_1 rfl rfl rfl ?_
   refine op_load Try.isAgg3 rfl (cell_own (hS.at_ 2 rfl) rfl) rfl ?_
   have hsz := hS.below.size
   refine op_call (vs := [_]) hS goes_112 rfl (one4_is m hm _) rfl ?_
   rintro e W7 ⟨a1, c1, rfl, hv, hl, hb⟩
   refine ⟨_, rfl, hb, fun hS' => ?_⟩
   clear hS; have hS := hS'; clear hS'
   refine op_move rfl rfl ?_
   refine op_extract rfl rfl rfl ?_
   refine op_extract rfl rfl rfl ?_
   refine op_field (o' := 4) fa_45_3 rfl rfl rfl ?_
   refine op_store (i := 0) (cs' := [_, _, _, _, _, _]) (O' := [_, _, _]) hS Try.sizeOf42 rfl rfl rfl rfl rfl rfl rfl ?_
   clear hS; intro W8 hS
   refine endF ?_
   refine XF.blkN ?_
   refine XF.thenN ?_
   refine seqF (regF ?_)
   refine op_loadA (vs := [_, _, _, _, _, _]) Try.isAgg45 Try.sizeOf45 rfl (CellsAt.own (j := 0) (m := 6) (hS.at_ 0 rfl) rfl) rfl ?_
   refine op_storeA (i := 1) (vs := [_, _, _, _, _, _]) (cs' := [_, _, _, _, _, _]) (O' := [_, _, _]) hS Try.sizeOf45 rfl rfl rfl rfl rfl rfl rfl ?_
   clear hS; intro W9 hS
   refine endF (XF.thenN ?_)
   refine retF ?_
   refine XF.res (resC1 (vs := [_, _, _, _, _, _]) Try.results103 Try.isAgg45 Try.sizeOf45 rfl (CellsAt.own (j := 0) (m := 6) (hS.at_ 1 rfl) rfl)) ?_
   exact wret_one (one_f4 hm (hv.agree (fun ad e => (hl ad e).1) (hS.since 0 rfl)) (fun ad e => Nat.le_trans hsz (hl ad e).1)) hS.below
  ·have hc15 := of_decide_eq_false hc; clear hc
   refine seqF (regF ?_)
   refine op_eql rfl rfl rfl ?_
   refine op_assign rfl rfl ?_
   refine endF (XF.thenN ?_)
   refine condF rfl (fun hc => absurd (of_decide_eq_true hc) (by exact plain_ne5 hp)) (fun hc => ?_)
   have hc := of_decide_eq_false hc
   refine skipF ?_
   refine XF.blkN ?_
   refine XF.thenN ?_
   refine seqF (regF ?_)
   refine op_loadA (vs := [_, _, _, _, _, _]) Try.isAgg45 Try.sizeOf45 rfl (CellsAt.own (j := 0) (m := 6) (hS.at_ 0 rfl) rfl) rfl ?_
   refine op_storeA (i := 1) (vs := [_, _, _, _, _, _]) (cs' := [_, _, _, _, _, _]) (O' := [_, _, _]) hS Try.sizeOf45 rfl rfl rfl rfl rfl rfl rfl ?_
   clear hS; intro W10 hS
   refine endF (XF.thenN ?_)
   refine retF ?_
   refine XF.res (resC1 (vs := [_, _, _, _, _, _]) Try.results103 Try.isAgg45 Try.sizeOf45 rfl (CellsAt.own (j := 0) (m := 6) (hS.at_ 1 rfl) rfl)) ?_
   exact wret_one (one_f1 hp hc6 hc15) hS.below
end Go.Proofs.Ytpkcaabbcoiiiaa
namespace Go.Proofs.Ytpkcaabbcoiiiaa
open Go Go.RowKit
theorem oneA_pair (t n u m : Int) (a1 a2 : Option Addr) (c1 c2 b off sc : Nat) (w : World) (hs1 : S3 w b off ⟨t, n, a1, 0, c1⟩) (hs2 : S3 w b (off + 3) ⟨u, m, a2, 0, c2⟩) (hp1 : plainB t n 0 = true) (hp2 : plainB u m 0 = true) :
  Calls Try.prog 103 #[.agg #[.int .i64 5, .int .i64 0, .slice (some ⟨b, off, none⟩) 2 sc]] w (WRet (.two t n u m) (.two (oneP t n) (oneP u m)) w) := by
 refine enterF (args := [.agg #[.int .i64 5, .int .i64 0, .slice (some ⟨b, off, none⟩) 2 sc]]) Try.func103 rfl Try.ntmps103 rfl ?_
 have hS := St.start w
 refine seqF (regF ?_)
 refine op_box (cs := [_, _, _]) hS rfl rfl rfl ?_
 clear hS; intro B1 W1 hS
 refine op_alloc (cs := [_, _, _, _, _, _]) hS Try.zeroValue45 rfl rfl ?_
 clear hS; intro B2 W2 hS
 refine endF (XF.thenN ?_)
 refine seqF (regF ?_)
 refine op_alloc (cs := [_, _, _, _, _, _]) hS Try.zeroValue45 rfl rfl ?_
 clear hS; intro B3 W3 hS
 refine endF (XF.thenN ?_)
 refine seqF ?_
 refine seqF (regF ?_)
 refine op_field (o' := 0) fa_25_0 rfl rfl rfl ?_
 refine op_load Try.isAgg22 rfl (cell_own (hS.at_ 2 rfl) rfl) rfl ?_
 refine endF (XF.thenN ?_)
 refine blockF ?_
 refine seqF (regF ?_)
 refine op_eql rfl rfl rfl ?_
 refine op_assign rfl rfl ?_
 refine endF (XF.thenN ?_)
 refine condF rfl (fun hc => absurd (of_decide_eq_true hc) (by omega)) (fun hc => ?_)
 have hc := of_decide_eq_false hc
 refine seqF (regF ?_)
 refine op_eql rfl rfl rfl ?_
 refine op_assign rfl rfl ?_
 refine endF (XF.thenN ?_)
 refine condF rfl (fun hc => absurd (of_decide_eq_true hc) (by omega)) (fun hc => ?_)
 have hc := of_decide_eq_false hc
 refine seqF (regF ?_)
 refine op_eql rfl rfl rfl ?_
 refine op_assign rfl rfl ?_
 refine endF (XF.thenN ?_)
 refine condF rfl (fun hc => ?_) (fun hc => absurd (of_decide_eq_false hc) (by omega))
 have hc := of_decide_eq_true hc
 have hsz := hS.below.size
 have k1 := CellsAt.agree hS.agree (Nat.zero_le _) hs1.cells
 have k2 := CellsAt.agree hS.agree (Nat.zero_le _) hs2.cells
 refine regBK followsM 11 hS rfl rfl (by kernel_rfl) (by kernel_rfl) (by kernel_rfl) (fun d hd => by cases hd) ?_
 refine bl_cons 1 rfl (isV _) (stab_isV _) (rgV (li := [(1, _)]) rfl (w_free rfl) ⟨g_fr (by kernel_rfl) rfl, trivial⟩ (fun w hw => rn_field (o' := 2) fa_25_2 rfl rfl) (at_top rfl)) ?_
 refine bl_cons 2 rfl (isV _) (stab_isV _) (rgV (li := [(26, _)]) rfl (w_free rfl) ⟨g_dep 0 (by kernel_rfl) (at_dep rfl rfl rfl), trivial⟩ (fun w hw => rn_load Try.isAgg23 rfl ((below_agree hw 0).cell (Nat.zero_le _) (cell_own (hS.at_ 2 rfl) rfl))) (at_top rfl)) ?_
 refine bl_cons 3 rfl (isV _) (stab_isV _) (rgV (li := [(27, _)]) rfl (w_free rfl) ⟨g_dep 1 (by kernel_rfl) (at_dep rfl rfl rfl), trivial⟩ (fun w hw => rn_indexA (j := 0) Try.underlying23 Try.sizeOf25 rfl rfl rfl (by omega) (Nat.add_zero _)) (at_top rfl)) ?_
 refine bl_cons 4 rfl (isV _) (stab_isV _) (rgV (li := [(28, _)]) rfl (w_free rfl) ⟨g_dep 2 (by kernel_rfl) (at_dep rfl rfl rfl), trivial⟩ (fun w hw => rn_loadA (vs := [_, _, _]) Try.isAgg25 Try.sizeOf25 rfl (CellsAt.agree (below_agree hw 0) (Nat.zero_le _) (by assumption))) (at_top rfl)) ?_
 refine bl_cons 5 rfl (isNew W3.heap.size (.one t n) (.one (oneP t n))) (stab_isNew) (rg_call [isV _] rfl goes_103 (w_free rfl) ⟨p_tmp (g_dep 3 (by kernel_rfl) (at_dep rfl rfl rfl)), trivial⟩ (fun vs w' hb hh => by have e := holds_isV (us := [_]) hh; subst e; exact wret_gives hb.size (oneA_plain _ _ _ _ _ hp1)) (at_top rfl)) ?_
 refine bl_cons 6 rfl (isV _) (stab_isV _) (rgV (li := [(1, _)]) rfl (w_free rfl) ⟨g_fr (by kernel_rfl) rfl, trivial⟩ (fun w hw => rn_field (o' := 2) fa_25_2 rfl rfl) (at_top rfl)) ?_
 refine bl_cons 7 rfl (isV _) (stab_isV _) (rgV (li := [(31, _)]) rfl (w_free rfl) ⟨g_dep 5 (by kernel_rfl) (at_dep rfl rfl rfl), trivial⟩ (fun w hw => rn_load Try.isAgg23 rfl ((below_agree hw 0).cell (Nat.zero_le _) (cell_own (hS.at_ 2 rfl) rfl))) (at_top rfl)) ?_
 refine bl_cons 8 rfl (isV _) (stab_isV _) (rgV (li := [(32, _)]) rfl (w_free rfl) ⟨g_dep 6 (by kernel_rfl) (at_dep rfl rfl rfl), trivial⟩ (fun w hw => rn_indexA (j := 1) Try.underlying23 Try.sizeOf25 rfl rfl rfl (by omega) rfl) (at_top rfl)) ?_
 refine bl_cons 9 rfl (isV _) (stab_isV _) (rgV (li := [(33, _)]) rfl (w_free rfl) ⟨g_dep 7 (by kernel_rfl) (at_dep rfl rfl rfl), trivial⟩ (fun w hw => rn_loadA (vs := [_, _, _]) Try.isAgg25 Try.sizeOf25 rfl (CellsAt.agree (below_agree hw 0) (Nat.zero_le _) (by assumption))) (at_top rfl)) ?_
 refine bl_cons 10 rfl (isNew W3.heap.size (.one u m) (.one (oneP u m))) (stab_isNew) (rg_call [isV _] rfl goes_103 (w_free rfl) ⟨p_tmp (g_dep 8 (by kernel_rfl) (at_dep rfl rfl rfl)), trivial⟩ (fun vs w' hb hh => by have e := holds_isV (us := [_]) hh; subst e; exact wret_gives hb.size (oneA_plain _ _ _ _ _ hp2)) (at_top rfl)) ?_
 refine bl_cons 11 rfl (isNew W3.heap.size (.two t n u m) (.two (oneP t n) (oneP u m))) (stab_isNew) (rg_call [isNew _ (.one t n) (.one (oneP t n)), isNew _ (.one u m) (.one (oneP u m))] rfl goes_101 (w_free rfl) ⟨p_tmp (g_dep 4 (by kernel_rfl) (at_dep rfl rfl rfl)), p_tmp (g_dep 9 (by kernel_rfl) (at_dep rfl rfl rfl)), trivial⟩ (fun vs w' hb hh => pair_gives hb.size hh) (at_top rfl)) ?_
 refine bl_nil ?_
 intro W4 hbR hS'
 clear hS; have hS := hS'; clear hS'
 refine fin_v ?_
 refine fin_v ?_
 refine fin_v ?_
 refine fin_v ?_
 refine fin_p ?_; rintro _ ⟨v1, rfl, hn1⟩
 refine fin_v ?_
 refine fin_v ?_
 refine fin_v ?_
 refine fin_v ?_
 refine fin_p ?_; rintro _ ⟨v2, rfl, hn2⟩
 refine fin_p ?_; rintro _ ⟨v3, rfl, hn3⟩
 refine fin_nil ?_
 refine op_storeA (i := 0) (vs := [_, _, _, _, _, _]) (cs' := [_, _, _, _, _, _]) (O' := [_, _, _]) hS Try.sizeOf45 rfl rfl rfl rfl rfl rfl rfl ?_
 clear hS; intro W5 hS
 refine endF ?_
 refine XF.blkN ?_
 refine XF.thenN ?_
 refine seqF (regF ?_)
 refine op_loadA (vs := [_, _, _, _, _, _]) Try.isAgg45 Try.sizeOf45 rfl (CellsAt.own (j := 0) (m := 6) (hS.at_ 0 rfl) rfl) rfl ?_
 refine op_storeA (i := 1) (vs := [_, _, _, _, _, _]) (cs' := [_, _, _, _, _, _]) (O' := [_, _, _]) hS Try.sizeOf45 rfl rfl rfl rfl rfl rfl rfl ?_
 clear hS; intro W6 hS
 refine endF (XF.thenN ?_)
 refine retF ?_
 refine XF.res (resC1 (vs := [_, _, _, _, _, _]) Try.results103 Try.isAgg45 Try.sizeOf45 rfl (CellsAt.own (j := 0) (m := 6) (hS.at_ 1 rfl) rfl)) ?_
 exact ⟨v3, rfl, (hn3.agree (hS.since 0 rfl)).mono hsz, hS.below⟩
end Go.Proofs.Ytpkcaabbcoiiiaa
namespace Go.Proofs.Ytpkcaabbcoiiiaa
open Go.RowKit
attribute [local go_sem ↓] Go.wp_at_zero Go.wp_at_succ
theorem zeroA_lit (t n : Int) (a : Option Addr) (l c0 : Nat) (ht : t ≠ 5) (w : World) :
  Calls Try.prog 85 #[.agg #[.int .i64 t, .int .i64 n, .slice a l c0]] w fun e w' => e = .returned (.agg #[.bool true, .int .i64 0, .int .u64 0, .slice none 0 0, .slice none 0 0, .slice none 0 0]) ∧ Below w.heap.size w w' := zeroA_plain t n a l c0 ht w
theorem pair_zero (w : World) :
  Calls Try.prog 101 #[.agg #[.bool true, .int .i64 0, .int .u64 0, .slice none 0 0, .slice none 0 0, .slice none 0 0], .agg #[.bool true, .int .i64 0, .int .u64 0, .slice none 0 0, .slice none 0 0, .slice none 0 0]] w fun e w' => ∃ blk, e = .returned (.agg #[.bool false, .int .i64 0, .int .u64 0, .slice none 0 0, .slice none 0 0, .slice (some ⟨blk, 0, none⟩) 2 2]) ∧ W6 w' blk 0 zeroF ∧ W6 w' blk 6 zeroF ∧ w.heap.size ≤ blk ∧ Below w.heap.size w w' := pair_is zeroF zeroF w
set_option maxHeartbeats 8000000 in
theorem zeroA_pair (d : Nat) (sa : Option Addr) (sc : Nat) (p q : SV) (w : World) (hsp : SIn w (d + 1) (.mk ⟨5, 0, sa, 2, sc⟩ [p, q])) (hp : p.pl = true) (hq : q.pl = true) :
  Calls Try.prog 85 #[.agg #[.int .i64 5, .int .i64 0, .slice sa 2 sc]] w (WRet (.two p.f.tag p.f.dim q.f.tag q.f.dim) (.two zeroP zeroP) w) := by
 obtain ⟨_, b, off, ha, hb, hp3, hq3, _, _⟩ := hsp.two
 obtain rfl : sa = some ⟨b, off, none⟩ := ha
 obtain ⟨⟨pt, pn, pa, pl, pc⟩, pps⟩ := p
 obtain ⟨⟨qt, qn, qa, ql, qc⟩, qps⟩ := q
 have hp5 := Lib.hid (pl_pair (show plainB pt pn pl = true from hp)); have hq5 := Lib.hid (pl_pair (show plainB qt qn ql = true from hq))
 obtain ⟨t0, t1⟩ := two_boxes2 w #[.int .i64 5, .int .i64 0, .slice (some ⟨b, off, none⟩) 2 sc] #[.bool false, .int .i64 0, .int .u64 0, .slice none 0 0, .slice none 0 0, .slice none 0 0] 25 45
 have T0 := Lib.hid t0; have T1 := Lib.hid t1
 have hB := Lib.hid (wbox w #[.int .i64 5, .int .i64 0, .slice (some ⟨b, off, none⟩) 2 sc] #[.bool false, .int .i64 0, .int .u64 0, .slice none 0 0, .slice none 0 0, .slice none 0 0] 25 45)
 have hsz : ((w.alloc (.cells #[.int .i64 5, .int .i64 0, .slice (some ⟨b, off, none⟩) 2 sc] 25)).alloc (.cells #[.bool false, .int .i64 0, .int .u64 0, .slice none 0 0, .slice none 0 0, .slice none 0 0] 45)).heap.size = w.heap.size + 1 + 1 := by simp
 have n1 : ¬ (w.heap.size + 1 = w.heap.size) := by omega
 have n2 : ¬ (w.heap.size + 1 = b) := by omega
 obtain ⟨W0, hW0⟩ : ∃ W, (w.alloc (.cells #[.int .i64 5, .int .i64 0, .slice (some ⟨b, off, none⟩) 2 sc] 25)).alloc (.cells #[.bool false, .int .i64 0, .int .u64 0, .slice none 0 0, .slice none 0 0, .slice none 0 0] 45) = W := ⟨_, rfl⟩
 rw [hW0] at hB T0 T1 hsz
 have HSZ := Lib.hid hsz
 have HP3 := Lib.hid (S3.below hp3 hB.out); have HQ3 := Lib.hid (S3.below hq3 hB.out)
 obtain ⟨x0, x1, x2⟩ := tri_cells T0.out
 obtain ⟨y0, y1, y2, y3, y4, y5⟩ := six_cells T1.out
 have EN : Hid (∀ W : World, Below W0.heap.size W0 W → W.cell? ⟨w.heap.size, 2, none⟩ = some (.slice (some ⟨b, off, none⟩) 2 sc) ∧ W.cell? ⟨b, off, none⟩ = some (.int .i64 pt) ∧ W.cell? ⟨b, off + 1, none⟩ = some (.int .i64 pn) ∧ W.cell? ⟨b, off + 2, none⟩ = some (.slice pa pl pc) ∧ W.cell? ⟨b, off + 3, none⟩ = some (.int .i64 qt) ∧ W.cell? ⟨b, off + 4, none⟩ = some (.int .i64 qn) ∧ W.cell? ⟨b, off + 5, none⟩ = some (.slice qa ql qc)) := fun W h => by
  obtain ⟨a0, a1, a2⟩ := tri_cells (heap_old T0.out h)
  obtain ⟨d0, d1, d2⟩ := HP3.out.below h; obtain ⟨e0, e1, e2⟩ := HQ3.out.below h
  exact ⟨a2, d0, d1, d2, e0, e1, e2⟩
 obtain ⟨m0, m1, m2, m3, m4, m5, m6⟩ := EN.out _ (Below.refl _ _)
 clear hsp hp hq hp3 hq3 t0 t1 hsz hb
 have D0 : Hid (Below W0.heap.size W0 W0.drew) := (Below.refl _ _).drew
 go_enter Try.func85, Try.ntmps85
 go_wp2_with fail
 go_region_held3 (fun w' => w'.cell? ⟨w.heap.size, 2, none⟩ = some (.slice (some ⟨b, off, none⟩) 2 sc) ∧ w'.cell? ⟨b, off, none⟩ = some (.int .i64 pt) ∧ w'.cell? ⟨b, off + 1, none⟩ = some (.int .i64 pn) ∧ w'.cell? ⟨b, off + 2, none⟩ = some (.slice pa pl pc) ∧ w'.cell? ⟨b, off + 3, none⟩ = some (.int .i64 qt) ∧ w'.cell? ⟨b, off + 4, none⟩ = some (.int .i64 qn) ∧ w'.cell? ⟨b, off + 5, none⟩ = some (.slice qa ql qc))
  (first | (simp only [World.cell?_setCell_far, ne_eq, n1, n2, not_false_eq_true]; with_reducible exact EN.out _ D3.out) | with_reducible exact EN.out _ D0.out | with_reducible exact EN.out _ D1.out | with_reducible exact EN.out _ D2.out | with_reducible exact EN.out _ D3.out | with_reducible exact EN.out _ (Below.refl _ _) | fail)
  (first | (go_at_call 85; with_reducible refine (zeroA_lit pt pn pa pl pc hp5.out W0.drew).mono ?_; rintro e z1 ⟨rfl, hz1⟩; have D1 := Lib.hid (D0.out.trans (hz1.mono D0.out.size))) | (go_at_call 85; with_reducible refine (zeroA_lit qt qn qa ql qc hq5.out z1).mono ?_; rintro e z2 ⟨rfl, hz2⟩; have D2 := Lib.hid (D1.out.trans (hz2.mono D1.out.size))) | (go_at_call 101; with_reducible refine (pair_zero z2).mono ?_; rintro e z3 ⟨blk, rfl, hx6, hy6, hge, hz3⟩; have D3 := Lib.hid (D2.out.trans (hz3.mono D2.out.size)); have XO := Lib.hid (heap_old T1.out D3.out); obtain ⟨o0, o1, o2, o3, o4, o5⟩ := six_cells XO.out; have f0 := six_frozen XO.out 0; have f1 := six_frozen XO.out 1; have f2 := six_frozen XO.out 2; have f3 := six_frozen XO.out 3; have f4 := six_frozen XO.out 4; have f5 := six_frozen XO.out 5) | fail)
 all_goals
  have NS := Lib.hid (six_set (v0 := .bool false) (v1 := .int .i64 0) (v2 := .int .u64 0) (v3 := .slice none 0 0) (v4 := .slice none 0 0) (v5 := .slice (some ⟨blk, 0, none⟩) 2 2) XO.out)
  obtain ⟨s0, s1, s2, s3, s4, s5⟩ := six_cells NS.out
  have hle := D2.out.size
  have hge2 : w.heap.size + 1 + 1 ≤ blk := by have := HSZ.out; omega
  have HX6 := Lib.hid hx6; have HY6 := Lib.hid hy6
  have HB3 := Lib.hid (hB.out.trans (D3.out.mono hB.out.size))
  clear hx6 hy6 f0 f1 f2 f3 f4 f5 o0 o1 o2 o3 o4 o5
  go_wp2_with fail
  refine bodyPost_ret (v := .agg #[.bool false, .int .i64 0, .int .u64 0, .slice none 0 0, .slice none 0 0, .slice (some ⟨blk, 0, none⟩) 2 2]) ?_ rfl ⟨pairF blk, rfl, ?_, ?_⟩
  rotate_left
  ·exact (pair_new (HX6.out.above (n := w.heap.size + 1 + 1) hge2 (put6_above _ _ _ _ _ _ (Above.refl _ _) (by omega))) (HY6.out.above (n := w.heap.size + 1 + 1) hge2 (put6_above _ _ _ _ _ _ (Above.refl _ _) (by omega))) hge2 (zero_new _ _ _ _) (zero_new _ _ _ _)).mono (by omega)
  ·exact put6_below _ _ _ _ _ _ HB3.out (by omega)
  ·simp [results, Try.results85, go_sem, s0, s1, s2, s3, s4, s5]
end Go.Proofs.Ytpkcaabbcoiiiaa
namespace Go.Proofs.Ytpkcaabbcoiiiaa
open Go Go.RowKit
theorem SIs.sin {w : World} {S : PS} {f : SF} (h : SIs w S f) (hok : S.ok) : ∃ s : SV, s.f = f ∧ SIn w 2 s ∧ spaceE s = 0 := by
 cases S with
 | one t n =>
  obtain ⟨a, c, rfl⟩ := h
  exact ⟨.mk ⟨t, n, a, 0, c⟩ [], rfl, ⟨rfl, .inl rfl, by simp⟩, by
   show (if plainB t n 0 = true then (0 : Int) else _) = 0
   rw [if_pos (show plainB t n 0 = true from hok)]⟩
 | two t n u m =>
  obtain ⟨b, off, c, a1, c1, a2, c2, rfl, h1, h2⟩ := h
  refine ⟨.mk ⟨5, 0, some ⟨b, off, none⟩, 2, c⟩ [.mk ⟨t, n, a1, 0, c1⟩ [], .mk ⟨u, m, a2, 0, c2⟩ []], rfl, ⟨rfl, .inr ⟨b, off, rfl, fun i p hi => ?_⟩, ?_⟩, ?_⟩
  ·match i, hi with
   | 0, hi => simp at hi; subst hi; simpa [SV.f] using h1
   | 1, hi => simp at hi; subst hi; simpa [SV.f] using h2
  ·intro p hp
   simp at hp
   rcases hp with rfl | rfl <;> exact ⟨rfl, .inl rfl, by simp⟩
  ·have e1 : SV.pl (.mk ⟨t, n, a1, 0, c1⟩ []) = true := hok.1
   have e2 : SV.pl (.mk ⟨u, m, a2, 0, c2⟩ []) = true := hok.2
   simp only [spaceE]
   rw [if_neg (by simp [plainB]), if_pos ⟨trivial, trivial, rfl, by simp [e1, e2]⟩]
section
variable {w : World} {S : PS} {sf : SF} {f g : WF} {x y : PX}
theorem sin_two {t n u m : Int} {b off sc : Nat} {a1 a2 : Option Addr} {c1 c2 : Nat} (h1 : S3 w b off ⟨t, n, a1, 0, c1⟩) (h2 : S3 w b (off + 3) ⟨u, m, a2, 0, c2⟩) : SIn w 2 (.mk ⟨5, 0, some ⟨b, off, none⟩, 2, sc⟩ [.mk ⟨t, n, a1, 0, c1⟩ [], .mk ⟨u, m, a2, 0, c2⟩ []]) := by
 refine ⟨rfl, .inr ⟨b, off, rfl, fun i p hi => ?_⟩, ?_⟩
 ·match i, hi with
  | 0, hi => simp at hi; subst hi; simpa [SV.f] using h1
  | 1, hi => simp at hi; subst hi; simpa [SV.f] using h2
 ·intro p hp
  simp at hp
  rcases hp with rfl | rfl <;> exact ⟨rfl, .inl rfl, by simp⟩
theorem spaceA_ok (hs : SIs w S sf) (hok : S.ok) : Calls Try.prog 56 #[sf.val] w fun e w' => e = .returned (.int .i64 0) ∧ Below w.heap.size w w' := by
 obtain ⟨s, rfl, h1, h2⟩ := hs.sin hok
 exact spaceA_is 2 s 0 w h1 h2
theorem oneA_ok (hs : SIs w S sf) (hok : S.ok) : Calls Try.prog 103 #[sf.val] w (WRet S (oneX S) w) := by
 cases S with
 | one t n =>
  obtain ⟨a, c, rfl⟩ := hs
  exact oneA_plain _ _ _ _ _ hok
 | two t n u m =>
  obtain ⟨b, off, c, a1, c1, a2, c2, rfl, h1, h2⟩ := hs
  exact oneA_pair _ _ _ _ _ _ _ _ _ _ _ _ h1 h2 hok.1 hok.2
theorem zeroA_ok (hs : SIs w S sf) (hok : S.ok) : Calls Try.prog 85 #[sf.val] w (WRet S (zeroX S) w) := by
 cases S with
 | one t n =>
  obtain ⟨a, c, rfl⟩ := hs
  refine (zeroA_plain t n a 0 c (pl_pair hok) w).mono ?_
  rintro e w' ⟨rfl, hb⟩
  exact ⟨zeroF, rfl, zero_new _ _ _ _, hb⟩
 | two t n u m =>
  obtain ⟨b, off, c, a1, c1, a2, c2, rfl, h1, h2⟩ := hs
  exact zeroA_pair 1 _ _ _ _ w (sin_two h1 h2) hok.1 hok.2
end
end Go.Proofs.Ytpkcaabbcoiiiaa
namespace Go.Proofs.Ytpkcaabbcoiiiaa
open Go Go.RowKit
section
variable {w : World} {S : PS} {sf : SF} {f g : WF} {x y : PX}
end
def WRet2 (S : PS) (x : PX) (e0 : Int) (w : World) (e : Ending) (w' : World) : Prop := ∃ f : WF, e = .returned (.tuple #[f.val, .int .i64 e0]) ∧ XNew w.heap.size w' S f x ∧ Below w.heap.size w w'
end Go.Proofs.Ytpkcaabbcoiiiaa
namespace Go.Proofs.Ytpkcaabbcoiiiaa
open Go Go.RowKit
theorem OneW_ok (S : PS) (sf : SF) (w : World) (hs : SIs w S sf) (hok : S.ok) :
  Calls Try.prog 87 #[sf.val] w (WRet2 S (oneX S) 0 w) := by
 refine enterF (args := [sf.val]) Try.func87 rfl Try.ntmps87 rfl ?_
 have hS := St.start w
 refine seqF (regF ?_)
 refine op_box (cs := [_, _, _]) hS rfl rfl rfl ?_
 clear hS; intro B1 W1 hS
 refine op_alloc (cs := [_, _, _, _, _, _]) hS Try.zeroValue45 rfl rfl ?_
 clear hS; intro B2 W2 hS
 refine op_assign rfl rfl ?_
 refine endF (XF.thenN ?_)
 refine seqF ?_
 refine seqF (regF ?_)
 refine op_loadA (vs := [_, _, _]) Try.isAgg25 Try.sizeOf25 rfl (CellsAt.own (j := 0) (m := 3) (hS.at_ 1 rfl) rfl) rfl ?_
 refine op_call (vs := [_]) hS goes_56 rfl (spaceA_ok (hs.below hS.below) hok) rfl ?_
 rintro e W3 ⟨rfl, hb⟩
 refine ⟨_, rfl, hb, fun hS' => ?_⟩
 clear hS; have hS := hS'; clear hS' hb
 refine op_assign rfl rfl ?_
 refine endF (XF.thenN ?_)
 refine seqF (regF ?_)
 refine op_move rfl rfl ?_
 refine op_neq rfl rfl rfl ?_
 refine endF (XF.thenN ?_)
 refine condF rfl (fun hc => absurd (of_decide_eq_true hc) (by omega)) (fun hc => ?_)
 have hc := of_decide_eq_false hc
 refine skipF ?_
 refine XF.thenN ?_
 refine seqF (regF ?_)
 refine op_loadA (vs := [_, _, _]) Try.isAgg25 Try.sizeOf25 rfl (CellsAt.own (j := 0) (m := 3) (hS.at_ 1 rfl) rfl) rfl ?_
 have hsz := hS.below.size
 refine op_call (vs := [_]) hS goes_103 rfl (oneA_ok (hs.below hS.below) hok) rfl ?_
 rintro e W4 ⟨f, rfl, hn, hb⟩
 refine ⟨_, rfl, hb, fun hS' => ?_⟩
 clear hS; have hS := hS'; clear hS'
 refine op_storeA (i := 0) (vs := [_, _, _, _, _, _]) (cs' := [_, _, _, _, _, _]) (O' := [_, _]) hS Try.sizeOf45 rfl rfl rfl rfl rfl rfl rfl ?_
 clear hS; intro W5 hS
 refine op_assign rfl rfl ?_
 refine endF (XF.thenN ?_)
 refine retF ?_
 refine XF.res (resCT (vs := [_, _, _, _, _, _]) Try.results87 Try.isAgg45 Try.sizeOf45 rfl (CellsAt.own (j := 0) (m := 6) (hS.at_ 0 rfl) rfl) rfl) ?_
 exact ⟨f, rfl, (hn.agree (hS.since 0 rfl)).mono hsz, hS.below⟩
theorem ZeroW_ok (S : PS) (sf : SF) (w : World) (hs : SIs w S sf) (hok : S.ok) :
  Calls Try.prog 59 #[sf.val] w (WRet2 S (zeroX S) 0 w) := by
 refine enterF (args := [sf.val]) Try.func59 rfl Try.ntmps59 rfl ?_
 have hS := St.start w
 refine seqF (regF ?_)
 refine op_box (cs := [_, _, _]) hS rfl rfl rfl ?_
 clear hS; intro B1 W1 hS
 refine op_alloc (cs := [_, _, _, _, _, _]) hS Try.zeroValue45 rfl rfl ?_
 clear hS; intro B2 W2 hS
 refine op_assign rfl rfl ?_
 refine endF (XF.thenN ?_)
 refine seqF ?_
 refine seqF (regF ?_)
 refine op_loadA (vs := [_, _, _]) Try.isAgg25 Try.sizeOf25 rfl (CellsAt.own (j := 0) (m := 3) (hS.at_ 1 rfl) rfl) rfl ?_
 refine op_call (vs := [_]) hS goes_56 rfl (spaceA_ok (hs.below hS.below) hok) rfl ?_
 rintro e W3 ⟨rfl, hb⟩
 refine ⟨_, rfl, hb, fun hS' => ?_⟩
 clear hS; have hS := hS'; clear hS' hb
 refine op_assign rfl rfl ?_
 refine endF (XF.thenN ?_)
 refine seqF (regF ?_)
 refine op_move rfl rfl ?_
 refine op_neq rfl rfl rfl ?_
 refine endF (XF.thenN ?_)
 refine condF rfl (fun hc => absurd (of_decide_eq_true hc) (by omega)) (fun hc => ?_)
 have hc := of_decide_eq_false hc
 refine skipF ?_
 refine XF.thenN ?_
 refine seqF (regF ?_)
 refine op_loadA (vs := [_, _, _]) Try.isAgg25 Try.sizeOf25 rfl (CellsAt.own (j := 0) (m := 3) (hS.at_ 1 rfl) rfl) rfl ?_
 have hsz := hS.below.size
 refine op_call (vs := [_]) hS goes_85 rfl (zeroA_ok (hs.below hS.below) hok) rfl ?_
 rintro e W4 ⟨f, rfl, hn, hb⟩
 refine ⟨_, rfl, hb, fun hS' => ?_⟩
 clear hS; have hS := hS'; clear hS'
 refine op_storeA (i := 0) (vs := [_, _, _, _, _, _]) (cs' := [_, _, _, _, _, _]) (O' := [_, _]) hS Try.sizeOf45 rfl rfl rfl rfl rfl rfl rfl ?_
 clear hS; intro W5 hS
 refine op_assign rfl rfl ?_
 refine endF (XF.thenN ?_)
 refine retF ?_
 refine XF.res (resCT (vs := [_, _, _, _, _, _]) Try.results59 Try.isAgg45 Try.sizeOf45 rfl (CellsAt.own (j := 0) (m := 6) (hS.at_ 0 rfl) rfl) rfl) ?_
 exact ⟨f, rfl, (hn.agree (hS.since 0 rfl)).mono hsz, hS.below⟩
end Go.Proofs.Ytpkcaabbcoiiiaa
namespace Go.Proofs.Ytpkcaabbcoiiiaa
open Go Go.RowKit
def smS : Nat → SV → Bool
 | 0, _ => false
 | k + 1, .mk f ps => decide (f.len ≤ 3) && ps.all (smS k)
theorem all_false_at {α : Type} {l : List α} {q : α → Bool} {i : Nat} {x : α} (h : l[i]? = some x) (hq : q x = false) : l.all q = false := by
 rw [List.all_eq_false]; exact ⟨x, List.mem_of_getElem? h, by rw [hq]; decide⟩
theorem all_take_at {α : Type} {l : List α} {q : α → Bool} {i : Nat} {x : α} (h : l[i]? = some x) (ha : (l.take i).all q = true) (hq : q x = true) : (l.take (i + 1)).all q = true := by
 rw [List.take_add_one, h]; simp [ha, hq]
def okW (s : SV) (x : WV) : Bool := if plainB s.f.tag s.f.dim s.f.len = true then pwOk s.f.tag s.f.dim x.f else match s.ps with | [p, q] => pairOk p q x.f x.ps | _ => false
def chkW (s : SV) (x : WV) : Int := if spaceE s = 0 then (if okW s x = true then 0 else 51) else spaceE s
end Go.Proofs.Ytpkcaabbcoiiiaa
namespace Go.Proofs.Ytpkcaabbcoiiiaa
open Go.RowKit
set_option linter.unusedSimpArgs false
def pc : Nat → Nat → Nat
 | 0, _ => 0
 | n + 1, f => pc n f + (if f.testBit n then 1 else 0)
end Go.Proofs.Ytpkcaabbcoiiiaa
namespace Go.Proofs.Ytpkcaabbcoiiiaa
open Go Go.RowKit
theorem run_callV (P : Program) (ev : Operand → Value) (w : World) (x : Operand) (f : FuncId) (args : Array Operand) (ts : Array TypeId) (o : Oper) (h : o.op = .call { callee := .value x, args := args, argTypes := ts }) (hf : ev x = .func (.func f) #[] #[]) (hb : goesIn P f = true) : (execOp ev o).run P w = .ok (.enter f (args.map ev)) w := by
 unfold goesIn at hb
 cases hx : P.funcs[f]? with
 | none => rw [hx] at hb; cases hb
 | some fn =>
  rw [hx] at hb
  simp only [Bool.and_eq_true, Bool.not_eq_true', beq_eq_false_iff_ne, ne_eq] at hb
  obtain ⟨c, hc⟩ := Option.isSome_iff_exists.1 hb.1
  unfold execOp; simp only [h]; simp [go_sem, resolve, hf, callFunc, hx, hc, hb.2]
section
variable {P : Program} {n : Nat} {Q : Exit → Act → World → Prop} {l : Fr} {w0 W : World} {ops : Array Oper} {os : List Oper} {O : Own} {G : Grows} {K : List (Nat × World)} {d : Nat} {ty : TypeId} {pos : String} {aft : Array Edge}
theorem op_callV {x : Operand} {f : FuncId} {args : Array Operand} {ts : Array TypeId} {vs : List Value} {R : Ending → World → Prop} (hS : St w0 O G K W) (hx : evL l x = some (.func (.func f) #[] #[])) (hgo : goesIn P f = true) (ha : args.toList.map (evL l) = vs.map some) (hc : Calls P f vs.toArray W R)
  (hd : Nat.blt d n = true)
  (h : ∀ e W', R e W' → ∃ v, e = .returned v ∧ Below W.heap.size W W' ∧ (St w0 O G ((W.heap.size, W') :: K) W' → OpsF P n ops Q os ((d, v) :: l) W')) : OpsF P n ops Q (⟨some d, .call { callee := .value x, args := args, argTypes := ts }, ty, pos, aft, none⟩ :: os) l W := fun a hl => by
 refine wpList_plain rfl fun K' hK => ?_
 unfold Oper.wp
 rw [run_callV P a.eval W x f args ts _ rfl (hl.ev x _ hx) hgo, Oper.upon_enter]
 have hargs : args.map a.eval = vs.toArray := by
  have key : ∀ (xs : List Operand) (us : List Value), xs.map (evL l) = us.map some → xs.map a.eval = us := by
   intro xs
   induction xs with
   | nil => intro us h; cases us <;> simp at h ⊢
   | cons x xs ih =>
    intro us h
    cases us with
    | nil => simp at h
    | cons u us =>
     simp only [List.map_cons, List.cons.injEq] at h
     simp only [List.map_cons, hl.ev x u h.1, ih us h.2]
  apply Array.ext'
  rw [Array.toList_map, key _ _ ha]
 rw [hargs]
 refine hc.mono ?_
 intro e W' hRe
 obtain ⟨v, rfl, hb, hn⟩ := h e W' hRe
 exact hK _ _ (hn (hS.call hb) _ (hl.put hd))
end
end Go.Proofs.Ytpkcaabbcoiiiaa
