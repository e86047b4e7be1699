/-
  THE COST LAYER: two; the statements CostChecks, CostSemiring, CostOrder as walks; the algebra of costs.
-/
import Derived.Test.YtccmgbbpihaapaaDoorCostLaws
namespace Go.Proofs.YtccmgbbpihaapaaDoor
open Go.RowKit
set_option linter.unusedVariables false

theorem row_three (W : World) (T : Nat) (n : Nat) (a b c : Int) (h : n = W.heap.size) : Row (W.alloc (.cells #[.int .i64 a, .int .i64 b, .int .i64 c] T)) (some ⟨n, 0, none⟩) [a, b, c] := by
  subst h
  refine .inr ⟨_, 0, rfl, fun i hi => ?_⟩
  match i, hi with
  | 0, _ => simp [World.cell?_alloc_new]
  | 1, _ => simp [World.cell?_alloc_new]
  | 2, _ => simp [World.cell?_alloc_new]
theorem ckR1 (limit a : Int) (n : Nat) (W : World) (T : Nat) (h : n = W.heap.size) (c : Int) (hc : chk limit [a] = c) :
    Calls Tryd.prog 48 #[.int .i64 limit, .slice (some ⟨n, 0, none⟩) 1 1] (W.alloc (.cells #[.int .i64 a] T)) fun e w' => e = .returned (.int .i64 c) ∧ (W.alloc (.cells #[.int .i64 a] T)) = w' := by
  subst hc
  exact check_any limit _ 1 [a] _ (by simp [maxLen]) (row_one _ _ _ _ h)
theorem ckR3 (limit a b d : Int) (n : Nat) (W : World) (T : Nat) (h : n = W.heap.size) (c : Int) (hc : chk limit [a, b, d] = c) :
    Calls Tryd.prog 48 #[.int .i64 limit, .slice (some ⟨n, 0, none⟩) 3 3] (W.alloc (.cells #[.int .i64 a, .int .i64 b, .int .i64 d] T)) fun e w' => e = .returned (.int .i64 c) ∧ (W.alloc (.cells #[.int .i64 a, .int .i64 b, .int .i64 d] T)) = w' := by
  subst hc
  exact check_any limit _ 3 [a, b, d] _ (by simp [maxLen]) (row_three _ _ _ _ _ _ h)

theorem atMost_is (limit a b : Int) (w : World) (m : Bool) (c : Int) (hm : atMostR limit a b = m) (hc : chk limit [a, b] = c) : Calls Tryd.prog 43 #[.int .i64 limit, .int .i64 a, .int .i64 b] w fun e w' => e = .returned (.tuple #[.bool m, .int .i64 c]) ∧ Below w.heap.size w w' := by
  subst hm; subst hc; exact atMost_any _ _ _ _
theorem atMostRef_is (limit a b : Int) (w : World) (m : Bool) (c : Int) (hm : atMostR limit a b = m) (hc : chk limit [a, b] = c) : Calls Tryd.prog 44 #[.int .i64 limit, .int .i64 a, .int .i64 b] w fun e w' => e = .returned (.tuple #[.bool m, .int .i64 c]) ∧ Below w.heap.size w w' := by
  subst hm; subst hc; exact atMostRef_any _ _ _ _
theorem height_is (limit : Int) (w : World) (h c : Int) (hh : heightR limit = h) (hc : chk limit [] = c) : Calls Tryd.prog 45 #[.int .i64 limit] w fun e w' => e = .returned (.tuple #[.int .i64 h, .int .i64 c]) ∧ w = w' := by
  subst hh; subst hc; exact height_any _ _
theorem heightRef_is (limit : Int) (w : World) (h c : Int) (hh : heightR limit = h) (hc : chk limit [] = c) : Calls Tryd.prog 46 #[.int .i64 limit] w fun e w' => e = .returned (.tuple #[.int .i64 h, .int .i64 c]) ∧ w = w' := by
  subst hh; subst hc; exact heightRef_any _ _
theorem check1_is (limit a : Int) (w : World) (c : Int) (hc : chk limit [a] = c) : Calls Tryd.prog 47 #[.int .i64 limit, .int .i64 a] w fun e w' => e = .returned (.int .i64 c) ∧ Below w.heap.size w w' := by
  subst hc; exact check1_any _ _ _

/-- CostChecks returns true. -/
theorem costChecks_walk (limit a b : Int) (w : World) (wl : (Lit.int .i64 limit).wf = true) (wa : (Lit.int .i64 a).wf = true) (wb : (Lit.int .i64 b).wf = true) :
    Calls Tryd.prog 10 #[.int .i64 limit, .int .i64 a, .int .i64 b] w fun e w' => e = .returned (.bool true) ∧ Below w.heap.size w w' := by
  clear wl wa wb
  obtain ⟨m, hm⟩ : ∃ x, atMostR limit a b = x := ⟨_, rfl⟩
  obtain ⟨c, hc⟩ : ∃ x, chk limit [a, b] = x := ⟨_, rfl⟩
  obtain ⟨h, hh⟩ : ∃ x, heightR limit = x := ⟨_, rfl⟩
  obtain ⟨c0, hc0⟩ : ∃ x, chk limit [] = x := ⟨_, rfl⟩
  obtain ⟨c1, hc1⟩ : ∃ x, chk limit [a] = x := ⟨_, rfl⟩
  have HM := Lib.hid hm; have HC := Lib.hid hc; have HH := Lib.hid hh; have HC0 := Lib.hid hc0; have HC1 := Lib.hid hc1
  clear hm hc hh hc0 hc1
  go_enter Tryd.func10, Tryd.ntmps10
  go_wp2_with fail
  refine (atMost_is _ _ _ _ m c HM.out HC.out).mono ?_
  rintro e w1 ⟨rfl, hb1⟩
  go_wp2_with fail
  refine (atMostRef_is _ _ _ _ m c HM.out HC.out).mono ?_
  rintro e w2 ⟨rfl, hb2⟩
  go_wp2_with fail
  refine (height_is _ _ h c0 HH.out HC0.out).mono ?_
  rintro e w3 ⟨rfl, rfl⟩
  go_wp2_with fail
  refine (heightRef_is _ _ h c0 HH.out HC0.out).mono ?_
  rintro e w3 ⟨rfl, rfl⟩
  go_wp2_with fail
  refine (check1_is _ _ _ c1 HC1.out).mono ?_
  rintro e w3 ⟨rfl, hb3⟩
  go_wp2_with fail
  refine (ckR1 _ _ _ _ _ (by simp) c1 HC1.out).mono ?_
  rintro e w4 ⟨rfl, rfl⟩
  go_wp2_with (go_at_call 42; refine (awake_any _).mono ?_; rintro e w5 ⟨rfl, hb5⟩)
  go_ret
  exact ⟨rfl, ((hb1.trans (hb2.mono hb1.size)).trans (hb3.mono (by have := hb1.size; have := hb2.size; omega))).trans (((Below.refl _ _).alloc (by have := hb1.size; have := hb2.size; have := hb3.size; omega) _).trans (hb5.mono (by have := hb1.size; have := hb2.size; have := hb3.size; simp; omega)))⟩

/-! the algebra -/
theorem least_two {limit a b : Int} (h : chk limit [a, b] = 0) : leastR limit [a, b] = lesser a b := by
  have h3 : lesser (-1) a = a := by simp [lesser]
  simp [leastR, h, leastOf, h3]
theorem sum_two {limit a b : Int} (h : chk limit [a, b] = 0) : sumR limit [a, b] = added limit a b := by
  have h2 := (chk_zero h).2.2
  simp [okc] at h2
  have h3 : added limit 0 a = a := by unfold added; split <;> omega
  simp [sumR, h, sumOf, h3]
theorem chk2_iff {limit a b : Int} : chk limit [a, b] = 0 ↔ (0 ≤ limit ∧ limit ≤ 1048576 ∧ (-1 ≤ a ∧ a ≤ limit) ∧ (-1 ≤ b ∧ b ≤ limit)) := by
  constructor
  · intro h
    have := chk_zero h
    simp [okc] at this
    omega
  · intro h
    have : [a, b].all (okc limit) = true := by simp [okc]; omega
    simp only [chk, this]
    rw [if_neg (by omega)]; rfl
theorem chk3_iff {limit a b c : Int} : chk limit [a, b, c] = 0 ↔ (0 ≤ limit ∧ limit ≤ 1048576 ∧ (-1 ≤ a ∧ a ≤ limit) ∧ (-1 ≤ b ∧ b ≤ limit) ∧ (-1 ≤ c ∧ c ≤ limit)) := by
  constructor
  · intro h
    have := chk_zero h
    simp [okc] at this
    omega
  · intro h
    have : [a, b, c].all (okc limit) = true := by simp [okc]; omega
    simp only [chk, this]
    rw [if_neg (by omega)]; rfl

theorem two_is (limit a b : Int) (w : World) (x y c : Int) (hx : leastR limit [a, b] = x) (hy : sumR limit [a, b] = y) (hc : chk limit [a, b] = c) :
    Calls Tryd.prog 53 #[.int .i64 limit, .int .i64 a, .int .i64 b] w fun e w' => e = .returned (.tuple #[.int .i64 x, .int .i64 y, .int .i64 c]) ∧ Below w.heap.size w w' := by
  have HX := Lib.hid hx; have HY := Lib.hid hy; have HC := Lib.hid hc
  by_cases h0 : c = 0
  · clear hx hy hc
    subst h0
    go_enter Tryd.func53, Tryd.ntmps53
    go_wp2_with fail
    refine (least2_any _ _ _ _ _ _ (by simp) x 0 HX.out HC.out).mono ?_
    rintro e w1 ⟨rfl, rfl⟩
    go_wp2_with fail
    refine (sum2_any _ _ _ _ _ _ (by simp) y 0 HY.out HC.out).mono ?_
    rintro e w1 ⟨rfl, rfl⟩
    go_wp2
    go_ret3
    exact ⟨rfl, ((Below.refl _ _).alloc (Nat.le_refl _) _).alloc (by simp) _⟩
  · have e1 : x = 0 := by rw [← hx]; simp [leastR, hc, h0]
    have e2 : y = 0 := by rw [← hy]; simp [sumR, hc, h0]
    clear hx hy hc
    subst e1; subst e2
    have hne : (c != 0) = true := by simpa using h0
    clear h0
    go_enter Tryd.func53, Tryd.ntmps53
    go_wp2_with fail
    refine (least2_any _ _ _ _ _ _ (by simp) 0 c HX.out HC.out).mono ?_
    rintro e w1 ⟨rfl, rfl⟩
    go_wp2_with fail
    refine (sum2_any _ _ _ _ _ _ (by simp) 0 c HY.out HC.out).mono ?_
    rintro e w1 ⟨rfl, rfl⟩
    go_wp2
    go_ret3
    exact ⟨rfl, ((Below.refl _ _).alloc (Nat.le_refl _) _).alloc (by simp) _⟩

/-- Numbers that are costs under a cap that is one. -/
def In (l c : Int) : Prop := 0 ≤ l ∧ l ≤ 1048576 ∧ -1 ≤ c ∧ c ≤ l
theorem two_in (limit a b : Int) (w : World) (x y : Int) (ha : Hid (In limit a)) (hb : Hid (In limit b)) (hx : lesser a b = x) (hy : added limit a b = y) :
    Calls Tryd.prog 53 #[.int .i64 limit, .int .i64 a, .int .i64 b] w fun e w' => e = .returned (.tuple #[.int .i64 x, .int .i64 y, .int .i64 0]) ∧ Below w.heap.size w w' := by
  have ha := ha.out; have hb := hb.out
  unfold In at ha hb
  have h0 : chk limit [a, b] = 0 := chk2_iff.2 (by omega)
  exact two_is _ _ _ _ x y 0 ((least_two h0).trans hx) ((sum_two h0).trans hy) h0
theorem in_lesser {l a b : Int} (ha : In l a) (hb : In l b) : In l (lesser a b) := by
  unfold In at *; unfold lesser; split
  · omega
  · split <;> omega
theorem in_added {l a b : Int} (ha : In l a) (hb : In l b) : In l (added l a b) := by
  unfold In at *; unfold added; split <;> omega
theorem lesser_comm (a b : Int) : lesser b a = lesser a b := by unfold lesser; split <;> split <;> omega
theorem added_comm (l a b : Int) : added l b a = added l a b := by unfold added; split <;> split <;> omega
theorem lesser_assoc (l a b c : Int) (ha : In l a) (hb : In l b) (hc : In l c) : lesser a (lesser b c) = lesser (lesser a b) c := by
  unfold In at *; unfold lesser; repeat' split
  all_goals omega
theorem added_assoc (l a b c : Int) (ha : In l a) (hb : In l b) (hc : In l c) : added l a (added l b c) = added l (added l a b) c := by
  unfold In at *; unfold added; repeat' split
  all_goals omega
theorem added_over (l a b c : Int) (ha : In l a) (hb : In l b) (hc : In l c) : lesser (added l a b) (added l a c) = added l a (lesser b c) := by
  unfold In at *; unfold added lesser; repeat' split
  all_goals omega
end Go.Proofs.YtccmgbbpihaapaaDoor
