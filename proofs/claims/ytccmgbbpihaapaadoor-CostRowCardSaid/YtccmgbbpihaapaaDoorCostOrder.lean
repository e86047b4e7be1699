/-
  THE COST LAYER: the statement CostOrder as a walk.
-/
import Derived.Test.YtccmgbbpihaapaaDoorCostRing
namespace Go.Proofs.YtccmgbbpihaapaaDoor
open Go.RowKit
set_option linter.unusedVariables false

theorem atMost_of {limit a b : Int} (ha : In limit a) (hb : In limit b) : atMostR limit a b = atMost a b ∧ chk limit [a, b] = 0 := by
  unfold In at *
  have h : chk limit [a, b] = 0 := chk2_iff.2 (by omega)
  exact ⟨by simp [atMostR, h], h⟩
theorem atMost_iff {a b : Int} : atMost a b = true ↔ (a = -1 → b = -1) ∧ (a ≠ -1 → b = -1 ∨ a ≤ b) := by
  unfold atMost lesser
  rw [beq_iff_eq]
  split
  · omega
  · split <;> omega
theorem added_cases (l a b : Int) : (added l a b = -1 ∧ (a = -1 ∨ b = -1)) ∨ (a ≠ -1 ∧ b ≠ -1 ∧ added l a b = min (a + b) l) := by
  unfold added; split
  · exact .inl ⟨rfl, by assumption⟩
  · exact .inr ⟨by omega, by omega, rfl⟩
theorem atMost_in (limit a b : Int) (w : World) (m : Bool) (ha : Hid (In limit a)) (hb : Hid (In limit b)) (hm : atMost a b = m) :
    Calls Tryd.prog 43 #[.int .i64 limit, .int .i64 a, .int .i64 b] w fun e w' => e = .returned (.tuple #[.bool m, .int .i64 0]) ∧ Below w.heap.size w w' := by
  have h := atMost_of ha.out hb.out
  exact atMost_is _ _ _ _ m 0 (h.1.trans hm) h.2

set_option maxRecDepth 100000 in
set_option maxHeartbeats 4000000 in
theorem costOrder_ok (limit a b c : Int) (w : World) (ha : Hid (In limit a)) (hb : Hid (In limit b)) (hc : Hid (In limit c)) :
    Calls Tryd.prog 13 #[.int .i64 limit, .int .i64 a, .int .i64 b, .int .i64 c] w fun e w' => e = .returned (.bool true) ∧ Below w.heap.size w w' := by
  have hn : Hid (In limit (-1)) := by have := ha.out; unfold In at this; show In _ _; unfold In; omega
  obtain ⟨x, hx⟩ : ∃ x, atMost a b = x := ⟨_, rfl⟩
  obtain ⟨y, hy⟩ : ∃ x, atMost b a = x := ⟨_, rfl⟩
  obtain ⟨z, hz⟩ : ∃ x, atMost b c = x := ⟨_, rfl⟩
  obtain ⟨t, ht⟩ : ∃ x, atMost a c = x := ⟨_, rfl⟩
  obtain ⟨p, hp⟩ : ∃ x, added limit a c = x := ⟨_, rfl⟩
  obtain ⟨q, hq⟩ : ∃ x, added limit b c = x := ⟨_, rfl⟩
  obtain ⟨p0, hp0⟩ : ∃ x, lesser a c = x := ⟨_, rfl⟩
  obtain ⟨q0, hq0⟩ : ∃ x, lesser b c = x := ⟨_, rfl⟩
  obtain ⟨m, hm⟩ : ∃ x, atMost p q = x := ⟨_, rfl⟩
  have ia := ha.out; have ib := hb.out; have ic := hc.out
  have hip : Hid (In limit p) := by rw [← hp]; exact in_added ia ic
  have hiq : Hid (In limit q) := by rw [← hq]; exact in_added ib ic
  have htop : Hid (atMost a (-1) = true) := by show _ = _; rw [atMost_iff]; omega
  have hcase : (x = true ∧ y = true ∧ (a != b) = false ∧ z = false ∧ m = true) ∨ (x = true ∧ y = true ∧ (a != b) = false ∧ z = true ∧ t = true ∧ m = true) ∨ (x = true ∧ y = false ∧ z = true ∧ t = true ∧ m = true) ∨ (x = true ∧ y = false ∧ z = false ∧ m = true) ∨ (x = false ∧ y = true) := by
    unfold In at *
    have X := atMost_iff (a := a) (b := b); have Y := atMost_iff (a := b) (b := a); have Z := atMost_iff (a := b) (b := c); have T := atMost_iff (a := a) (b := c)
    have M : x = true → m = true := by
      intro h1
      rw [← hm, atMost_iff, ← hp, ← hq]
      rw [h1] at hx
      rw [hx] at X
      have X' := X.1 rfl
      rcases added_cases limit a c with ⟨e1, d1⟩ | ⟨d1, d2, e1⟩ <;> rcases added_cases limit b c with ⟨e2, d3⟩ | ⟨d3, d4, e2⟩ <;> rw [e1, e2] <;> omega
    rw [hx] at X; rw [hy] at Y; rw [hz] at Z; rw [ht] at T
    cases x <;> cases y <;> cases z <;> cases t <;> simp at X Y Z T M ⊢ <;> (try exact M) <;> (try omega)
    all_goals (try (refine ⟨?_, M⟩)); all_goals (try omega)
  have HX := Lib.hid hx; have HY := Lib.hid hy; have HZ := Lib.hid hz; have HT := Lib.hid ht; have HP := Lib.hid hp; have HQ := Lib.hid hq
  have HP0 := Lib.hid hp0; have HQ0 := Lib.hid hq0; have HM := Lib.hid hm
  clear hx hy hz ht hp hq hp0 hq0 hm ia ib ic
  rcases hcase with ⟨rfl, rfl, g, rfl, rfl⟩ | ⟨rfl, rfl, g, rfl, rfl, rfl⟩ | ⟨rfl, rfl, rfl, rfl, rfl⟩ | ⟨rfl, rfl, rfl, rfl⟩ | ⟨rfl, rfl⟩
  all_goals
    go_enter Tryd.func13, Tryd.ntmps13
    go_wp2_with fail
    refine (awake_any _).mono ?_
    rintro e w1 ⟨rfl, b1⟩
    go_wp2_with fail
    refine (atMost_in _ a b _ _ ha hb HX.out).mono ?_
    rintro e w2 ⟨rfl, b2⟩; have b2 := Below.next b1 b2; clear b1
    go_wp2_with fail
    refine (atMost_in _ b a _ _ hb ha HY.out).mono ?_
    rintro e w3 ⟨rfl, b3⟩; have b3 := Below.next b2 b3; clear b2
    go_wp2_with fail
    refine (atMost_in _ b c _ _ hb hc HZ.out).mono ?_
    rintro e w4 ⟨rfl, b4⟩; have b4 := Below.next b3 b4; clear b3
    go_wp2_with fail
    refine (atMost_in _ a c _ _ ha hc HT.out).mono ?_
    rintro e w5 ⟨rfl, b5⟩; have b5 := Below.next b4 b5; clear b4
    (first | cases z | skip)
    all_goals (first | cases t | skip)
    all_goals
      go_wp2_with fail
      refine (two_in _ a c _ p0 p ha hc HP0.out HP.out).mono ?_
      rintro e w6 ⟨rfl, b6⟩; have b6 := Below.next b5 b6; clear b5
      go_wp2_with fail
      refine (two_in _ b c _ q0 q hb hc HQ0.out HQ.out).mono ?_
      rintro e w7 ⟨rfl, b7⟩; have b7 := Below.next b6 b7; clear b6
      go_wp2_with fail
      refine (atMost_in _ p q _ _ hip hiq HM.out).mono ?_
      rintro e w8 ⟨rfl, b8⟩; have b8 := Below.next b7 b8; clear b7
      go_wp2_with fail
      refine (atMost_in _ a (-1) _ true ha hn htop.out).mono ?_
      rintro e w9 ⟨rfl, b9⟩; have b9 := Below.next b8 b9; clear b8
      go_wp2
      go_ret
      exact ⟨rfl, b9⟩

set_option maxRecDepth 100000 in
set_option maxHeartbeats 1000000 in
theorem costOrder_walk (limit a b c : Int) (w : World) (wl : (Lit.int .i64 limit).wf = true) (wa : (Lit.int .i64 a).wf = true) (wb : (Lit.int .i64 b).wf = true) (wc : (Lit.int .i64 c).wf = true) :
    Calls Tryd.prog 13 #[.int .i64 limit, .int .i64 a, .int .i64 b, .int .i64 c] w fun e w' => e = .returned (.bool true) ∧ Below w.heap.size w w' := by
  clear wl wa wb wc
  by_cases h3 : chk limit [a, b, c] = 0
  · have := chk3_iff.1 h3
    exact costOrder_ok limit a b c w (by show In _ _; unfold In; omega) (by show In _ _; unfold In; omega) (by show In _ _; unfold In; omega)
  obtain ⟨d3, hd3⟩ : ∃ x, chk limit [a, b, c] = x := ⟨_, rfl⟩
  have hne : (d3 != 0) = true := by rw [← hd3]; simpa using h3
  have HD := Lib.hid hd3
  obtain ⟨x1, h1⟩ : ∃ x, atMostR limit a b = x := ⟨_, rfl⟩
  obtain ⟨c1, l1⟩ : ∃ x, chk limit [a, b] = x := ⟨_, rfl⟩
  obtain ⟨x2, h2⟩ : ∃ x, atMostR limit b a = x := ⟨_, rfl⟩
  obtain ⟨c2, l2⟩ : ∃ x, chk limit [b, a] = x := ⟨_, rfl⟩
  obtain ⟨x4, h4⟩ : ∃ x, atMostR limit b c = x := ⟨_, rfl⟩
  obtain ⟨c4, l4⟩ : ∃ x, chk limit [b, c] = x := ⟨_, rfl⟩
  obtain ⟨x5, h5⟩ : ∃ x, atMostR limit a c = x := ⟨_, rfl⟩
  obtain ⟨c5, l5⟩ : ∃ x, chk limit [a, c] = x := ⟨_, rfl⟩
  have hor : (c1 != 0) = true ∨ ((c1 != 0) = false ∧ (c2 != 0) = true) ∨ ((c1 != 0) = false ∧ (c2 != 0) = false ∧ (c4 != 0) = true) ∨ ((c1 != 0) = false ∧ (c2 != 0) = false ∧ (c4 != 0) = false ∧ (c5 != 0) = true) := by
    have : ¬ (c1 = 0 ∧ c2 = 0 ∧ c4 = 0 ∧ c5 = 0) := by
      rintro ⟨e1, e2, e4, e5⟩
      rw [← l1, chk2_iff] at e1; rw [← l4, chk2_iff] at e4
      exact h3 (chk3_iff.2 (by omega))
    by_cases e1 : c1 = 0 <;> by_cases e2 : c2 = 0 <;> by_cases e4 : c4 = 0 <;> by_cases e5 : c5 = 0 <;> simp_all
  have H1 := Lib.hid h1; have L1 := Lib.hid l1; have H2 := Lib.hid h2; have L2 := Lib.hid l2
  have H4 := Lib.hid h4; have L4 := Lib.hid l4; have H5 := Lib.hid h5; have L5 := Lib.hid l5
  clear h1 l1 h2 l2 h4 l4 h5 l5 hd3 h3
  rcases hor with t1 | ⟨t1, t2⟩ | ⟨t1, t2, t4⟩ | ⟨t1, t2, t4, t5⟩
  all_goals
    go_enter Tryd.func13, Tryd.ntmps13
    go_wp2_with fail
    refine (awake_any _).mono ?_
    rintro e w1 ⟨rfl, b1⟩
    go_wp2_with fail
    refine (atMost_is _ a b _ x1 c1 H1.out L1.out).mono ?_
    rintro e w2 ⟨rfl, b2⟩; have b2 := Below.next b1 b2; clear b1
    go_wp2_with fail
    refine (atMost_is _ b a _ x2 c2 H2.out L2.out).mono ?_
    rintro e w3 ⟨rfl, b3⟩; have b3 := Below.next b2 b3; clear b2
    go_wp2_with fail
    refine (atMost_is _ b c _ x4 c4 H4.out L4.out).mono ?_
    rintro e w4 ⟨rfl, b4⟩; have b4 := Below.next b3 b4; clear b3
    go_wp2_with fail
    refine (atMost_is _ a c _ x5 c5 H5.out L5.out).mono ?_
    rintro e w5 ⟨rfl, b5⟩; have b5 := Below.next b4 b5; clear b4
    go_wp2_with fail
    refine (ckR3 _ _ _ _ _ _ _ (by simp) d3 HD.out).mono ?_
    rintro e w6 ⟨rfl, rfl⟩
    go_wp2
    go_ret
    exact ⟨rfl, b5.alloc b5.size _⟩
end Go.Proofs.YtccmgbbpihaapaaDoor
