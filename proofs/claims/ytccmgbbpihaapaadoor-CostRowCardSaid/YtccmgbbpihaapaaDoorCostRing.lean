/-
  THE COST LAYER: the statements CostSemiring and CostOrder as walks.
-/
import Derived.Test.YtccmgbbpihaapaaDoorCostLaws2
namespace Go.Proofs.YtccmgbbpihaapaaDoor
open Go.RowKit
set_option linter.unusedVariables false

/-- Steps of a chain of calls, each of which leaves what was there. -/
theorem Below.next {w w1 w2 : World} (h : Below w.heap.size w w1) (k : Below w1.heap.size w1 w2) : Below w.heap.size w w2 := h.trans (k.mono h.size)

set_option maxRecDepth 100000 in
set_option maxHeartbeats 1000000 in
theorem costSemiring_ok (limit a b c : Int) (w : World) (ha : Hid (In limit a)) (hb : Hid (In limit b)) (hc : Hid (In limit c)) :
    Calls Tryd.prog 12 #[.int .i64 limit, .int .i64 a, .int .i64 b, .int .i64 c] w fun e w' => e = .returned (.bool true) ∧ Below w.heap.size w w' := by
  have hn : Hid (In limit (-1)) := by have := ha.out; unfold In at this; show In _ _; unfold In; omega
  have hz : Hid (In limit 0) := by have := ha.out; unfold In at this; show In _ _; unfold In; omega
  obtain ⟨x1, h1⟩ : ∃ x, lesser a b = x := ⟨_, rfl⟩
  obtain ⟨s1, k1⟩ : ∃ x, added limit a b = x := ⟨_, rfl⟩
  obtain ⟨x2, h2⟩ : ∃ x, lesser b c = x := ⟨_, rfl⟩
  obtain ⟨s2, k2⟩ : ∃ x, added limit b c = x := ⟨_, rfl⟩
  obtain ⟨x3, h3⟩ : ∃ x, lesser a c = x := ⟨_, rfl⟩
  obtain ⟨s3, k3⟩ : ∃ x, added limit a c = x := ⟨_, rfl⟩
  have i1 : Hid (In limit x1) := by rw [← h1]; exact in_lesser ha.out hb.out
  have j1 : Hid (In limit s1) := by rw [← k1]; exact in_added ha.out hb.out
  have i2 : Hid (In limit x2) := by rw [← h2]; exact in_lesser hb.out hc.out
  have j2 : Hid (In limit s2) := by rw [← k2]; exact in_added hb.out hc.out
  have j3 : Hid (In limit s3) := by rw [← k3]; exact in_added ha.out hc.out
  obtain ⟨m, hm⟩ : ∃ x, lesser x1 c = x := ⟨_, rfl⟩
  obtain ⟨p1, hp1⟩ : ∃ x, added limit x1 c = x := ⟨_, rfl⟩
  obtain ⟨v, hv⟩ : ∃ x, added limit a x2 = x := ⟨_, rfl⟩
  obtain ⟨u, hu⟩ : ∃ x, lesser s1 c = x := ⟨_, rfl⟩
  obtain ⟨r, hr⟩ : ∃ x, added limit s1 c = x := ⟨_, rfl⟩
  obtain ⟨u2, hu2⟩ : ∃ x, lesser a s2 = x := ⟨_, rfl⟩
  obtain ⟨u3, hu3⟩ : ∃ x, added limit s1 s3 = x := ⟨_, rfl⟩
  obtain ⟨u4, hu4⟩ : ∃ x, added limit a a = x := ⟨_, rfl⟩
  obtain ⟨u5, hu5⟩ : ∃ x, lesser a 0 = x := ⟨_, rfl⟩
  have q1 := Lib.hid ((lesser_comm a b).trans h1)
  have q2 := Lib.hid ((added_comm limit a b).trans k1)
  have q3 : Hid (lesser a x2 = m) := by rw [← h2, ← hm, ← h1]; exact lesser_assoc limit _ _ _ ha.out hb.out hc.out
  have q4 : Hid (added limit a s2 = r) := by rw [← k2, ← hr, ← k1]; exact added_assoc limit _ _ _ ha.out hb.out hc.out
  have q5 : Hid (lesser s1 s3 = v) := by rw [← k1, ← k3, ← hv, ← h2]; exact added_over limit _ _ _ ha.out hb.out hc.out
  have q6 : Hid (lesser a a = a) := by show _ = _; unfold lesser; split <;> omega
  have q7 : Hid (lesser a (-1) = a) := by show _ = _; unfold lesser; split <;> simp_all
  have q8 : Hid (added limit a (-1) = -1) := by show _ = _; unfold added; simp
  have q9 : Hid (added limit a 0 = a) := by have := ha.out; unfold In at this; show _ = _; unfold added; split <;> omega
  have h1 := Lib.hid h1; have k1 := Lib.hid k1; have h2 := Lib.hid h2; have k2 := Lib.hid k2; have h3 := Lib.hid h3; have k3 := Lib.hid k3
  have hm := Lib.hid hm; have hp1 := Lib.hid hp1; have hv := Lib.hid hv; have hu := Lib.hid hu; have hr := Lib.hid hr; have hu2 := Lib.hid hu2; have hu3 := Lib.hid hu3; have hu4 := Lib.hid hu4; have hu5 := Lib.hid hu5
  rename_i a1 a2 a3 a4 a5 a6 a7 a8 a9 a10 a11 a12 a13 a14 a15
  clear a1 a2 a3 a4 a5 a6 a7 a8 a9 a10 a11 a12 a13 a14 a15
  go_enter Tryd.func12, Tryd.ntmps12
  go_wp2_with fail
  refine (awake_any _).mono ?_
  rintro e w1 ⟨rfl, b1⟩
  go_wp2_with fail
  refine (two_in _ a b _ x1 s1 ha hb h1.out k1.out).mono ?_
  rintro e w2 ⟨rfl, b2⟩; have b2 := Below.next b1 b2; clear b1
  go_wp2_with fail
  refine (two_in _ b a _ x1 s1 hb ha q1.out q2.out).mono ?_
  rintro e w3 ⟨rfl, b3⟩; have b3 := Below.next b2 b3; clear b2
  go_wp2_with fail
  refine (two_in _ b c _ x2 s2 hb hc h2.out k2.out).mono ?_
  rintro e w4 ⟨rfl, b4⟩; have b4 := Below.next b3 b4; clear b3
  go_wp2_with fail
  refine (two_in _ a c _ x3 s3 ha hc h3.out k3.out).mono ?_
  rintro e w5 ⟨rfl, b5⟩; have b5 := Below.next b4 b5; clear b4
  go_wp2_with fail
  refine (two_in _ x1 c _ m p1 i1 hc hm.out hp1.out).mono ?_
  rintro e w6 ⟨rfl, b6⟩; have b6 := Below.next b5 b6; clear b5
  go_wp2_with fail
  refine (two_in _ a x2 _ m v ha i2 q3.out hv.out).mono ?_
  rintro e w7 ⟨rfl, b7⟩; have b7 := Below.next b6 b7; clear b6
  go_wp2_with fail
  refine (two_in _ s1 c _ u r j1 hc hu.out hr.out).mono ?_
  rintro e w8 ⟨rfl, b8⟩; have b8 := Below.next b7 b8; clear b7
  go_wp2_with fail
  refine (two_in _ a s2 _ u2 r ha j2 hu2.out q4.out).mono ?_
  rintro e w9 ⟨rfl, b9⟩; have b9 := Below.next b8 b9; clear b8
  go_wp2_with fail
  refine (two_in _ a x2 _ m v ha i2 q3.out hv.out).mono ?_
  rintro e w10 ⟨rfl, b10⟩; have b10 := Below.next b9 b10; clear b9
  go_wp2_with fail
  refine (two_in _ s1 s3 _ v u3 j1 j3 q5.out hu3.out).mono ?_
  rintro e w11 ⟨rfl, b11⟩; have b11 := Below.next b10 b11; clear b10
  go_wp2_with fail
  refine (two_in _ a a _ a u4 ha ha q6.out hu4.out).mono ?_
  rintro e w12 ⟨rfl, b12⟩; have b12 := Below.next b11 b12; clear b11
  go_wp2_with fail
  refine (two_in _ a (-1) _ a (-1) ha hn q7.out q8.out).mono ?_
  rintro e w13 ⟨rfl, b13⟩; have b13 := Below.next b12 b13; clear b12
  go_wp2_with fail
  refine (two_in _ a 0 _ u5 a ha hz hu5.out q9.out).mono ?_
  rintro e w14 ⟨rfl, b14⟩; have b14 := Below.next b13 b14; clear b13
  go_wp2
  go_ret
  exact ⟨rfl, b14⟩

set_option maxRecDepth 100000 in
set_option maxHeartbeats 1000000 in
theorem costSemiring_walk (limit a b c : Int) (w : World) (wl : (Lit.int .i64 limit).wf = true) (wa : (Lit.int .i64 a).wf = true) (wb : (Lit.int .i64 b).wf = true) (wc : (Lit.int .i64 c).wf = true) :
    Calls Tryd.prog 12 #[.int .i64 limit, .int .i64 a, .int .i64 b, .int .i64 c] w fun e w' => e = .returned (.bool true) ∧ Below w.heap.size w w' := by
  clear wl wa wb wc
  by_cases h3 : chk limit [a, b, c] = 0
  · have := chk3_iff.1 h3
    exact costSemiring_ok limit a b c w (by show In _ _; unfold In; omega) (by show In _ _; unfold In; omega) (by show In _ _; unfold In; omega)
  obtain ⟨d3, hd3⟩ : ∃ x, chk limit [a, b, c] = x := ⟨_, rfl⟩
  have hne : (d3 != 0) = true := by rw [← hd3]; simpa using h3
  have HD := Lib.hid hd3
  obtain ⟨x1, h1⟩ : ∃ x, leastR limit [a, b] = x := ⟨_, rfl⟩
  obtain ⟨s1, k1⟩ : ∃ x, sumR limit [a, b] = x := ⟨_, rfl⟩
  obtain ⟨c1, l1⟩ : ∃ x, chk limit [a, b] = x := ⟨_, rfl⟩
  obtain ⟨x2, h2⟩ : ∃ x, leastR limit [b, a] = x := ⟨_, rfl⟩
  obtain ⟨s2, k2⟩ : ∃ x, sumR limit [b, a] = x := ⟨_, rfl⟩
  obtain ⟨c2, l2⟩ : ∃ x, chk limit [b, a] = x := ⟨_, rfl⟩
  obtain ⟨x4, h4⟩ : ∃ x, leastR limit [b, c] = x := ⟨_, rfl⟩
  obtain ⟨s4, k4⟩ : ∃ x, sumR limit [b, c] = x := ⟨_, rfl⟩
  obtain ⟨c4, l4⟩ : ∃ x, chk limit [b, c] = x := ⟨_, rfl⟩
  obtain ⟨x5, h5⟩ : ∃ x, leastR limit [a, c] = x := ⟨_, rfl⟩
  obtain ⟨s5, k5⟩ : ∃ x, sumR limit [a, c] = x := ⟨_, rfl⟩
  obtain ⟨c5, l5⟩ : ∃ x, chk limit [a, c] = x := ⟨_, rfl⟩
  have hor : (c1 != 0) = true ∨ ((c1 != 0) = false ∧ (c2 != 0) = true) ∨ ((c1 != 0) = false ∧ (c2 != 0) = false ∧ (c4 != 0) = true) ∨ ((c1 != 0) = false ∧ (c2 != 0) = false ∧ (c4 != 0) = false ∧ (c5 != 0) = true) := by
    have : ¬ (c1 = 0 ∧ c2 = 0 ∧ c4 = 0 ∧ c5 = 0) := by
      rintro ⟨e1, e2, e4, e5⟩
      rw [← l1, chk2_iff] at e1; rw [← l4, chk2_iff] at e4
      exact h3 (chk3_iff.2 (by omega))
    by_cases e1 : c1 = 0 <;> by_cases e2 : c2 = 0 <;> by_cases e4 : c4 = 0 <;> by_cases e5 : c5 = 0 <;> simp_all
  have H1 := Lib.hid h1; have K1 := Lib.hid k1; have L1 := Lib.hid l1; have H2 := Lib.hid h2; have K2 := Lib.hid k2; have L2 := Lib.hid l2
  have H4 := Lib.hid h4; have K4 := Lib.hid k4; have L4 := Lib.hid l4; have H5 := Lib.hid h5; have K5 := Lib.hid k5; have L5 := Lib.hid l5
  clear h1 k1 l1 h2 k2 l2 h4 k4 l4 h5 k5 l5 hd3 h3
  rcases hor with t1 | ⟨t1, t2⟩ | ⟨t1, t2, t4⟩ | ⟨t1, t2, t4, t5⟩
  all_goals
    go_enter Tryd.func12, Tryd.ntmps12
    go_wp2_with fail
    refine (awake_any _).mono ?_
    rintro e w1 ⟨rfl, b1⟩
    go_wp2_with fail
    refine (two_is _ a b _ x1 s1 c1 H1.out K1.out L1.out).mono ?_
    rintro e w2 ⟨rfl, b2⟩; have b2 := Below.next b1 b2; clear b1
    go_wp2_with fail
    refine (two_is _ b a _ x2 s2 c2 H2.out K2.out L2.out).mono ?_
    rintro e w3 ⟨rfl, b3⟩; have b3 := Below.next b2 b3; clear b2
    go_wp2_with fail
    refine (two_is _ b c _ x4 s4 c4 H4.out K4.out L4.out).mono ?_
    rintro e w4 ⟨rfl, b4⟩; have b4 := Below.next b3 b4; clear b3
    go_wp2_with fail
    refine (two_is _ a c _ x5 s5 c5 H5.out K5.out L5.out).mono ?_
    rintro e w5 ⟨rfl, b5⟩; have b5 := Below.next b4 b5; clear b4
    go_wp2_with fail
    refine (ckR3 _ _ _ _ _ _ _ (by simp) d3 HD.out).mono ?_
    rintro e w6 ⟨rfl, rfl⟩
    go_wp2
    go_ret
    exact ⟨rfl, b5.alloc b5.size _⟩
end Go.Proofs.YtccmgbbpihaapaaDoor
