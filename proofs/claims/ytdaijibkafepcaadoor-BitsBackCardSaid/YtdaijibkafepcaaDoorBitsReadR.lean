/-
  THE BITS LAYER: the reference's Read.
-/
import Derived.Test.YtdaijibkafepcaaDoorBitsReadA
namespace Go.Proofs.YtdaijibkafepcaaDoor
open Go.RowKit
set_option linter.unusedVariables false

theorem digit_is (c : Nat) (r : Bool) (hr : (decide (48 ≤ c) && decide (c ≤ 57)) = r) (w : World) : Calls Tryd.prog 67 #[.int .u8 c] w fun e w' => e = .returned (.bool r) ∧ w = w' := by
  subst hr
  by_cases h1 : 48 ≤ c
  · by_cases h2 : c ≤ 57
    · have H : Hid ((decide (48 ≤ c) && decide (c ≤ 57)) = true) := by show _ = _; simp [h1, h2]
      have g1 : (48 : Int) ≤ (c : Int) := by omega
      have g2 : (c : Int) ≤ 57 := by omega
      rw [H.out]
      go_enter Tryd.func67, Tryd.ntmps67
      go_wp2
      go_ret
      exact ⟨rfl, rfl⟩
    · have H : Hid ((decide (48 ≤ c) && decide (c ≤ 57)) = false) := by show _ = _; simp [h2]
      have g1 : (48 : Int) ≤ (c : Int) := by omega
      have g2 : ¬ (c : Int) ≤ 57 := by omega
      rw [H.out]
      go_enter Tryd.func67, Tryd.ntmps67
      go_wp2
      go_ret
      exact ⟨rfl, rfl⟩
  · have H : Hid ((decide (48 ≤ c) && decide (c ≤ 57)) = false) := by show _ = _; simp [h1]
    have g1 : ¬ (48 : Int) ≤ (c : Int) := by omega
    rw [H.out]
    go_enter Tryd.func67, Tryd.ntmps67
    go_wp2
    go_ret
    exact ⟨rfl, rfl⟩
def mayB (n d last : Int) : Bool :=
  if n = 0 then false
  else if n < 0 then decide (last < d) || (decide (0 < d) && (decide (last < 10 * d + 9) && decide (10 * d ≤ 63)))
  else decide (n * 10 + d ≤ 63) && decide (last < n * 10 + d)
set_option maxRecDepth 100000 in
set_option maxHeartbeats 1000000 in
theorem may_is (n d last : Int) (hn0 : -1 ≤ n) (hn1 : n ≤ 63) (hd0 : 0 ≤ d) (hd1 : d ≤ 9) (r : Bool) (hr : mayB n d last = r) (w : World) :
    Calls Tryd.prog 68 #[.int .i64 n, .int .i64 d, .int .i64 last] w fun e w' => e = .returned (.bool r) ∧ w = w' := by
  subst hr
  by_cases h0 : n = 0
  · subst h0
    have H : Hid (mayB 0 d last = false) := rfl
    rw [H.out]
    go_enter Tryd.func68, Tryd.ntmps68
    go_wp2
    go_ret
    exact ⟨rfl, rfl⟩
  have e0 : (n == 0) = false := by simp [h0]
  by_cases h1 : n < 0
  · have hm : mayB n d last = (decide (last < d) || (decide (0 < d) && (decide (last < 10 * d + 9) && decide (10 * d ≤ 63)))) := by simp [mayB, h0, h1]
    by_cases h2 : last < d
    · have H : Hid (mayB n d last = true) := by show _ = _; rw [hm]; simp [h2]
      rw [H.out]
      clear hm h0
      go_enter Tryd.func68, Tryd.ntmps68
      go_wp2
      go_ret
      exact ⟨rfl, rfl⟩
    by_cases h3 : 0 < d
    · by_cases h4 : last < 10 * d + 9
      · by_cases h5 : 10 * d ≤ 63
        · have H : Hid (mayB n d last = true) := by show _ = _; rw [hm]; simp [h3, h4, h5]
          rw [H.out]
          clear hm h0
          go_enter Tryd.func68, Tryd.ntmps68
          go_wp2
          go_ret
          exact ⟨rfl, rfl⟩
        · have H : Hid (mayB n d last = false) := by show _ = _; rw [hm]; simp [h2, h5]
          rw [H.out]
          clear hm h0
          go_enter Tryd.func68, Tryd.ntmps68
          go_wp2
          go_ret
          exact ⟨rfl, rfl⟩
      · have H : Hid (mayB n d last = false) := by show _ = _; rw [hm]; simp [h2, h4]
        rw [H.out]
        clear hm h0
        go_enter Tryd.func68, Tryd.ntmps68
        go_wp2
        go_ret
        exact ⟨rfl, rfl⟩
    · have H : Hid (mayB n d last = false) := by show _ = _; rw [hm]; simp [h2, h3]
      rw [H.out]
      clear hm h0
      go_enter Tryd.func68, Tryd.ntmps68
      go_wp2
      go_ret
      exact ⟨rfl, rfl⟩
  · have hm : mayB n d last = (decide (n * 10 + d ≤ 63) && decide (last < n * 10 + d)) := by simp [mayB, h0, h1]
    by_cases h2 : n * 10 + d ≤ 63
    · by_cases h3 : last < n * 10 + d
      · have H : Hid (mayB n d last = true) := by show _ = _; rw [hm]; simp [h2, h3]
        rw [H.out]
        clear hm h0
        go_enter Tryd.func68, Tryd.ntmps68
        go_wp2
        go_ret
        exact ⟨rfl, rfl⟩
      · have H : Hid (mayB n d last = false) := by show _ = _; rw [hm]; simp [h3]
        rw [H.out]
        clear hm h0
        go_enter Tryd.func68, Tryd.ntmps68
        go_wp2
        go_ret
        exact ⟨rfl, rfl⟩
    · have H : Hid (mayB n d last = false) := by show _ = _; rw [hm]; simp [h2]
      rw [H.out]
      clear hm h0
      go_enter Tryd.func68, Tryd.ntmps68
      go_wp2
      go_ret
      exact ⟨rfl, rfl⟩

/-! ### what the machine does and what the reference asks -/
theorem grows_first_fin : ∀ (l : Fin 64) (d : Fin 10), growsB ((l.1 : Int) - 1) (d.1 : Int) = mayB (-1) (d.1 : Int) ((l.1 : Int) - 1) := by decide +kernel
theorem grows_first {last d : Int} (h0 : -1 ≤ last) (h1 : last ≤ 62) (d0 : 0 ≤ d) (d1 : d ≤ 9) : growsB last d = mayB (-1) d last := by
  have := grows_first_fin ⟨(last + 1).toNat, by omega⟩ ⟨d.toNat, by omega⟩
  simp only at this
  rwa [show (((last + 1).toNat : Nat) : Int) - 1 = last by omega, show ((d.toNat : Nat) : Int) = d by omega] at this
theorem grows_more {last n d : Int} (h0 : 1 ≤ n) (d0 : 0 ≤ d) : growsB last (10 * n + d) = mayB n d last := by
  have e : (List.range 10).any (fun x : Nat => closeOk last (10 * (10 * n + d) + (x : Int))) = false := by
    rw [List.any_eq_false]
    intro x _
    simp [closeOk]; omega
  unfold growsB
  rw [e, mayB, if_neg (by omega), if_neg (by omega), closeOk, Bool.and_false, Bool.or_false, show 10 * n + d = n * 10 + d by omega]
  rw [Bool.eq_iff_iff]; simp; omega
theorem step4 (last now : Int) (set c : Nat) : stepM 4 last now set c = none := by
  unfold stepM
  repeat' split
  all_goals first | rfl | omega
theorem goM4 (last now : Int) (set i : Nat) (l : List UInt8) : goM 4 last now set i l = if l = [] then (set, 0, 0) else (0, (i : Int), 11) := by
  cases l with
  | nil => rfl
  | cons c l => rw [goM_none (step4 _ _ _ _)]; rfl
end Go.Proofs.YtdaijibkafepcaaDoor
