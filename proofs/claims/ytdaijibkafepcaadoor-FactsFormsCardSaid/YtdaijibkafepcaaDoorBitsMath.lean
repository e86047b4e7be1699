/-
  BITS OF NUMBERS: the lowest bit, and what is left without it. (Plain arithmetic: no program.)
-/
import Derived.Lib.TrailingZeros
namespace Go.Proofs.YtdaijibkafepcaaDoor
theorem low_form (x : Nat) (h0 : x ≠ 0) (h : x < 18446744073709551616) : ∃ m, x = 2 ^ Lib.ctz 64 x * (2 * m + 1) ∧ Lib.ctz 64 x < 64 := by
  have := Lib.ctzFrom_spec 64 x (by omega) h
  unfold Lib.ctz
  rw [if_neg h0]
  exact this
theorem low_bit {x : Nat} (h0 : x ≠ 0) (h : x < 18446744073709551616) : x.testBit (Lib.ctz 64 x) = true := by
  obtain ⟨m, hm, _⟩ := low_form x h0 h
  generalize Lib.ctz 64 x = k at *
  rw [hm, Nat.mul_comm, Nat.testBit_mul_two_pow]
  simp
theorem low_none {x : Nat} (h0 : x ≠ 0) (h : x < 18446744073709551616) {i : Nat} (hi : i < Lib.ctz 64 x) : x.testBit i = false := by
  obtain ⟨m, hm, _⟩ := low_form x h0 h
  generalize Lib.ctz 64 x = k at *
  rw [hm, Nat.mul_comm, Nat.testBit_mul_two_pow]
  simp; omega
theorem clear_low {x : Nat} (h0 : x ≠ 0) (h : x < 18446744073709551616) (i : Nat) : (x &&& (x - 1)).testBit i = (x.testBit i && decide (i ≠ Lib.ctz 64 x)) := by
  obtain ⟨m, hm, _⟩ := low_form x h0 h
  generalize Lib.ctz 64 x = k at *
  have hp : 0 < 2 ^ k := Nat.two_pow_pos k
  have e1 : x - 1 = 2 ^ k * (2 * m) + (2 ^ k - 1) := by
    rw [hm, Nat.mul_add]; omega
  have e2 : x = 2 ^ k * (2 * m + 1) + 0 := by omega
  rw [Nat.testBit_and, e1, Nat.testBit_two_pow_mul_add _ (by omega)]
  rw [e2, Nat.testBit_two_pow_mul_add _ hp]
  by_cases hi : i < k
  · simp [hi]
  · simp only [hi, if_false]
    by_cases he : i = k
    · subst he; simp
    · obtain ⟨j, rfl⟩ : ∃ j, i = k + (j + 1) := ⟨i - k - 1, by omega⟩
      have e3 : k + (j + 1) - k = j + 1 := by omega
      rw [e3, Nat.testBit_succ, Nat.testBit_succ]
      have d1 : (2 * m + 1) / 2 = m := by omega
      have d2 : 2 * m / 2 = m := by omega
      rw [d1, d2]
      simp
theorem clear_lt {x : Nat} (h0 : x ≠ 0) : x &&& (x - 1) < x := Nat.lt_of_le_of_lt Nat.and_le_right (by omega)
end Go.Proofs.YtdaijibkafepcaaDoor
