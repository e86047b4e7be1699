/-
  THE CELLS LAYER: one cell: value, joined, mayBe and the reference's Two, cell: each by its contract.
-/
import Derived.Test.YtkekldebklghoaaDoorProg
import Derived.WalkKit
import Derived.WalkSmall
import Derived.Lib.Hide
import Derived.Deep.QuietTactic
import Derived.BigQuiet
import Derived.RegionTactic
import Derived.BigRegion
import Derived.Deep.RegionHeld3
import Derived.ChangeAlike
namespace Go.Proofs.YtkekldebklghoaaDoor
open Go.RowKit
set_option linter.unusedVariables false

theorem rint {k : IntKind} {a b : Int} (h : a = b) : Ending.returned (.int k a) = .returned (.int k b) := by rw [h]
theorem rbool {a b : Bool} (h : a = b) : Ending.returned (.bool a) = .returned (.bool b) := by rw [h]
theorem ragg {a b : Int} {x y : Value} (h : a = b) : Ending.returned (.agg #[.int .u64 a, x, y]) = .returned (.agg #[.int .u64 b, x, y]) := by rw [h]

theorem cast_div_pow (f d : Nat) : ((f : Int) / 2 ^ d) = ((f / 2 ^ d : Nat) : Int) := by
  rw [Int.natCast_ediv]; congr 1
theorem bit_of (f i : Nat) (hf : f < 18446744073709551616) : (bits BinOp.and IntKind.u64 ((f : Int) / 2 ^ i) 1 == 1) = f.testBit i := by
  rw [cast_div_pow]
  have h1 : f / 2 ^ i < 18446744073709551616 := Nat.lt_of_le_of_lt (Nat.div_le_self _ _) hf
  rw [Nat.testBit_eq_decide_div_mod_eq]
  generalize f / 2 ^ i = q at *
  rw [and_one_u64 _ (by omega) (by omega)]
  rw [Bool.eq_iff_iff, beq_iff_eq, decide_eq_true_iff]; omega
theorem has_any (f i : Nat) (w : World) (hi : i < 64) (hf : f < 18446744073709551616) : Calls Tryd.prog 77 #[.int .u64 f, .int .i64 i] w fun e w' => e = .returned (.bool (f.testBit i)) ∧ w = w' := by
  have H := Lib.hid (bit_of f i hf)
  go_enter Tryd.func77, Tryd.ntmps77
  go_wp2
  go_ret
  exact ⟨rbool H.out, rfl⟩

/-- May a cell be, in a transformer of d variables? -/
def inside (d f : Nat) : Bool := f / 2 ^ d == 0
def kindOk (f : Nat) (k v : Int) : Bool := if k = 0 then v == 0 else if k = 1 then true else if k = 2 then v == 0 && f == 0 else false
def cellOk (d f : Nat) (k v : Int) : Bool := inside d f && kindOk f k v

theorem cast_ne (f d : Nat) : ((f : Int) / 2 ^ d != 0) = !inside d f := by
  rw [cast_div_pow]; unfold inside
  generalize f / 2 ^ d = q
  rw [Bool.eq_iff_iff, bne_iff_ne, Bool.not_eq_true', beq_eq_false_iff_ne]; omega
theorem inside64 {d f : Nat} (h : 64 ≤ d) (hf : f < 18446744073709551616) : inside d f = true := by
  unfold inside
  have e : (2 : Nat) ^ 64 ≤ 2 ^ d := Nat.pow_le_pow_right (by decide) h
  have : f < 2 ^ d := Nat.lt_of_lt_of_le hf e
  simp [Nat.div_eq_of_lt this]

theorem mayBe_any (d f : Nat) (k v : Int) (w : World) (hf : f < 18446744073709551616) (hd : d ≤ 64) : Calls Tryd.prog 51 #[.int .i64 d, .agg #[.int .u64 f, .int .i64 k, .int .i64 v]] w fun e w' => e = .returned (.bool (cellOk d f k v)) ∧ Below w.heap.size w w' := by
  cases hi : inside d f
  · have hlt : d < 64 := by
      rcases Nat.lt_or_ge d 64 with h | h
      · exact h
      · rw [inside64 h hf] at hi; cases hi
    have h0 : ((f : Int) / 2 ^ d != 0) = true := by rw [cast_ne, hi]; rfl
    have H := Lib.hid (show cellOk d f k v = false by simp [cellOk, hi])
    clear hi
    go_enter Tryd.func51, Tryd.ntmps51
    go_wp2
    go_ret
    exact ⟨rbool H.out.symm, (Below.refl _ _).alloc (Nat.le_refl _) _⟩
  · have h0 : ((f : Int) / 2 ^ d != 0) = false := by rw [cast_ne, hi]; rfl
    have hc : cellOk d f k v = kindOk f k v := by simp [cellOk, hi]
    rw [hc]
    clear hi hc
    by_cases hlt : d < 64
    all_goals
      by_cases k0 : k = 0
      · subst k0
        have H := Lib.hid (show kindOk f 0 v = (v == 0) by simp [kindOk])
        go_enter Tryd.func51, Tryd.ntmps51
        go_wp2
        go_ret
        exact ⟨rbool H.out.symm, (Below.refl _ _).alloc (Nat.le_refl _) _⟩
      by_cases k1 : k = 1
      · subst k1
        have H := Lib.hid (show kindOk f 1 v = true by simp [kindOk])
        go_enter Tryd.func51, Tryd.ntmps51
        go_wp2
        go_ret
        exact ⟨rbool H.out.symm, (Below.refl _ _).alloc (Nat.le_refl _) _⟩
      by_cases k2 : k = 2
      · subst k2
        by_cases v0 : v = 0
        · subst v0
          have H := Lib.hid (show kindOk f 2 0 = ((f : Int) == 0) by simp [kindOk]; rw [Bool.eq_iff_iff]; simp)
          go_enter Tryd.func51, Tryd.ntmps51
          go_wp2
          go_ret
          exact ⟨rbool H.out.symm, (Below.refl _ _).alloc (Nat.le_refl _) _⟩
        · have H := Lib.hid (show kindOk f 2 v = false by simp [kindOk, v0])
          have hv : (v == 0) = false := by simp [v0]
          clear v0
          go_enter Tryd.func51, Tryd.ntmps51
          go_wp2
          go_ret
          exact ⟨rbool H.out.symm, (Below.refl _ _).alloc (Nat.le_refl _) _⟩
      · have H := Lib.hid (show kindOk f k v = false by simp [kindOk, k0, k1, k2])
        have e0 : (k == 0) = false := by simp [k0]
        have e1 : (k == 1) = false := by simp [k1]
        have e2 : (k == 2) = false := by simp [k2]
        clear k0 k1 k2
        go_enter Tryd.func51, Tryd.ntmps51
        go_wp2
        go_ret
        exact ⟨rbool H.out.symm, (Below.refl _ _).alloc (Nat.le_refl _) _⟩

theorem kind_cell (f : Nat) (k v : Int) : kindOk f k v = (!(decide (k < 0) || decide (2 < k) || (k != 1 && v != 0)) && (k != 2 || f == 0)) := by
  unfold kindOk
  rw [Bool.eq_iff_iff]
  by_cases k0 : k = 0
  · subst k0; simp
  by_cases k1 : k = 1
  · subst k1; simp
  by_cases k2 : k = 2
  · subst k2; simp
  · simp [k0, k1, k2]; omega
theorem inside_bits (d f : Nat) (hf : f < 18446744073709551616) : inside d f = true ↔ ∀ i, d ≤ i → i < 64 → f.testBit i = false := by
  unfold inside
  rw [beq_iff_eq, Nat.div_eq_zero_iff]
  constructor
  · intro h i hi _
    rcases h with h | h
    · exact absurd h (by have := Nat.two_pow_pos d; omega)
    · exact Nat.testBit_lt_two_pow (Nat.lt_of_lt_of_le h (Nat.pow_le_pow_right (by omega) hi))
  · intro h
    right
    apply Nat.lt_pow_two_of_testBit
    intro i hi
    by_cases h64 : i < 64
    · exact h i hi h64
    · have e : (2 : Nat) ^ 64 ≤ 2 ^ i := Nat.pow_le_pow_right (by decide) (by omega)
      exact Nat.testBit_lt_two_pow (Nat.lt_of_lt_of_le hf e)

theorem cell_any (d f : Nat) (k v : Int) (w : World) (hf : f < 18446744073709551616) (hd : d ≤ 64) : Calls Tryd.prog 53 #[.int .i64 d, .agg #[.int .u64 f, .int .i64 k, .int .i64 v]] w fun e w' => e = .returned (.bool (cellOk d f k v)) ∧ Below w.heap.size w w' := by
  go_enter Tryd.func53, Tryd.ntmps53
  go_wp2
  go_loop [5] (fun i => ∃ n : Nat, d ≤ n ∧ n ≤ 64 ∧ i = .int .i64 n ∧ Hid (∀ j, d ≤ j → j < n → f.testBit j = false)) (fun i => 64 - (intOf i).toNat)
  case atStart => exact ⟨d, by omega, by omega, rfl, fun j h1 h2 => by omega⟩
  case round =>
    obtain ⟨n, hn, hn2, rfl, HB⟩ := hrel
    by_cases hlt : n < 64
    · cases hb : f.testBit n
      · have HN : Hid (∀ j, d ≤ j → j < n + 1 → f.testBit j = false) := fun j h1 h2 => by
          by_cases e : j = n
          · subst e; exact hb
          · exact HB.out j h1 (by omega)
        have HBN := Lib.hid hb
        clear hb
        go_wp2_with (go_at_call 77; refine (has_any _ _ _ hlt hf).mono ?_; rintro e w' ⟨rfl, rfl⟩; rw [HBN.out])
        go_round
        case rel => exact ⟨n + 1, by omega, by omega, by go_num, HN⟩
        case measure => simp [intOf]; omega
      · have hc : cellOk d f k v = false := by
          have : inside d f = false := by
            cases hi : inside d f
            · rfl
            · rw [(inside_bits d f hf).1 hi n hn hlt] at hb; cases hb
          simp [cellOk, this]
        have H := Lib.hid hc
        have HBN := Lib.hid hb
        clear hb hc
        go_wp2_with (go_at_call 77; refine (has_any _ _ _ hlt hf).mono ?_; rintro e w' ⟨rfl, rfl⟩; rw [HBN.out])
        go_ret
        exact ⟨rbool H.out.symm, (Below.refl _ _).alloc (Nat.le_refl _) _⟩
    · have hc : cellOk d f k v = kindOk f k v := by
        have : inside d f = true := (inside_bits d f hf).2 fun i h1 h2 => HB.out i h1 (by omega)
        simp [cellOk, this]
      have HC := Lib.hid hc
      clear hc HB
      by_cases k0 : k < 0
      · have H := Lib.hid (HC.out.trans (show kindOk f k v = false by rw [kind_cell]; simp [k0]))
        go_wp2
        go_ret
        exact ⟨rbool H.out.symm, (Below.refl _ _).alloc (Nat.le_refl _) _⟩
      by_cases k2 : 2 < k
      · have H := Lib.hid (HC.out.trans (show kindOk f k v = false by rw [kind_cell]; simp [k2]))
        go_wp2
        go_ret
        exact ⟨rbool H.out.symm, (Below.refl _ _).alloc (Nat.le_refl _) _⟩
      have kr : k = 0 ∨ k = 1 ∨ k = 2 := by omega
      clear k0 k2
      rcases kr with rfl | rfl | rfl
      · by_cases v0 : v = 0
        · subst v0
          have H := Lib.hid (HC.out.trans (show kindOk f 0 0 = true by simp [kindOk]))
          go_wp2
          go_ret
          exact ⟨rbool H.out.symm, (Below.refl _ _).alloc (Nat.le_refl _) _⟩
        · have H := Lib.hid (HC.out.trans (show kindOk f 0 v = false by simp [kindOk, v0]))
          have hv : (v != 0) = true := by simp [v0]
          clear v0
          go_wp2
          go_ret
          exact ⟨rbool H.out.symm, (Below.refl _ _).alloc (Nat.le_refl _) _⟩
      · have H := Lib.hid (HC.out.trans (show kindOk f 1 v = true by simp [kindOk]))
        go_wp2
        go_ret
        exact ⟨rbool H.out.symm, (Below.refl _ _).alloc (Nat.le_refl _) _⟩
      · by_cases v0 : v = 0
        · subst v0
          have H := Lib.hid (HC.out.trans (show kindOk f 2 0 = ((f : Int) == 0) by simp [kindOk]; rw [Bool.eq_iff_iff]; simp))
          go_wp2
          go_ret
          exact ⟨rbool H.out.symm, (Below.refl _ _).alloc (Nat.le_refl _) _⟩
        · have H := Lib.hid (HC.out.trans (show kindOk f 2 v = false by simp [kindOk, v0]))
          have hv : (v != 0) = true := by simp [v0]
          clear v0
          go_wp2
          go_ret
          exact ⟨rbool H.out.symm, (Below.refl _ _).alloc (Nat.le_refl _) _⟩
end Go.Proofs.YtkekldebklghoaaDoor
