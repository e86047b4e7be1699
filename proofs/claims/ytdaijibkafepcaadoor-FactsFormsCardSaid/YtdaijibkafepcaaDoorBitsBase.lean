/-
  THE BITS LAYER: within, mask, Worth, Has, Full, Next: of the program and of the reference.
-/
import Derived.Test.YtdaijibkafepcaaDoorProg
import Derived.Test.YtdaijibkafepcaaDoorCtz
import Derived.Test.YtdaijibkafepcaaDoorBitsMath
import Derived.Test.YtdaijibkafepcaaDoorPop
import Derived.Laws.BitsAllLaws
import Derived.Laws.Bits64
import Derived.WalkKit
import Derived.WalkSmall
import Derived.Lib.Hide
import Derived.Deep.QuietTactic
import Derived.BigQuiet
import Derived.RegionTactic
import Derived.BigRegion
import Derived.Deep.RegionHeld3
import Derived.ChangeAlike
namespace Go.Proofs.YtdaijibkafepcaaDoor
open Go.RowKit
set_option linter.unusedVariables false

theorem rint {k : IntKind} {a b : Int} (h : a = b) : Ending.returned (.int k a) = .returned (.int k b) := by rw [h]
theorem rbool {a b : Bool} (h : a = b) : Ending.returned (.bool a) = .returned (.bool b) := by rw [h]
theorem rii {k m : IntKind} {a b c d : Int} (h : a = b) (h2 : c = d) : Ending.returned (.tuple #[.int k a, .int m c]) = .returned (.tuple #[.int k b, .int m d]) := by rw [h, h2]

theorem within_is (n a b : Int) (r : Bool) (hr : (decide (a ≤ n) && decide (n ≤ b)) = r) (w : World) : Calls Tryd.prog 60 #[.int .i64 n, .int .i64 a, .int .i64 b] w fun e w' => e = .returned (.bool r) ∧ w = w' := by
  subst hr
  by_cases h1 : a ≤ n
  · by_cases h2 : n ≤ b
    · have H : Hid ((decide (a ≤ n) && decide (n ≤ b)) = true) := by show _ = _; simp [h1, h2]
      rw [H.out]
      go_enter Tryd.func60, Tryd.ntmps60
      go_wp2
      go_ret
      exact ⟨rfl, rfl⟩
    · have H : Hid ((decide (a ≤ n) && decide (n ≤ b)) = false) := by show _ = _; simp [h1, h2]
      rw [H.out]
      go_enter Tryd.func60, Tryd.ntmps60
      go_wp2
      go_ret
      exact ⟨rfl, rfl⟩
  · have H : Hid ((decide (a ≤ n) && decide (n ≤ b)) = false) := by show _ = _; simp [h1]
    rw [H.out]
    go_enter Tryd.func60, Tryd.ntmps60
    go_wp2
    go_ret
    exact ⟨rfl, rfl⟩

theorem pow_le64 {n : Nat} (hn : n ≤ 64) : 2 ^ n ≤ 18446744073709551616 := Nat.pow_le_pow_right (by decide : 1 ≤ 2) hn
theorem pow_lt64 {n : Nat} (hn : n ≤ 63) : 2 ^ n ≤ 9223372036854775808 := Nat.pow_le_pow_right (by decide : 1 ≤ 2) hn
theorem mask_num (n : Nat) (hn : n ≤ 64) : IntKind.u64.wrap (IntKind.u64.wrap ((2 : Int) ^ n) - 1) = ((2 ^ n - 1 : Nat) : Int) := by
  have e : ((2 : Int) ^ n) = ((2 ^ n : Nat) : Int) := by simp
  have h := pow_le64 hn
  have h1 : 1 ≤ 2 ^ n := Nat.one_le_two_pow
  rw [e]
  generalize 2 ^ n = q at *
  rw [IntKind.wrap_u64, IntKind.wrap_u64]
  omega
theorem mask_any (n : Nat) (hn : n ≤ 64) (w : World) : Calls Tryd.prog 61 #[.int .i64 n] w fun e w' => e = .returned (.int .u64 ((2 ^ n - 1 : Nat) : Int)) ∧ w = w' := by
  have H := Lib.hid (mask_num n hn)
  go_enter Tryd.func61, Tryd.ntmps61
  go_wp2
  go_ret
  exact ⟨rint H.out, rfl⟩

theorem worth_step (k : Nat) (hk : k < 63) : IntKind.u64.wrap (((2 ^ k : Nat) : Int) * 2) = ((2 ^ (k + 1) : Nat) : Int) := by
  have h := pow_lt64 (show k + 1 ≤ 63 by omega)
  rw [Nat.pow_succ] at *
  generalize 2 ^ k = q at *
  rw [IntKind.wrap_u64]; omega
theorem worth_any (i : Int) (hi : i ≤ 63) (w : World) : Calls Tryd.prog 62 #[.int .i64 i] w fun e w' => e = .returned (.int .u64 ((2 ^ i.toNat : Nat) : Int)) ∧ w = w' := by
  go_enter Tryd.func62, Tryd.ntmps62
  go_wp2_with fail
  go_loop [0, 3] (fun j v => ∃ (k : Nat) (q : Int), k ≤ i.toNat ∧ q = i - (k : Int) ∧ j = .int .i64 q ∧ ∃ p : Int, v = .int .u64 p ∧ Hid (((2 ^ k : Nat) : Int) = p)) (fun j _ => (intOf j).toNat)
  case atStart => exact ⟨0, i, Nat.zero_le _, by omega, rfl, 1, rfl, rfl⟩
  case round =>
    obtain ⟨k, q, hk, hq, rfl, p, rfl, HP⟩ := hrel
    by_cases hlt : 0 < q
    · have HN : Hid (((2 ^ (k + 1) : Nat) : Int) = IntKind.u64.wrap (p * 2)) := by show _ = _; rw [← HP.out]; exact (worth_step k (by omega)).symm
      have g : IntKind.i64.wrap (q - 1) = q - 1 := by simp [IntKind.wrap, IntKind.signed, IntKind.bits]; omega
      go_wp2
      go_round
      case rel => exact ⟨k + 1, q - 1, by omega, by omega, by congr 1; omega, _, rfl, HN⟩
      case measure => simp [intOf]; omega
    · have HE : Hid (p = ((2 ^ i.toNat : Nat) : Int)) := by show _ = _; rw [← HP.out, show k = i.toNat by omega]
      go_wp2
      go_ret
      exact ⟨rint HE.out, rfl⟩

def hasB (f : Nat) (i : Int) : Bool := decide (0 ≤ i) && (decide (i < 64) && f.testBit i.toNat)
theorem cast_div_pow (f d : Nat) : ((f : Int) / 2 ^ d) = ((f / 2 ^ d : Nat) : Int) := by
  rw [Int.natCast_ediv]; congr 1
theorem bit_of (f i : Nat) (hf : f < 18446744073709551616) : (bits BinOp.and IntKind.u64 ((f : Int) / 2 ^ i) 1 == 1) = f.testBit i := by
  rw [cast_div_pow]
  have h1 : f / 2 ^ i < 18446744073709551616 := Nat.lt_of_le_of_lt (Nat.div_le_self _ _) hf
  rw [Nat.testBit_eq_decide_div_mod_eq]
  generalize f / 2 ^ i = q at *
  rw [and_one_u64 _ (by omega) (by omega)]
  rw [Bool.eq_iff_iff, beq_iff_eq, decide_eq_true_iff]; omega
theorem hasA_is (f : Nat) (i : Int) (r : Bool) (hr : hasB f i = r) (hf : f < 18446744073709551616) (w : World) : Calls Tryd.prog 26 #[.int .u64 f, .int .i64 i] w fun e w' => e = .returned (.bool r) ∧ w = w' := by
  by_cases h : 0 ≤ i ∧ i ≤ 63
  · obtain ⟨h0, h1⟩ := h
    have H : Hid ((bits BinOp.and IntKind.u64 ((f : Int) / 2 ^ i.toNat) 1 == 1) = r) := by
      show _ = _
      rw [bit_of f _ hf, ← hr]; simp [hasB, h0, show i < 64 by omega]
    clear hr
    go_enter Tryd.func26, Tryd.ntmps26
    go_wp2_with fail
    refine (within_is i 0 63 true (by simp; omega) _).mono ?_
    rintro e w1 ⟨rfl, rfl⟩
    go_wp2
    go_ret
    exact ⟨rbool H.out, rfl⟩
  · have H : Hid (false = r) := by
      show _ = _
      rw [← hr]
      by_cases h0 : 0 ≤ i
      · simp [hasB, show ¬ i < 64 by omega]
      · simp [hasB, h0]
    have hw := Lib.hid (show (decide ((0 : Int) ≤ i) && decide (i ≤ 63)) = false by simp; omega)
    clear hr h
    go_enter Tryd.func26, Tryd.ntmps26
    go_wp2_with fail
    refine (within_is i 0 63 false hw.out _).mono ?_
    rintro e w1 ⟨rfl, rfl⟩
    go_wp2
    go_ret
    exact ⟨rbool H.out, rfl⟩
theorem hasR_num (f k : Nat) (hf : f < 18446744073709551616) : ((IntKind.u64.wrap ((f : Int) / ((2 ^ k : Nat) : Int))).tmod 2 == 1) = f.testBit k := by
  have h1 : f / 2 ^ k < 18446744073709551616 := Nat.lt_of_le_of_lt (Nat.div_le_self _ _) hf
  rw [← Int.natCast_ediv, Nat.testBit_eq_decide_div_mod_eq, IntKind.wrap_u64, tmod_of_emod]
  generalize f / 2 ^ k = q at *
  rw [Bool.eq_iff_iff, beq_iff_eq, decide_eq_true_iff]; omega
theorem hasR_is (f : Nat) (i : Int) (r : Bool) (hr : hasB f i = r) (hf : f < 18446744073709551616) (w : World) : Calls Tryd.prog 27 #[.int .u64 f, .int .i64 i] w fun e w' => e = .returned (.bool r) ∧ w = w' := by
  by_cases h0 : 0 ≤ i
  · by_cases h1 : i < 64
    · have hp : 0 < 2 ^ i.toNat := Nat.two_pow_pos _
      have hp2 : 2 ^ i.toNat ≤ 9223372036854775808 := pow_lt64 (by omega)
      have H : Hid (((IntKind.u64.wrap ((f : Int) / ((2 ^ i.toNat : Nat) : Int))).tmod 2 == 1) = r) := by
        show _ = _
        rw [hasR_num f _ hf, ← hr]; simp [hasB, h0, h1]
      have hq : f / 2 ^ i.toNat < 18446744073709551616 := Nat.lt_of_le_of_lt (Nat.div_le_self _ _) hf
      clear hr
      revert hp hp2 H hq
      obtain ⟨p, hpp⟩ : ∃ p : Nat, 2 ^ i.toNat = p := ⟨_, rfl⟩
      have HPP := Lib.hid hpp
      rw [hpp]
      intro hp hp2 H hq
      clear hpp
      have hd0 : ((p : Int) == 0) = false := by simp; omega
      go_enter Tryd.func27, Tryd.ntmps27
      go_wp2_with fail
      refine (worth_any i (by omega) _).mono ?_
      rintro e w1 ⟨rfl, rfl⟩
      rw [HPP.out]
      go_wp2
      go_ret
      exact ⟨rbool (by first | exact H.out | (have := H.out; simpa using this)), rfl⟩
    · have H : Hid (false = r) := by show _ = _; rw [← hr]; simp [hasB, h1]
      clear hr
      go_enter Tryd.func27, Tryd.ntmps27
      go_wp2
      go_ret
      exact ⟨rbool H.out, rfl⟩
  · have H : Hid (false = r) := by show _ = _; rw [← hr]; simp [hasB, h0]
    clear hr
    go_enter Tryd.func27, Tryd.ntmps27
    go_wp2
    go_ret
    exact ⟨rbool H.out, rfl⟩
end Go.Proofs.YtdaijibkafepcaaDoor
