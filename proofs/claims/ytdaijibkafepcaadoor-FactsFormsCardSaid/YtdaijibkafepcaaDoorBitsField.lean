/-
  THE BITS LAYER: Move, Field: of the program and of the reference.
-/
import Derived.Test.YtdaijibkafepcaaDoorBitsMove
namespace Go.Proofs.YtdaijibkafepcaaDoor
open Go.RowKit
set_option linter.unusedVariables false

/-- The number whose bits are those of s, moved by so many places, among the first n; of the first k bits alone. -/
def MoveTo (s : Nat) (by_ : Int) (n k : Nat) (o : Nat) : Prop := ∀ j : Nat, o.testBit j = (decide (j < n) && (decide ((j : Int) - by_ < k) && hasB s ((j : Int) - by_)))
theorem moveTo_lt {s : Nat} {by_ : Int} {n k o : Nat} (h : MoveTo s by_ n k o) : o < 2 ^ ((k : Int) + by_).toNat := by
  apply Nat.lt_pow_two_of_testBit
  intro i hi
  rw [h i]
  by_cases h1 : (i : Int) - by_ < k
  · have : hasB s ((i : Int) - by_) = hasB s ((i : Int) - by_) := rfl
    exfalso; omega
  · simp [h1]
theorem moveTo_lt2 {s : Nat} {by_ : Int} {n k o : Nat} (h : MoveTo s by_ n k o) : o < 2 ^ n := by
  apply Nat.lt_pow_two_of_testBit
  intro i hi
  rw [h i]
  simp [show ¬ i < n by omega]
theorem moveTo_uniq {s : Nat} {by_ : Int} {n k o o' : Nat} (h : MoveTo s by_ n k o) (h' : MoveTo s by_ n k o') : o = o' :=
  Nat.eq_of_testBit_eq fun j => by rw [h j, h' j]
theorem moveTo_zero (s : Nat) (by_ : Int) (n : Nat) : MoveTo s by_ n 0 0 := fun j => by
  rw [Nat.zero_testBit]
  by_cases h1 : (0 : Int) ≤ (j : Int) - by_
  · simp; intros; omega
  · simp [hasB]; intros; omega
theorem moveTo_no {s : Nat} {by_ : Int} {n k o : Nat} (h : MoveTo s by_ n k o) (hc : hasB s k = false ∨ (k : Int) + by_ < 0 ∨ (n : Int) ≤ k + by_) : MoveTo s by_ n (k + 1) o := fun j => by
  rw [h j]
  by_cases e : (j : Int) - by_ = k
  · rw [e]
    rcases hc with h1 | h1 | h1
    · simp [h1]
    · omega
    · simp [show ¬ j < n by omega]
  · have : decide ((j : Int) - by_ < (k : Nat)) = decide ((j : Int) - by_ < ((k + 1 : Nat) : Int)) := by
      rw [Bool.eq_iff_iff, decide_eq_true_iff, decide_eq_true_iff]; omega
    rw [this]
theorem moveTo_yes {s : Nat} {by_ : Int} {n k o m : Nat} (h : MoveTo s by_ n k o) (h1 : hasB s k = true) (hm : (k : Int) + by_ = m) (h3 : m < n) : MoveTo s by_ n (k + 1) (o + 2 ^ m) := fun j => by
  have hlt := moveTo_lt h
  rw [hm, Int.toNat_natCast] at hlt
  rw [add_pow hlt, h j]
  by_cases e : m = j
  · subst e
    rw [show (m : Int) - by_ = k by omega, h1]
    simp [h3]; omega
  · have e2 : decide ((j : Int) - by_ < (k : Nat)) = decide ((j : Int) - by_ < ((k + 1 : Nat) : Int)) := by
      rw [Bool.eq_iff_iff, decide_eq_true_iff, decide_eq_true_iff]; omega
    rw [e2]; simp [e]
def moveN (s : Nat) (by_ : Int) (n : Nat) : Nat := if by_ < 0 then (s / 2 ^ (-by_).toNat) &&& (2 ^ n - 1) else (s * 2 ^ by_.toNat % 18446744073709551616) &&& (2 ^ n - 1)
theorem moveN_to (s : Nat) (by_ : Int) (n : Nat) (hn : n ≤ 64) (hs : s < 18446744073709551616) : MoveTo s by_ n 64 (moveN s by_ n) := fun j => by
  unfold moveN
  by_cases hb : by_ < 0
  · rw [if_pos hb, Nat.testBit_and, mask_bit, Nat.testBit_div_two_pow, Bool.and_comm]
    by_cases hj : j < n
    · have e : ((j : Int) - by_).toNat = j + (-by_).toNat := by omega
      simp only [hj, decide_true, Bool.true_and, hasB]
      rw [e]
      cases hx : s.testBit (j + (-by_).toNat)
      · simp
      · have := bit_lt hs hx
        simp; omega
    · simp [hj]
  · rw [if_neg hb, Nat.testBit_and, mask_bit, show (18446744073709551616 : Nat) = 2 ^ 64 from rfl, Nat.testBit_mod_two_pow, Nat.testBit_mul_two_pow, Bool.and_comm]
    by_cases hj : j < n
    · simp only [hj, decide_true, Bool.true_and, hasB]
      have e : ((j : Int) - by_).toNat = j - by_.toNat := by omega
      rw [e]
      by_cases h1 : by_.toNat ≤ j
      · simp [h1, show j < 64 by omega, show by_ ≤ (j : Int) by omega]
        intros; omega
      · simp [h1]
        intros; omega
    · simp [hj]
theorem moveN_lt (s : Nat) (by_ : Int) (n : Nat) (hn : n ≤ 64) : moveN s by_ n < 18446744073709551616 := by
  unfold moveN
  split
  · exact Nat.lt_of_le_of_lt Nat.and_le_right (mask_lt hn)
  · exact Nat.lt_of_le_of_lt Nat.and_le_right (mask_lt hn)
def moveOk (by_ n : Int) : Bool := decide (0 ≤ n) && (decide (n ≤ 64) && (decide (-64 ≤ by_) && decide (by_ ≤ 64)))
def moveV (s : Nat) (by_ n : Int) : Nat := if moveOk by_ n = true then moveN s by_ n.toNat else 0
def moveE (by_ n : Int) : Int := if moveOk by_ n = true then 0 else 10

theorem moveA_is (s : Nat) (by_ n : Int) (hs : s < 18446744073709551616) (r : Nat) (e0 : Int) (hr : moveV s by_ n = r) (he : moveE by_ n = e0) (w : World) :
    Calls Tryd.prog 28 #[.int .u64 s, .int .i64 by_, .int .i64 n] w fun e w' => e = .returned (.tuple #[.int .u64 r, .int .i64 e0]) ∧ w = w' := by
  by_cases hok : moveOk by_ n = true
  · have HE : Hid (0 = e0) := by show _ = _; rw [← he, moveE, if_pos hok]
    have HR : Hid (moveN s by_ n.toNat = r) := by show _ = _; rw [← hr, moveV, if_pos hok]
    simp only [moveOk, Bool.and_eq_true, decide_eq_true_eq] at hok
    obtain ⟨a1, a2, a3, a4⟩ := hok
    have hw1 := Lib.hid (show (decide ((0 : Int) ≤ n) && decide (n ≤ 64)) = true by simp [a1, a2])
    have hw2 := Lib.hid (show (decide ((-64 : Int) ≤ by_) && decide (by_ ≤ 64)) = true by simp [a3, a4])
    obtain ⟨m, rfl⟩ : ∃ m : Nat, n = m := ⟨n.toNat, by omega⟩
    have hm : m ≤ 64 := by omega
    rw [show (m : Int).toNat = m from rfl] at HR
    have hml := mask_lt hm
    obtain ⟨q, hq⟩ : ∃ q, 2 ^ m - 1 = q := ⟨_, rfl⟩
    have HQ := Lib.hid hq
    rw [hq] at hml
    by_cases hb : by_ < 0
    · obtain ⟨c, hc, hc64⟩ : ∃ c : Nat, by_ = -(c : Int) ∧ c ≤ 64 := ⟨(-by_).toNat, by clear hq hml; omega, by clear hq hml; omega⟩
      have hneg2 : wrap64 (c : Int) = (c : Int) := by clear hq hml; unfold wrap64; omega
      have hd : s / 2 ^ c < 18446744073709551616 := Nat.lt_of_le_of_lt (Nat.div_le_self _ _) hs
      have HA : bits BinOp.and IntKind.u64 ((s : Int) / 2 ^ c) (q : Int) = ((s / 2 ^ c &&& q : Nat) : Int) := by
        rw [cast_div_pow]; exact u64_and_nat _ _ hd hml
      have HV : Hid (((s / 2 ^ c &&& q : Nat) : Int) = (r : Int)) := by
        show _ = _
        rw [← HR.out, moveN, if_pos hb, hq, hc, Int.neg_neg, Int.toNat_natCast]
      obtain ⟨v, hv⟩ : ∃ v : Nat, s / 2 ^ c &&& q = v := ⟨_, rfl⟩
      rw [hv] at HA HV
      subst hc
      clear hr he hq hs hd hv HR
      go_enter Tryd.func28, Tryd.ntmps28
      go_wp2_with fail
      refine (within_is _ 0 64 true hw1.out _).mono ?_
      rintro e w1 ⟨rfl, rfl⟩
      go_wp2_with fail
      refine (within_is _ (-64) 64 true hw2.out _).mono ?_
      rintro e w1 ⟨rfl, rfl⟩
      go_wp2_with fail
      refine (mask_any m hm _).mono ?_
      rintro e w1 ⟨rfl, rfl⟩
      rw [HQ.out]
      go_wp2
      go_ret2
      exact ⟨rii HV.out HE.out, rfl⟩
    · obtain ⟨c, hc, hc64⟩ : ∃ c : Nat, by_ = (c : Int) ∧ c ≤ 64 := ⟨by_.toNat, by clear hq hml; omega, by clear hq hml; omega⟩
      have hd : s * 2 ^ c % 18446744073709551616 < 18446744073709551616 := Nat.mod_lt _ (by decide)
      have HW : IntKind.u64.wrap ((s : Int) * 2 ^ c) = ((s * 2 ^ c % 18446744073709551616 : Nat) : Int) := by
        rw [IntKind.wrap_u64, Int.natCast_emod]; first | done | simp
      have HA : bits BinOp.and IntKind.u64 (IntKind.u64.wrap ((s : Int) * 2 ^ c)) (q : Int) = ((s * 2 ^ c % 18446744073709551616 &&& q : Nat) : Int) := by
        rw [HW]; exact u64_and_nat _ _ hd hml
      have HV : Hid (((s * 2 ^ c % 18446744073709551616 &&& q : Nat) : Int) = (r : Int)) := by
        show _ = _
        rw [← HR.out, moveN, if_neg hb, hq, hc, Int.toNat_natCast]
      obtain ⟨v, hv⟩ : ∃ v : Nat, s * 2 ^ c % 18446744073709551616 &&& q = v := ⟨_, rfl⟩
      rw [hv] at HA HV
      subst hc
      clear hr he hq hs hd hv HR HW
      go_enter Tryd.func28, Tryd.ntmps28
      go_wp2_with fail
      refine (within_is _ 0 64 true hw1.out _).mono ?_
      rintro e w1 ⟨rfl, rfl⟩
      go_wp2_with fail
      refine (within_is _ (-64) 64 true hw2.out _).mono ?_
      rintro e w1 ⟨rfl, rfl⟩
      go_wp2_with fail
      refine (mask_any m hm _).mono ?_
      rintro e w1 ⟨rfl, rfl⟩
      rw [HQ.out]
      go_wp2
      go_ret2
      exact ⟨rii HV.out HE.out, rfl⟩
  · have HE : Hid (10 = e0) := by show _ = _; rw [← he, moveE, if_neg hok]
    have HR : Hid (0 = (r : Int)) := by show _ = _; rw [← hr, moveV, if_neg hok, Int.natCast_zero]
    by_cases h1 : (decide ((0 : Int) ≤ n) && decide (n ≤ 64)) = true
    · have hw1 := Lib.hid h1
      have hw2 := Lib.hid (show (decide ((-64 : Int) ≤ by_) && decide (by_ ≤ 64)) = false by
        rw [Bool.and_eq_true, decide_eq_true_iff, decide_eq_true_iff] at h1
        simp [moveOk, h1.1, h1.2] at hok
        simp; omega)
      clear hr he hok h1
      go_enter Tryd.func28, Tryd.ntmps28
      go_wp2_with fail
      refine (within_is _ 0 64 true hw1.out _).mono ?_
      rintro e w1 ⟨rfl, rfl⟩
      go_wp2_with fail
      refine (within_is _ (-64) 64 false hw2.out _).mono ?_
      rintro e w1 ⟨rfl, rfl⟩
      go_wp2
      go_ret2
      exact ⟨rii HR.out HE.out, rfl⟩
    · have hw1 := Lib.hid (show (decide ((0 : Int) ≤ n) && decide (n ≤ 64)) = false by cases h : (decide ((0 : Int) ≤ n) && decide (n ≤ 64)); · rfl
                                                                                       · exact absurd h h1)
      clear hr he hok h1
      go_enter Tryd.func28, Tryd.ntmps28
      go_wp2_with fail
      refine (within_is _ 0 64 false hw1.out _).mono ?_
      rintro e w1 ⟨rfl, rfl⟩
      go_wp2
      go_ret2
      exact ⟨rii HR.out HE.out, rfl⟩

theorem moveR_is (s : Nat) (by_ n : Int) (hs : s < 18446744073709551616) (r : Nat) (e0 : Int) (hr : moveV s by_ n = r) (he : moveE by_ n = e0) (w : World) :
    Calls Tryd.prog 29 #[.int .u64 s, .int .i64 by_, .int .i64 n] w fun e w' => e = .returned (.tuple #[.int .u64 r, .int .i64 e0]) ∧ w = w' := by
  by_cases hok : moveOk by_ n = true
  · have HE : Hid (0 = e0) := by show _ = _; rw [← he, moveE, if_pos hok]
    have HR : Hid (moveN s by_ n.toNat = r) := by show _ = _; rw [← hr, moveV, if_pos hok]
    simp only [moveOk, Bool.and_eq_true, decide_eq_true_eq] at hok
    obtain ⟨a1, a2, a3, a4⟩ := hok
    obtain ⟨m, rfl⟩ : ∃ m : Nat, n = m := ⟨n.toNat, by omega⟩
    have hm : m ≤ 64 := by omega
    have HM : Hid (MoveTo s by_ m 64 r) := by show MoveTo _ _ _ _ _; rw [← HR.out]; exact moveN_to s by_ m hm hs
    clear hr he HR
    go_enter Tryd.func29, Tryd.ntmps29
    go_wp2_with fail
    go_loop [8, 9] (fun v i => ∃ (k : Nat) (o : Nat), k ≤ 64 ∧ i = .int .i64 k ∧ v = .int .u64 o ∧ Hid (MoveTo s by_ m k o)) (fun _ i => 64 - (intOf i).toNat)
    case atStart => exact ⟨0, 0, Nat.zero_le _, rfl, rfl, moveTo_zero s by_ m⟩
    case round =>
      obtain ⟨k, o, hk, rfl, rfl, HK⟩ := hrel
      by_cases hlt : k < 64
      · have hwr : wrap64 ((k : Int) + by_) = (k : Int) + by_ := by unfold wrap64; omega
        cases hb : hasB s k
        · have HN := Lib.hid (moveTo_no HK.out (.inl hb))
          have HH := Lib.hid hb
          clear hb
          go_wp2_with fail
          refine (hasR_is s k false HH.out hs _).mono ?_
          rintro e w1 ⟨rfl, rfl⟩
          go_wp2
          go_round
          case rel => exact ⟨k + 1, o, by omega, by go_num, rfl, HN⟩
          case measure => simp [intOf]; omega
        · have HH := Lib.hid hb
          by_cases h1 : (k : Int) + by_ < 0
          · have HN := Lib.hid (moveTo_no HK.out (.inr (.inl h1)))
            clear hb
            go_wp2_with fail
            refine (hasR_is s k true HH.out hs _).mono ?_
            rintro e w1 ⟨rfl, rfl⟩
            go_wp2
            go_round
            case rel => exact ⟨k + 1, o, by omega, by go_num, rfl, HN⟩
            case measure => simp [intOf]; omega
          · by_cases h2 : (m : Int) ≤ k + by_
            · have HN := Lib.hid (moveTo_no HK.out (.inr (.inr h2)))
              clear hb
              go_wp2_with fail
              refine (hasR_is s k true HH.out hs _).mono ?_
              rintro e w1 ⟨rfl, rfl⟩
              go_wp2
              go_round
              case rel => exact ⟨k + 1, o, by omega, by go_num, rfl, HN⟩
              case measure => simp [intOf]; omega
            · obtain ⟨q, hq⟩ : ∃ q : Nat, (k : Int) + by_ = q := ⟨((k : Int) + by_).toNat, by omega⟩
              have HN := Lib.hid (moveTo_yes HK.out hb hq (by omega))
              have h3 := moveTo_lt HK.out
              rw [hq] at h3
              have h4 : 2 ^ q ≤ 9223372036854775808 := pow_lt64 (by omega)
              rw [show ((q : Nat) : Int).toNat = q from rfl] at h3
              obtain ⟨p, hp⟩ : ∃ p : Nat, 2 ^ q = p := ⟨_, rfl⟩
              have HP := Lib.hid hp
              rw [hp] at HN h3 h4
              have hws : IntKind.u64.wrap ((o : Int) + (p : Int)) = ((o + p : Nat) : Int) := by rw [IntKind.wrap_u64]; omega
              have hq63 : (q : Int) ≤ 63 := by omega
              have HQ := Lib.hid hq
              clear hb hp
              go_wp2_with fail
              refine (hasR_is s k true HH.out hs _).mono ?_
              rintro e w1 ⟨rfl, rfl⟩
              go_wp2_with fail
              refine (worth_any q hq63 _).mono ?_
              rintro e w1 ⟨rfl, rfl⟩
              rw [show ((q : Nat) : Int).toNat = q from rfl, HP.out]
              go_wp2
              go_round
              case rel => exact ⟨k + 1, o + p, by omega, by go_num, by first | rfl | (congr 1), HN⟩
              case measure => simp [intOf]; omega
      · have HF : Hid ((o : Int) = (r : Int)) := by
          show _ = _
          have h5 := HK.out
          rw [show k = 64 by omega] at h5
          rw [moveTo_uniq h5 HM.out]
        go_wp2
        go_ret2
        exact ⟨rii HF.out HE.out, rfl⟩
  · have HE : Hid (10 = e0) := by show _ = _; rw [← he, moveE, if_neg hok]
    have HR : Hid (0 = (r : Int)) := by show _ = _; rw [← hr, moveV, if_neg hok, Int.natCast_zero]
    by_cases h1 : n < 0
    · clear hr he hok
      go_enter Tryd.func29, Tryd.ntmps29
      go_wp2
      go_ret2
      exact ⟨rii HR.out HE.out, rfl⟩
    by_cases h2 : 64 < n
    · clear hr he hok
      go_enter Tryd.func29, Tryd.ntmps29
      go_wp2
      go_ret2
      exact ⟨rii HR.out HE.out, rfl⟩
    by_cases h3 : by_ < -64
    · clear hr he hok
      go_enter Tryd.func29, Tryd.ntmps29
      go_wp2
      go_ret2
      exact ⟨rii HR.out HE.out, rfl⟩
    have h4 : 64 < by_ := by
      simp [moveOk, show 0 ≤ n by omega, show n ≤ 64 by omega, show -64 ≤ by_ by omega] at hok; exact hok
    clear hr he hok
    go_enter Tryd.func29, Tryd.ntmps29
    go_wp2
    go_ret2
    exact ⟨rii HR.out HE.out, rfl⟩
end Go.Proofs.YtdaijibkafepcaaDoor
