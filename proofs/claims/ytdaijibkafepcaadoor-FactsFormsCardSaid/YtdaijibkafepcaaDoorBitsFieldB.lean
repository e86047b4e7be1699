/-
  THE BITS LAYER: Field: of the program and of the reference.
-/
import Derived.Test.YtdaijibkafepcaaDoorBitsField
namespace Go.Proofs.YtdaijibkafepcaaDoor
open Go.RowKit
set_option linter.unusedVariables false

def fieldN (s a n : Nat) : Nat := s / 2 ^ a % 2 ^ n
def fieldI (s a n : Nat) : Int := if 2 ^ (n - 1) ≤ fieldN s a n then (fieldN s a n : Int) - ((2 ^ n : Nat) : Int) else (fieldN s a n : Int)
theorem pow64_split {d n : Nat} (h : d + n = 64) : 2 ^ n * 2 ^ d = 18446744073709551616 := by rw [← Nat.pow_add, Nat.add_comm n d, h]
theorem pow63_split {d n : Nat} (h : d + n = 64) (hn : 1 ≤ n) : 2 ^ (n - 1) * 2 ^ d = 9223372036854775808 := by rw [← Nat.pow_add, show n - 1 + d = 63 by omega]
theorem field_top (s a n c : Nat) (h : a + n + c = 64) : s * 2 ^ c % 18446744073709551616 / 2 ^ (a + c) = fieldN s a n := by
  rw [← pow64_split (d := c) (n := a + n) (by omega), Nat.mul_mod_mul_right, Nat.pow_add 2 a c, Nat.mul_div_mul_right _ _ (Nat.two_pow_pos c), Nat.pow_add 2 a n, Nat.mod_mul]
  unfold fieldN
  rw [Nat.add_mul_div_left _ _ (Nat.two_pow_pos a), Nat.div_eq_of_lt (Nat.mod_lt _ (Nat.two_pow_pos a)), Nat.zero_add]
theorem wrap64_top (t : Nat) (h : t < 18446744073709551616) : wrap64 (t : Int) = if 9223372036854775808 ≤ t then (t : Int) - 18446744073709551616 else (t : Int) := by
  unfold wrap64
  split <;> omega
theorem field_num (s a n c : Nat) (h : a + n + c = 64) (hn : 1 ≤ n) : wrap64 ((s * 2 ^ c % 18446744073709551616 : Nat) : Int) / 2 ^ (a + c) = fieldI s a n := by
  have ht := field_top s a n c h
  rw [wrap64_top _ (Nat.mod_lt _ (by decide))]
  obtain ⟨t, htt⟩ : ∃ t, s * 2 ^ c % 18446744073709551616 = t := ⟨_, rfl⟩
  rw [htt] at ht ⊢
  have p63 := pow63_split (d := a + c) (n := n) (by omega) hn
  have p64 := pow64_split (d := a + c) (n := n) (by omega)
  have hiff : 9223372036854775808 ≤ t ↔ 2 ^ (n - 1) ≤ fieldN s a n := by
    rw [← ht, Nat.le_div_iff_mul_le (Nat.two_pow_pos _), p63]
  unfold fieldI
  have e : ((2 : Int) ^ (a + c)) = ((2 ^ (a + c) : Nat) : Int) := by simp
  by_cases hh : 9223372036854775808 ≤ t
  · rw [if_pos hh, if_pos (hiff.1 hh), e]
    have e2 : (18446744073709551616 : Int) = ((2 ^ n : Nat) : Int) * ((2 ^ (a + c) : Nat) : Int) := by rw [← Int.natCast_mul, p64]; rfl
    have hne : ((2 ^ (a + c) : Nat) : Int) ≠ 0 := by have := Nat.two_pow_pos (a + c); omega
    rw [e2, Int.sub_mul_ediv_right _ _ hne, ← Int.natCast_ediv, ht]
  · rw [if_neg hh, if_neg (fun x => hh (hiff.2 x)), e, ← Int.natCast_ediv, ht]
def fieldOk (a n : Int) : Bool := decide (1 ≤ n) && (decide (n ≤ 64) && (decide (0 ≤ a) && decide (a ≤ 64 - n)))
def fieldV (s : Nat) (a n : Int) : Int := if fieldOk a n = true then fieldI s a.toNat n.toNat else 0
def fieldE (a n : Int) : Int := if fieldOk a n = true then 0 else 10

theorem fieldA_is (s : Nat) (a n : Int) (hs : s < 18446744073709551616) (r e0 : Int) (hr : fieldV s a n = r) (he : fieldE a n = e0) (w : World) :
    Calls Tryd.prog 30 #[.int .u64 s, .int .i64 a, .int .i64 n] w fun e w' => e = .returned (.tuple #[.int .i64 r, .int .i64 e0]) ∧ w = w' := by
  by_cases hok : fieldOk a n = true
  · have HE : Hid (0 = e0) := by show _ = _; rw [← he, fieldE, if_pos hok]
    have HR : Hid (fieldI s a.toNat n.toNat = r) := by show _ = _; rw [← hr, fieldV, if_pos hok]
    simp only [fieldOk, Bool.and_eq_true, decide_eq_true_eq] at hok
    obtain ⟨a1, a2, a3, a4⟩ := hok
    have hw1 := Lib.hid (show (decide ((1 : Int) ≤ n) && decide (n ≤ 64)) = true by simp [a1, a2])
    have hw2 := Lib.hid (show (decide ((0 : Int) ≤ a) && decide (a ≤ 64 - n)) = true by simp [a3]; omega)
    have hwr : wrap64 (64 - n) = 64 - n := by unfold wrap64; omega
    obtain ⟨m, rfl⟩ : ∃ m : Nat, n = m := ⟨n.toNat, by omega⟩
    obtain ⟨b, rfl⟩ : ∃ b : Nat, a = b := ⟨a.toNat, by omega⟩
    obtain ⟨c, hc⟩ : ∃ c : Nat, b + m + c = 64 := ⟨64 - b - m, by omega⟩
    have hc3 : c ≤ 64 := by omega
    have hc4 : b + c ≤ 63 := by omega
    have HN : Hid (wrap64 ((s * 2 ^ c % 18446744073709551616 : Nat) : Int) / 2 ^ (b + c) = r) := by
      show _ = _
      rw [field_num s b m c hc (by omega), ← HR.out]; rfl
    have HW : IntKind.u64.wrap ((s : Int) * 2 ^ c) = ((s * 2 ^ c % 18446744073709551616 : Nat) : Int) := by
      rw [IntKind.wrap_u64, Int.natCast_emod]; first | done | simp
    obtain ⟨t, htt⟩ : ∃ t, s * 2 ^ c % 18446744073709551616 = t := ⟨_, rfl⟩
    rw [htt] at HN HW
    clear hr he HR hs htt hwr
    go_enter Tryd.func30, Tryd.ntmps30
    go_wp2_with fail
    refine (within_is _ 1 64 true hw1.out _).mono ?_
    rintro e w1 ⟨rfl, rfl⟩
    go_wp2_with fail
    refine (within_is _ 0 _ true (by first | exact hw2.out | (simp; omega)) _).mono ?_
    rintro e w1 ⟨rfl, rfl⟩
    go_wp2
    go_ret2
    refine ⟨rii ?_ HE.out, rfl⟩
    show wrap64 (IntKind.u64.wrap ((s : Int) * 2 ^ (64 - b - m))) / 2 ^ (64 - m) = r
    rw [show 64 - b - m = c by omega, show 64 - m = b + c by omega, HW]
    exact HN.out
  · have HE : Hid (10 = e0) := by show _ = _; rw [← he, fieldE, if_neg hok]
    have HR : Hid (0 = r) := by show _ = _; rw [← hr, fieldV, if_neg hok]
    by_cases h1 : (decide ((1 : Int) ≤ n) && decide (n ≤ 64)) = true
    · have hw1 := Lib.hid h1
      rw [Bool.and_eq_true, decide_eq_true_iff, decide_eq_true_iff] at h1
      obtain ⟨b1, b2⟩ := h1
      have hwr : wrap64 (64 - n) = 64 - n := by unfold wrap64; omega
      have hw2 := Lib.hid (show (decide ((0 : Int) ≤ a) && decide (a ≤ 64 - n)) = false by
        simp [fieldOk, b1, b2] at hok
        simp; omega)
      clear hr he hok
      go_enter Tryd.func30, Tryd.ntmps30
      go_wp2_with fail
      refine (within_is _ 1 64 true hw1.out _).mono ?_
      rintro e w1 ⟨rfl, rfl⟩
      go_wp2_with fail
      refine (within_is _ 0 _ false (by first | exact hw2.out | (simp; omega)) _).mono ?_
      rintro e w1 ⟨rfl, rfl⟩
      go_wp2
      go_ret2
      exact ⟨rii HR.out HE.out, rfl⟩
    · have hw1 := Lib.hid (Bool.eq_false_iff.2 h1)
      clear hr he hok h1
      go_enter Tryd.func30, Tryd.ntmps30
      go_wp2_with fail
      refine (within_is _ 1 64 false hw1.out _).mono ?_
      rintro e w1 ⟨rfl, rfl⟩
      go_wp2
      go_ret2
      exact ⟨rii HR.out HE.out, rfl⟩

theorem field_bit (s a k : Nat) : (s / 2 ^ a % 2 ^ (k + 1)) = s / 2 ^ a % 2 ^ k + (if s.testBit (a + k) = true then 2 ^ k else 0) := by
  rw [Nat.pow_succ, Nat.mod_mul, Nat.add_comm a k, ← Nat.testBit_div_two_pow, Nat.testBit_eq_decide_div_mod_eq]
  rcases Nat.mod_two_eq_zero_or_one (s / 2 ^ a / 2 ^ k) with h | h <;> simp [h]
theorem fieldI_bit (s a n : Nat) (hn : 1 ≤ n) : fieldI s a n = if s.testBit (a + (n - 1)) = true then (fieldN s a (n - 1) : Int) - ((2 ^ (n - 1) : Nat) : Int) else (fieldN s a (n - 1) : Int) := by
  have e := field_bit s a (n - 1)
  rw [show n - 1 + 1 = n by omega] at e
  have hl : fieldN s a (n - 1) < 2 ^ (n - 1) := Nat.mod_lt _ (Nat.two_pow_pos _)
  have e2 : 2 ^ n = 2 * 2 ^ (n - 1) := by rw [show n = (n - 1) + 1 by omega, Nat.pow_succ]; simp; omega
  unfold fieldI
  rw [show fieldN s a n = s / 2 ^ a % 2 ^ n from rfl, e, e2]
  rw [show s / 2 ^ a % 2 ^ (n - 1) = fieldN s a (n - 1) from rfl]
  generalize fieldN s a (n - 1) = f at *
  generalize 2 ^ (n - 1) = p at *
  cases h : s.testBit (a + (n - 1))
  · simp; omega
  · simp; omega
theorem worth_at (i : Int) (j v : Nat) (hj : i.toNat = j) (hv : 2 ^ j = v) (hi : i ≤ 63) (w : World) : Calls Tryd.prog 62 #[.int .i64 i] w fun e w' => e = .returned (.int .u64 v) ∧ w = w' := by
  subst hv hj; exact worth_any i hi w
set_option maxRecDepth 100000 in
set_option maxHeartbeats 1000000 in
theorem fieldR_is (s : Nat) (a n : Int) (hs : s < 18446744073709551616) (r e0 : Int) (hr : fieldV s a n = r) (he : fieldE a n = e0) (w : World) :
    Calls Tryd.prog 31 #[.int .u64 s, .int .i64 a, .int .i64 n] w fun e w' => e = .returned (.tuple #[.int .i64 r, .int .i64 e0]) ∧ w = w' := by
  by_cases hok : fieldOk a n = true
  · have HE : Hid (0 = e0) := by show _ = _; rw [← he, fieldE, if_pos hok]
    have HR : Hid (fieldI s a.toNat n.toNat = r) := by show _ = _; rw [← hr, fieldV, if_pos hok]
    simp only [fieldOk, Bool.and_eq_true, decide_eq_true_eq] at hok
    obtain ⟨a1, a2, a3, a4⟩ := hok
    obtain ⟨b, rfl⟩ : ∃ b : Nat, a = b := ⟨a.toNat, by omega⟩
    have hb : b + (n.toNat - 1) ≤ 63 := by omega
    have HF := Lib.hid (fieldI_bit s b n.toNat (by omega))
    have HR2 : Hid (fieldI s b n.toNat = r) := HR.out
    obtain ⟨m, hm⟩ : ∃ m, n.toNat - 1 = m := ⟨_, rfl⟩
    have HM : Hid (n = (m : Int) + 1) := by show _ = _; omega
    have hm1 : (m : Int) < n := by omega
    have hm2 : n < (m : Int) + 2 := by omega
    rw [hm] at HF hb
    clear hr he HR hm
    go_enter Tryd.func31, Tryd.ntmps31
    go_wp2_with fail
    go_loop [8, 9] (fun v i => ∃ (k : Nat) (o : Nat), k ≤ m ∧ i = .int .i64 k ∧ v = .int .i64 o ∧ Hid (s / 2 ^ b % 2 ^ k = o)) (fun _ i => m - (intOf i).toNat)
    case atStart => exact ⟨0, 0, Nat.zero_le _, rfl, rfl, by show _ = _; simp [Nat.mod_one]⟩
    case round =>
      obtain ⟨k, o, hk, rfl, rfl, HK⟩ := hrel
      have ho : o < 2 ^ k := by rw [← HK.out]; exact Nat.mod_lt _ (Nat.two_pow_pos _)
      by_cases hlt : k < m
      · have hp : 2 ^ k ≤ 4611686018427387904 := Nat.pow_le_pow_right (by decide : 1 ≤ 2) (show k ≤ 62 by omega)
        have HB : Hid (s / 2 ^ b % 2 ^ (k + 1) = o + (if s.testBit (b + k) = true then 2 ^ k else 0)) := by show _ = _; rw [field_bit, HK.out]
        obtain ⟨p, hpp⟩ : ∃ p : Nat, 2 ^ k = p := ⟨_, rfl⟩
        have HP := Lib.hid hpp
        rw [hpp] at ho hp HB
        clear hpp
        have h64 : b + k < 64 := by omega
        cases hbit : s.testBit (b + k)
        · have HN : Hid (s / 2 ^ b % 2 ^ (k + 1) = o) := by show _ = _; rw [HB.out, hbit]; simp
          have HH : Hid (∀ i : Int, i = (b : Int) + (k : Int) → hasB s i = false) := by rintro i rfl; rw [hasB, show ((b : Int) + (k : Int)).toNat = b + k by omega, hbit]; simp
          clear hbit HB
          go_wp2_with fail
          refine (hasR_is s _ false (HH.out _ (by omega)) hs _).mono ?_
          rintro e w1 ⟨rfl, rfl⟩
          go_wp2
          go_round
          case rel => exact ⟨k + 1, o, by omega, by go_num, rfl, HN⟩
          case measure => simp [intOf]; omega
        · have HN : Hid (s / 2 ^ b % 2 ^ (k + 1) = o + p) := by show _ = _; rw [HB.out, hbit]; simp
          have HH : Hid (∀ i : Int, i = (b : Int) + (k : Int) → hasB s i = true) := by rintro i rfl; rw [hasB, show ((b : Int) + (k : Int)).toNat = b + k by omega, hbit]; simp; omega
          clear hbit HB
          go_wp2_with fail
          refine (hasR_is s _ true (HH.out _ (by omega)) hs _).mono ?_
          rintro e w1 ⟨rfl, rfl⟩
          go_wp2_with fail
          refine (worth_at _ k p (by omega) HP.out (by omega) _).mono ?_
          rintro e w1 ⟨rfl, rfl⟩
          go_wp2
          go_round
          case rel => exact ⟨k + 1, o + p, by omega, by go_num, by first | rfl | (congr 1), HN⟩
          case measure => simp [intOf]; omega
      · obtain rfl : k = m := by omega
        have hk9 : Hid (fieldN s b k = o) := HK.out
        have h64 : b + k < 64 := by omega
        cases hbit : s.testBit (b + k)
        · have HH : Hid (∀ i : Int, i = (b : Int) + (k : Int) → hasB s i = false) := by rintro i rfl; rw [hasB, show ((b : Int) + (k : Int)).toNat = b + k by omega, hbit]; simp
          have HV : Hid ((o : Int) = r) := by show _ = _; rw [← HR2.out, HF.out, hbit, hk9.out]; simp
          clear hbit ho
          go_wp2_with fail
          refine (hasR_is s _ false (HH.out _ (by omega)) hs _).mono ?_
          rintro e w1 ⟨rfl, rfl⟩
          go_wp2
          go_ret2
          exact ⟨rii HV.out HE.out, rfl⟩
        · have HH : Hid (∀ i : Int, i = (b : Int) + (k : Int) → hasB s i = true) := by rintro i rfl; rw [hasB, show ((b : Int) + (k : Int)).toNat = b + k by omega, hbit]; simp; omega
          have HV : Hid ((o : Int) - ((2 ^ k : Nat) : Int) = r) := by show _ = _; rw [← HR2.out, HF.out, hbit, hk9.out]; simp
          rcases Nat.eq_zero_or_pos k with h0 | h0
          · subst h0
            have HV2 : Hid (-1 = r) := by
              show _ = _
              have h1 : o = 0 := by simpa using ho
              have := HV.out
              rw [h1] at this; simpa using this
            have ho1 : o < 1 := by simpa using ho
            clear hbit ho
            have hn1 : n = 1 := by omega
            subst hn1
            go_wp2_with fail
            refine (hasR_is s _ true (HH.out _ (by omega)) hs _).mono ?_
            rintro e w1 ⟨rfl, rfl⟩
            go_wp2_with fail
            refine (worth_at _ 0 1 (by omega) rfl (by omega) _).mono ?_
            rintro e w1 ⟨rfl, rfl⟩
            go_wp2_with fail
            refine (worth_at _ 0 1 (by omega) rfl (by omega) _).mono ?_
            rintro e w1 ⟨rfl, rfl⟩
            go_wp2
            go_ret2
            exact ⟨rii HV2.out HE.out, rfl⟩
          · obtain ⟨j, rfl⟩ : ∃ j, k = j + 1 := ⟨k - 1, by omega⟩
            have hp : 2 ^ j ≤ 4611686018427387904 := Nat.pow_le_pow_right (by decide : 1 ≤ 2) (show j ≤ 62 by omega)
            rw [Nat.pow_succ] at HV ho
            have hn1 : (n == 1) = false := by simp; omega
            obtain ⟨p, hpp⟩ : ∃ p : Nat, 2 ^ j = p := ⟨_, rfl⟩
            have HP := Lib.hid hpp
            rw [hpp] at ho hp HV
            clear hpp
            have hop : o < p + p := by omega
            clear hbit
            go_wp2_with fail
            refine (hasR_is s _ true (HH.out _ (by omega)) hs _).mono ?_
            rintro e w1 ⟨rfl, rfl⟩
            go_wp2_with fail
            refine (worth_at _ j p (by omega) HP.out (by omega) _).mono ?_
            rintro e w1 ⟨rfl, rfl⟩
            go_wp2_with fail
            refine (worth_at _ j p (by omega) HP.out (by omega) _).mono ?_
            rintro e w1 ⟨rfl, rfl⟩
            go_wp2
            go_ret2
            exact ⟨rii (by have := HV.out; omega) HE.out, rfl⟩
  · have HE : Hid (10 = e0) := by show _ = _; rw [← he, fieldE, if_neg hok]
    have HR : Hid (0 = r) := by show _ = _; rw [← hr, fieldV, if_neg hok]
    by_cases h1 : n < 1
    · clear hr he hok
      go_enter Tryd.func31, Tryd.ntmps31
      go_wp2
      go_ret2
      exact ⟨rii HR.out HE.out, rfl⟩
    by_cases h2 : 64 < n
    · clear hr he hok
      go_enter Tryd.func31, Tryd.ntmps31
      go_wp2
      go_ret2
      exact ⟨rii HR.out HE.out, rfl⟩
    by_cases h3 : a < 0
    · clear hr he hok
      go_enter Tryd.func31, Tryd.ntmps31
      go_wp2
      go_ret2
      exact ⟨rii HR.out HE.out, rfl⟩
    have h4 : 64 - n < a := by
      simp [fieldOk, show 1 ≤ n by omega, show n ≤ 64 by omega, show 0 ≤ a by omega] at hok; exact hok
    have hwr : wrap64 (64 - n) = 64 - n := by unfold wrap64; omega
    clear hr he hok
    go_enter Tryd.func31, Tryd.ntmps31
    go_wp2
    go_ret2
    exact ⟨rii HR.out HE.out, rfl⟩
end Go.Proofs.YtdaijibkafepcaaDoor
