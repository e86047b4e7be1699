/-
  THE BITS LAYER: Full, Next, Move: of the program and of the reference.
-/
import Derived.Test.YtdaijibkafepcaaDoorBitsCount
namespace Go.Proofs.YtdaijibkafepcaaDoor
open Go.RowKit
set_option linter.unusedVariables false

theorem add_pow {x m : Nat} (h : x < 2 ^ m) (j : Nat) : (x + 2 ^ m).testBit j = (x.testBit j || decide (m = j)) := by
  have e : x + 2 ^ m = 2 ^ m * 1 + x := by omega
  rw [e, Nat.testBit_two_pow_mul_add _ h]
  by_cases h1 : j < m
  · simp [h1]; omega
  · have hx : x.testBit j = false := Nat.testBit_lt_two_pow (Nat.lt_of_lt_of_le h (Nat.pow_le_pow_right (by omega) (by omega)))
    rw [if_neg h1, hx, Bool.false_or, Bool.eq_iff_iff, decide_eq_true_iff, Nat.testBit_one_eq_true_iff_self_eq_zero]
    omega
theorem not_bit (b j : Nat) (hb : b < 18446744073709551616) : (18446744073709551615 - b).testBit j = (decide (j < 64) && !b.testBit j) := by
  have e : 18446744073709551615 - b = 2 ^ 64 - (b + 1) := by omega
  rw [e, Nat.testBit_two_pow_sub_succ (by simpa using hb)]
theorem mask_bit (n j : Nat) : (2 ^ n - 1).testBit j = decide (j < n) := Nat.testBit_two_pow_sub_one n j
theorem mask_lt {n : Nat} (hn : n ≤ 64) : 2 ^ n - 1 < 18446744073709551616 := by have := pow_le64 hn; have := Nat.two_pow_pos n; omega
theorem bit_lt {x j : Nat} (hx : x < 18446744073709551616) (h : x.testBit j = true) : j < 64 := by
  rcases Nat.lt_or_ge j 64 with h1 | h1
  · exact h1
  · rw [Nat.testBit_lt_two_pow (Nat.lt_of_lt_of_le hx (Nat.pow_le_pow_right (by omega : 0 < 2) h1))] at h; cases h

/-! ### Full -/
def fullV (n : Int) : Int := if 0 ≤ n ∧ n ≤ 64 then ((2 ^ n.toNat - 1 : Nat) : Int) else 0
def fullE (n : Int) : Int := if 0 ≤ n ∧ n ≤ 64 then 0 else 10
theorem fullA_is (n : Int) (r e0 : Int) (hr : fullV n = r) (he : fullE n = e0) (w : World) : Calls Tryd.prog 14 #[.int .i64 n] w fun e w' => e = .returned (.tuple #[.int .u64 r, .int .i64 e0]) ∧ w = w' := by
  by_cases h : 0 ≤ n ∧ n ≤ 64
  · have HR : Hid (((2 ^ n.toNat - 1 : Nat) : Int) = r) := by show _ = _; rw [← hr, fullV, if_pos h]
    have HE : Hid (0 = e0) := by show _ = _; rw [← he, fullE, if_pos h]
    have hw := Lib.hid (show (decide ((0 : Int) ≤ n) && decide (n ≤ 64)) = true by simp [h.1, h.2])
    obtain ⟨m, rfl⟩ : ∃ m : Nat, n = m := ⟨n.toNat, by omega⟩
    have hm : m ≤ 64 := by omega
    clear hr he h
    go_enter Tryd.func14, Tryd.ntmps14
    go_wp2_with fail
    refine (within_is _ 0 64 true hw.out _).mono ?_
    rintro e w1 ⟨rfl, rfl⟩
    go_wp2_with fail
    refine (mask_any m hm _).mono ?_
    rintro e w1 ⟨rfl, rfl⟩
    go_wp2
    go_ret2
    exact ⟨rii (by simpa using HR.out) HE.out, rfl⟩
  · have HR : Hid (0 = r) := by show _ = _; rw [← hr, fullV, if_neg h]
    have HE : Hid (10 = e0) := by show _ = _; rw [← he, fullE, if_neg h]
    have hw := Lib.hid (show (decide ((0 : Int) ≤ n) && decide (n ≤ 64)) = false by simp; omega)
    clear hr he h
    go_enter Tryd.func14, Tryd.ntmps14
    go_wp2_with fail
    refine (within_is _ 0 64 false hw.out _).mono ?_
    rintro e w1 ⟨rfl, rfl⟩
    go_wp2
    go_ret2
    exact ⟨rii HR.out HE.out, rfl⟩
theorem full_step (k : Nat) (hk : k < 64) : IntKind.u64.wrap (((2 ^ k - 1 : Nat) : Int) + ((2 ^ k : Nat) : Int)) = ((2 ^ (k + 1) - 1 : Nat) : Int) := by
  have h := pow_lt64 (show k ≤ 63 by omega)
  have hp := Nat.two_pow_pos k
  rw [Nat.pow_succ] at *
  generalize 2 ^ k = q at *
  rw [IntKind.wrap_u64]; omega
theorem fullR_is (n : Int) (r e0 : Int) (hr : fullV n = r) (he : fullE n = e0) (w : World) : Calls Tryd.prog 15 #[.int .i64 n] w fun e w' => e = .returned (.tuple #[.int .u64 r, .int .i64 e0]) ∧ w = w' := by
  by_cases h : 0 ≤ n ∧ n ≤ 64
  · have HR : Hid (((2 ^ n.toNat - 1 : Nat) : Int) = r) := by show _ = _; rw [← hr, fullV, if_pos h]
    have HE : Hid (0 = e0) := by show _ = _; rw [← he, fullE, if_pos h]
    obtain ⟨m, rfl⟩ : ∃ m : Nat, n = m := ⟨n.toNat, by omega⟩
    have hm : m ≤ 64 := by omega
    clear hr he h
    go_enter Tryd.func15, Tryd.ntmps15
    go_wp2_with fail
    go_loop [4, 5] (fun s i => ∃ (k : Nat) (p : Int), k ≤ m ∧ i = .int .i64 k ∧ s = .int .u64 p ∧ Hid (((2 ^ k - 1 : Nat) : Int) = p)) (fun _ i => m - (intOf i).toNat)
    case atStart => exact ⟨0, 0, Nat.zero_le _, rfl, rfl, rfl⟩
    case round =>
      obtain ⟨k, p, hk, rfl, rfl, HP⟩ := hrel
      by_cases hlt : k < m
      · have HN : Hid (((2 ^ (k + 1) - 1 : Nat) : Int) = IntKind.u64.wrap (p + ((2 ^ k : Nat) : Int))) := by show _ = _; rw [← HP.out]; exact (full_step k (by omega)).symm
        obtain ⟨q, hq⟩ : ∃ q : Nat, 2 ^ k = q := ⟨_, rfl⟩
        have HQ := Lib.hid hq
        rw [hq] at HN
        clear hq
        go_wp2_with fail
        refine (worth_any k (by omega) _).mono ?_
        rintro e w1 ⟨rfl, rfl⟩
        rw [show (k : Int).toNat = k from rfl, HQ.out]
        go_wp2
        go_round
        case rel => exact ⟨k + 1, _, by omega, by go_num, rfl, HN⟩
        case measure => simp [intOf]; omega
      · have HF : Hid (p = r) := by show _ = _; rw [← HP.out, ← HR.out, show k = m by omega]; rfl
        go_wp2
        go_ret2
        exact ⟨rii HF.out HE.out, rfl⟩
  · have HR : Hid (0 = r) := by show _ = _; rw [← hr, fullV, if_neg h]
    have HE : Hid (10 = e0) := by show _ = _; rw [← he, fullE, if_neg h]
    clear hr he
    by_cases h0 : n < 0
    · clear h
      go_enter Tryd.func15, Tryd.ntmps15
      go_wp2
      go_ret2
      exact ⟨rii HR.out HE.out, rfl⟩
    · have h1 : 64 < n := by omega
      clear h
      go_enter Tryd.func15, Tryd.ntmps15
      go_wp2
      go_ret2
      exact ⟨rii HR.out HE.out, rfl⟩

/-! ### Next -/
def IsNext (f : Nat) (i : Int) (r : Int) (b : Bool) : Prop :=
  (b = true ∧ ∃ k : Nat, r = k ∧ k < 64 ∧ i ≤ k ∧ f.testBit k = true ∧ ∀ j : Nat, j < k → i ≤ j → f.testBit j = false) ∨
  (b = false ∧ r = 0 ∧ ∀ j : Nat, j < 64 → i ≤ j → f.testBit j = false)
theorem isNext_ex (f : Nat) (i : Int) : ∃ r b, IsNext f i r b := by
  by_cases h : ∃ k : Nat, k < 64 ∧ i ≤ k ∧ f.testBit k = true
  · have hm : ∀ n : Nat, (∃ k : Nat, k < n ∧ i ≤ k ∧ f.testBit k = true) → ∃ k : Nat, k < n ∧ i ≤ k ∧ f.testBit k = true ∧ ∀ j : Nat, j < k → i ≤ j → f.testBit j = false := by
      intro n
      induction n with
      | zero => rintro ⟨k, hk, _⟩; omega
      | succ n ih =>
        rintro ⟨k, hk, h1, h2⟩
        by_cases hx : ∃ k : Nat, k < n ∧ i ≤ k ∧ f.testBit k = true
        · obtain ⟨q, a, b, c, d⟩ := ih hx
          exact ⟨q, by omega, b, c, d⟩
        · refine ⟨k, hk, h1, h2, fun j hj hi => ?_⟩
          cases hb : f.testBit j
          · rfl
          · exact absurd ⟨j, by omega, hi, hb⟩ hx
    obtain ⟨k, a, b, c, d⟩ := hm 64 h
    exact ⟨k, true, .inl ⟨rfl, k, rfl, a, b, c, d⟩⟩
  · refine ⟨0, false, .inr ⟨rfl, rfl, fun j hj hi => ?_⟩⟩
    cases hb : f.testBit j
    · rfl
    · exact absurd ⟨j, hj, hi, hb⟩ h
theorem isNext_uniq {f : Nat} {i r r' : Int} {b b' : Bool} (h : IsNext f i r b) (h' : IsNext f i r' b') : r = r' ∧ b = b' := by
  rcases h with ⟨rfl, k, rfl, a1, a2, a3, a4⟩ | ⟨rfl, rfl, a⟩
  · rcases h' with ⟨rfl, k', rfl, b1, b2, b3, b4⟩ | ⟨rfl, rfl, b⟩
    · have : k = k' := by
        rcases Nat.lt_trichotomy k k' with h | h | h
        · have := b4 k h a2; rw [a3] at this; cases this
        · exact h
        · have := a4 k' h b2; rw [b3] at this; cases this
      exact ⟨by rw [this], rfl⟩
    · have := b k a1 a2; rw [a3] at this; cases this
  · rcases h' with ⟨rfl, k', rfl, b1, b2, b3, b4⟩ | ⟨rfl, rfl, b⟩
    · have := a k' b1 b2; rw [b3] at this; cases this
    · exact ⟨rfl, rfl⟩
def restN (f m : Nat) : Nat := f &&& (18446744073709551615 - (2 ^ m - 1))
theorem restN_bit (f m : Nat) (hm : m ≤ 64) (hf : f < 18446744073709551616) (j : Nat) : (restN f m).testBit j = (f.testBit j && decide (m ≤ j)) := by
  unfold restN
  rw [Nat.testBit_and, not_bit _ _ (mask_lt hm), mask_bit]
  cases hb : f.testBit j
  · rfl
  · have := bit_lt hf hb
    simp [this]
    by_cases h : m ≤ j
    · simp [h]
    · simp [h]; omega
theorem restN_lt (f m : Nat) (hf : f < 18446744073709551616) : restN f m < 18446744073709551616 := Nat.lt_of_le_of_lt Nat.and_le_left hf
theorem next_of_rest (f : Nat) (i : Int) (m : Nat) (hm : m ≤ 63) (hi : m = i.toNat) (hf : f < 18446744073709551616) (r : Int) (b : Bool) (h : IsNext f i r b) :
    (restN f m = 0 ∧ r = 0 ∧ b = false) ∨ (restN f m ≠ 0 ∧ r = (Lib.ctz 64 (restN f m) : Nat) ∧ b = true) := by
  by_cases h0 : restN f m = 0
  · left
    have : IsNext f i 0 false := .inr ⟨rfl, rfl, fun j hj hij => by
      have := restN_bit f m (by omega) hf j
      rw [h0, Nat.zero_testBit] at this
      cases hb : f.testBit j
      · rfl
      · rw [hb, Bool.true_and] at this
        have h9 := decide_eq_false_iff_not.1 this.symm
        omega⟩
    obtain ⟨e1, e2⟩ := isNext_uniq h this
    exact ⟨h0, e1, e2⟩
  · right
    have hlt := restN_lt f m hf
    have b1 := low_bit h0 hlt
    have b2 := fun {j} => @low_none _ h0 hlt j
    obtain ⟨k, hk⟩ : ∃ k, Lib.ctz 64 (restN f m) = k := ⟨_, rfl⟩
    rw [hk] at b1
    rw [restN_bit f m (by omega) hf] at b1
    simp only [Bool.and_eq_true, decide_eq_true_eq] at b1
    have : IsNext f i k true := .inl ⟨rfl, k, rfl, bit_lt hf b1.1, by omega, b1.1, fun j hj hij => by
      have := b2 (j := j) (by rw [hk]; exact hj)
      rw [restN_bit f m (by omega) hf] at this
      cases hb : f.testBit j
      · rfl
      · rw [hb, Bool.true_and] at this
        have h9 := decide_eq_false_iff_not.1 this
        omega⟩
    obtain ⟨e1, e2⟩ := isNext_uniq h this
    exact ⟨h0, by rw [hk]; exact e1, e2⟩
theorem rib {k : IntKind} {a b : Int} {c d : Bool} (h : a = b) (h2 : c = d) : Ending.returned (.tuple #[.int k a, .bool c]) = .returned (.tuple #[.int k b, .bool d]) := by rw [h, h2]
theorem nextA_is (f : Nat) (i : Int) (r : Int) (b : Bool) (h : IsNext f i r b) (hf : f < 18446744073709551616) (w : World) (ht : Tabs w) :
    Calls Tryd.prog 22 #[.int .u64 f, .int .i64 i] w fun e w' => e = .returned (.tuple #[.int .i64 r, .bool b]) ∧ w = w' := by
  have HT := Lib.hid ht
  by_cases hi : 63 < i
  · have e : r = 0 ∧ b = false := isNext_uniq h (.inr ⟨rfl, rfl, fun j hj hij => by omega⟩)
    obtain ⟨rfl, rfl⟩ := e
    clear h ht
    go_enter Tryd.func22, Tryd.ntmps22
    go_wp2
    go_ret2
    exact ⟨rfl, rfl⟩
  · have hc := Lib.hid (next_of_rest f i i.toNat (by omega) rfl hf r b h)
    have HA : bits BinOp.andNot IntKind.u64 (f : Int) ((2 ^ i.toNat - 1 : Nat) : Int) = ((restN f i.toNat : Nat) : Int) := u64_andNot_nat f _ hf (mask_lt (by omega))
    have hmx : (if i < 0 then (0 : Int) else i) = ((i.toNat : Nat) : Int) := by split <;> omega
    have hmx2 : max i 0 = ((i.toNat : Nat) : Int) := by omega
    have hlt := restN_lt f i.toNat hf
    obtain ⟨m, hm⟩ : ∃ m, i.toNat = m := ⟨_, rfl⟩
    rw [hm] at HA hc hmx hmx2 hlt
    have hm63 : m ≤ 63 := by omega
    obtain ⟨q, hq⟩ : ∃ q, restN f m = q := ⟨_, rfl⟩
    rw [hq] at HA hc hlt
    obtain ⟨p, hp⟩ : ∃ p : Nat, 2 ^ m - 1 = p := ⟨_, rfl⟩
    rw [hp] at HA
    have HP := Lib.hid hp
    clear ht h hq hp hf hm
    rcases hc.out with ⟨h0, rfl, rfl⟩ | ⟨h0, hr, rfl⟩
    · subst h0
      go_enter Tryd.func22, Tryd.ntmps22
      go_wp2_with fail
      refine (mask_any m (by omega) _).mono ?_
      rintro e w1 ⟨rfl, rfl⟩
      rw [HP.out]
      go_wp2
      go_ret2
      exact ⟨rfl, rfl⟩
    · have HR := Lib.hid hr
      have hq0 : ((q : Int) == 0) = false := by simp; omega
      clear hr hc
      go_enter Tryd.func22, Tryd.ntmps22
      go_wp2_with fail
      refine (mask_any m (by omega) _).mono ?_
      rintro e w1 ⟨rfl, rfl⟩
      rw [HP.out]
      go_wp2_with fail
      refine (ctz_calls q (by omega) hlt _ HT.out).mono ?_
      rintro e w1 ⟨rfl, rfl⟩
      go_wp2
      go_ret2
      exact ⟨rib HR.out.symm rfl, rfl⟩
theorem nextR_is (f : Nat) (i : Int) (r : Int) (b : Bool) (h : IsNext f i r b) (hf : f < 18446744073709551616) (w : World) :
    Calls Tryd.prog 23 #[.int .u64 f, .int .i64 i] w fun e w' => e = .returned (.tuple #[.int .i64 r, .bool b]) ∧ w = w' := by
  have H := Lib.hid h
  clear h
  go_enter Tryd.func23, Tryd.ntmps23
  go_wp2_with fail
  go_loop [6] (fun j => ∃ k : Nat, k ≤ 64 ∧ j = .int .i64 k ∧ Hid (∀ j : Nat, j < k → i ≤ j → f.testBit j = false)) (fun j => 64 - (intOf j).toNat)
  case atStart => exact ⟨0, Nat.zero_le _, rfl, fun j hj => by omega⟩
  case round =>
    obtain ⟨k, hk, rfl, HB⟩ := hrel
    by_cases hlt : k < 64
    · by_cases hik : i ≤ k
      · cases hb : f.testBit k
        · have HN : Hid (∀ j : Nat, j < k + 1 → i ≤ j → f.testBit j = false) := fun j h1 h2 => by
            by_cases e : j = k
            · subst e; exact hb
            · exact HB.out j (by omega) h2
          have HH := Lib.hid (show hasB f k = false by simp [hasB, hb])
          clear hb
          go_wp2_with fail
          refine (hasR_is f k false HH.out hf _).mono ?_
          rintro e w1 ⟨rfl, rfl⟩
          go_wp2
          go_round
          case rel => exact ⟨k + 1, by omega, by go_num, HN⟩
          case measure => simp [intOf]; omega
        · have e : r = k ∧ b = true := isNext_uniq H.out (.inl ⟨rfl, k, rfl, hlt, hik, hb, HB.out⟩)
          obtain ⟨rfl, rfl⟩ := e
          have HH := Lib.hid (show hasB f k = true by simp [hasB, hb]; omega)
          clear hb
          go_wp2_with fail
          refine (hasR_is f k true HH.out hf _).mono ?_
          rintro e w1 ⟨rfl, rfl⟩
          go_wp2
          go_ret2
          exact ⟨rfl, rfl⟩
      · have HN : Hid (∀ j : Nat, j < k + 1 → i ≤ j → f.testBit j = false) := fun j h1 h2 => by
            by_cases e : j = k
            · subst e; exact absurd h2 hik
            · exact HB.out j (by omega) h2
        go_wp2
        go_round
        case rel => exact ⟨k + 1, by omega, by go_num, HN⟩
        case measure => simp [intOf]; omega
    · have e : r = 0 ∧ b = false := isNext_uniq H.out (.inr ⟨rfl, rfl, fun j h1 h2 => HB.out j (by omega) h2⟩)
      obtain ⟨rfl, rfl⟩ := e
      go_wp2
      go_ret2
      exact ⟨rfl, rfl⟩
end Go.Proofs.YtdaijibkafepcaaDoor
