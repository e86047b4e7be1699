/-
  THE BITS LAYER: Of, of the program and of the reference.
-/
import Derived.Test.YtdaijibkafepcaaDoorBitsListR
import Derived.Test.YtdaijibkafepcaaDoorBitsFieldB
namespace Go.Proofs.YtdaijibkafepcaaDoor
open Go.RowKit
set_option linter.unusedVariables false

def inB (z : Int) : Bool := decide (0 ≤ z) && decide (z ≤ 63)
def ofGo : Nat → List Int → Option Nat
  | s, [] => some s
  | s, z :: zs => if inB z = true then ofGo (s ||| 2 ^ z.toNat) zs else none
def ofV (zs : List Int) : Nat := (ofGo 0 zs).getD 0
def ofE (zs : List Int) : Int := if (ofGo 0 zs).isSome = true then 0 else 10
theorem or_pow_has {s z : Nat} (h : s.testBit z = true) : s ||| 2 ^ z = s := by
  apply Nat.eq_of_testBit_eq
  intro i
  rw [Nat.testBit_or, Nat.testBit_two_pow]
  by_cases e : z = i
  · subst e; simp [h]
  · simp [e]
theorem or_pow_add {s z : Nat} (h : s.testBit z = false) : s + 2 ^ z = s ||| 2 ^ z := by
  have hlo : s % 2 ^ z < 2 ^ z := Nat.mod_lt _ (Nat.two_pow_pos z)
  have e1 : s = 2 ^ (z + 1) * (s / 2 ^ (z + 1)) + s % 2 ^ z := by
    have := Nat.div_add_mod s (2 ^ (z + 1))
    have h2 : s % 2 ^ (z + 1) = s % 2 ^ z := by
      rw [Nat.pow_succ, Nat.mod_mul]
      rw [Nat.testBit_eq_decide_div_mod_eq] at h
      have : s / 2 ^ z % 2 = 0 := by have := decide_eq_false_iff_not.1 h; omega
      rw [this]; omega
    omega
  apply Nat.eq_of_testBit_eq
  intro i
  have hp : 2 ^ (z + 1) = 2 ^ z * 2 := Nat.pow_succ 2 z
  have e2 : s + 2 ^ z = 2 ^ (z + 1) * (s / 2 ^ (z + 1)) + (s % 2 ^ z + 2 ^ z) := by omega
  rw [e2, Nat.testBit_two_pow_mul_add _ (by omega), Nat.testBit_or, Nat.testBit_two_pow]
  conv => rhs; rw [e1, Nat.testBit_two_pow_mul_add _ (by omega : s % 2 ^ z < 2 ^ (z + 1))]
  by_cases hi : i < z + 1
  · rw [if_pos hi, if_pos hi, add_pow hlo]
  · rw [if_neg hi, if_neg hi]; simp; omega
theorem or_pow_lt {s z : Nat} (hs : s < 18446744073709551616) (hz : z < 64) : s ||| 2 ^ z < 18446744073709551616 := by
  have e : (18446744073709551616 : Nat) = 2 ^ 64 := rfl
  rw [e] at hs ⊢
  exact Nat.or_lt_two_pow hs (Nat.pow_lt_pow_right (by decide) hz)
theorem drop_at {zs : List Int} {k : Nat} {z : Int} (h : zs[k]? = some z) : zs.drop k = z :: zs.drop (k + 1) := by
  obtain ⟨hk, e⟩ := List.getElem?_eq_some_iff.1 h
  rw [← e]; exact List.drop_eq_getElem_cons hk

set_option maxRecDepth 100000 in
set_option maxHeartbeats 1000000 in
theorem ofA_is (a : Option Addr) (cap : Nat) (zs : List Int) (w : World) (hm : zs.length ≤ maxLen) (hra : VRow w a (zs.map (Value.int .i64))) (n : Nat) (hn : zs.length = n) (r : Nat) (e0 : Int) (hr : ofV zs = r) (he : ofE zs = e0) :
    Calls Tryd.prog 16 #[.slice a n cap] w fun e w' => e = .returned (.tuple #[.int .u64 r, .int .i64 e0]) ∧ Below w.heap.size w w' := by
  have HA := Lib.hid hra
  have hl : (zs.map (Value.int .i64)).length = n := by simpa using hn
  have hmn : n ≤ maxLen := by omega
  have HN := Lib.hid hn; have HR := Lib.hid hr; have HE := Lib.hid he
  unfold maxLen at hmn
  clear hra hm hn hr he
  go_enter Tryd.func16, Tryd.ntmps16
  go_wp2_with fail
  go_loopw [4, 9] (fun s i wr => ∃ k c : Nat, k ≤ n ∧ i = .int .i64 k ∧ s = .int .u64 c ∧ c < 18446744073709551616 ∧ Hid (ofGo c (zs.drop k) = ofGo 0 zs) ∧ Below w.heap.size w wr) (fun _ i _ => n - (intOf i).toNat)
  case atStart => exact ⟨0, 0, Nat.zero_le _, rfl, rfl, by decide, by show _ = _; rw [List.drop_zero], Below.refl _ _⟩
  case round =>
    obtain ⟨k, c, hk, rfl, rfl, hc, HG, hb⟩ := hrel
    by_cases hlt : k < n
    · obtain ⟨ba, offa, va, rfl, hxa, hba, a0⟩ := (HA.out.below hb).at_ (by rw [hl]; exact hlt)
      obtain ⟨z, hz⟩ : ∃ z, zs[k]? = some z := ⟨zs[k]'(by rw [HN.out]; exact hlt), by simp [HN.out, hlt]⟩
      have hv : va = .int .i64 z := by rw [List.getElem?_map, hz] at hxa; exact (Option.some.inj hxa).symm
      subst hv
      have HD := Lib.hid (drop_at hz)
      have g0 : (0 : Int) ≤ (k : Int) := by omega
      have g1 : (k : Int) < (n : Int) := by omega
      clear hxa hz hl
      cases hin : inB z
      · have HF : Hid (ofGo 0 zs = none) := by show _ = _; rw [← HG.out, HD.out, ofGo, hin]; rfl
        have HR2 : Hid (0 = (r : Int)) := by show _ = _; rw [← HR.out, ofV, HF.out]; rfl
        have HE2 : Hid (10 = e0) := by show _ = _; rw [← HE.out, ofE, HF.out]; rfl
        have HI := Lib.hid hin
        clear hin
        go_wp2_with fail
        refine (within_is z 0 63 false HI.out _).mono ?_
        rintro e w1 ⟨rfl, rfl⟩
        go_wp2
        go_ret2
        exact ⟨rii HR2.out HE2.out, hb⟩
      · have HN2 : Hid (ofGo (c ||| 2 ^ z.toNat) (zs.drop (k + 1)) = ofGo 0 zs) := by show _ = _; rw [← HG.out, HD.out, ofGo, hin]; rfl
        have HI := Lib.hid hin
        simp only [inB, Bool.and_eq_true, decide_eq_true_eq] at hin
        obtain ⟨z0, z1⟩ := hin
        have hlt2 := or_pow_lt hc (show z.toNat < 64 by omega)
        have hpw : 2 ^ z.toNat ≤ 9223372036854775808 := pow_lt64 (by omega)
        have hsh : IntKind.u64.wrap ((2 : Int) ^ z.toNat) = ((2 ^ z.toNat : Nat) : Int) := by
          rw [IntKind.wrap_u64]
          have e : ((2 : Int) ^ z.toNat) = ((2 ^ z.toNat : Nat) : Int) := by simp
          rw [e]
          generalize 2 ^ z.toNat = q at *
          omega
        have hor : bits BinOp.or IntKind.u64 (c : Int) ((2 ^ z.toNat : Nat) : Int) = ((c ||| 2 ^ z.toNat : Nat) : Int) := u64_or_nat c _ hc (by omega)
        obtain ⟨q, hq⟩ : ∃ q : Nat, c ||| 2 ^ z.toNat = q := ⟨_, rfl⟩
        rw [hq] at hor HN2 hlt2
        have hor2 : bits BinOp.or IntKind.u64 (c : Int) (IntKind.u64.wrap ((2 : Int) ^ z.toNat)) = (q : Int) := by rw [hsh]; exact hor
        clear hq hsh hor hpw
        go_wp2_with fail
        refine (within_is z 0 63 true HI.out _).mono ?_
        rintro e w1 ⟨rfl, rfl⟩
        go_wp2
        go_roundw
        case rel => exact ⟨k + 1, q, by omega, by go_num, rfl, hlt2, HN2, hb⟩
        case measure => simp [intOf]; omega
    · have HF : Hid (ofGo 0 zs = some c) := by
        show _ = _
        rw [← HG.out, List.drop_of_length_le (by rw [HN.out]; omega)]; rfl
      have HR2 : Hid ((c : Int) = (r : Int)) := by show _ = _; rw [← HR.out, ofV, HF.out]; rfl
      have HE2 : Hid (0 = e0) := by show _ = _; rw [← HE.out, ofE, HF.out]; rfl
      go_wp2
      go_ret2
      exact ⟨rii HR2.out HE2.out, hb⟩

set_option maxRecDepth 100000 in
set_option maxHeartbeats 1000000 in
theorem ofR_is (a : Option Addr) (cap : Nat) (zs : List Int) (w : World) (hm : zs.length ≤ maxLen) (hra : VRow w a (zs.map (Value.int .i64))) (n : Nat) (hn : zs.length = n) (r : Nat) (e0 : Int) (hr : ofV zs = r) (he : ofE zs = e0) :
    Calls Tryd.prog 17 #[.slice a n cap] w fun e w' => e = .returned (.tuple #[.int .u64 r, .int .i64 e0]) ∧ Below w.heap.size w w' := by
  have HA := Lib.hid hra
  have hl : (zs.map (Value.int .i64)).length = n := by simpa using hn
  have hmn : n ≤ maxLen := by omega
  have HN := Lib.hid hn; have HR := Lib.hid hr; have HE := Lib.hid he
  unfold maxLen at hmn
  clear hra hm hn hr he
  go_enter Tryd.func17, Tryd.ntmps17
  go_wp2_with fail
  go_loopw [4, 5] (fun s i wr => ∃ k c : Nat, k ≤ n ∧ i = .int .i64 k ∧ s = .int .u64 c ∧ c < 18446744073709551616 ∧ Hid (ofGo c (zs.drop k) = ofGo 0 zs) ∧ Below w.heap.size w wr) (fun _ i _ => n - (intOf i).toNat)
  case atStart => exact ⟨0, 0, Nat.zero_le _, rfl, rfl, by decide, by show _ = _; rw [List.drop_zero], Below.refl _ _⟩
  case round =>
    obtain ⟨k, c, hk, rfl, rfl, hc, HG, hb⟩ := hrel
    by_cases hlt : k < n
    · obtain ⟨ba, offa, va, rfl, hxa, hba, a0⟩ := (HA.out.below hb).at_ (by rw [hl]; exact hlt)
      obtain ⟨z, hz⟩ : ∃ z, zs[k]? = some z := ⟨zs[k]'(by rw [HN.out]; exact hlt), by simp [HN.out, hlt]⟩
      have hv : va = .int .i64 z := by rw [List.getElem?_map, hz] at hxa; exact (Option.some.inj hxa).symm
      subst hv
      have HD := Lib.hid (drop_at hz)
      have g0 : (0 : Int) ≤ (k : Int) := by omega
      have g1 : (k : Int) < (n : Int) := by omega
      clear hxa hz hl
      cases hin : inB z
      · have HF : Hid (ofGo 0 zs = none) := by show _ = _; rw [← HG.out, HD.out, ofGo, hin]; rfl
        have HR2 : Hid (0 = (r : Int)) := by show _ = _; rw [← HR.out, ofV, HF.out]; rfl
        have HE2 : Hid (10 = e0) := by show _ = _; rw [← HE.out, ofE, HF.out]; rfl
        have hz9 : z < 0 ∨ 64 ≤ z := by
          by_cases h9 : z < 0
          · exact .inl h9
          · simp [inB] at hin; omega
        clear hin
        by_cases h9 : z < 0
        · clear hz9
          go_wp2
          go_ret2
          exact ⟨rii HR2.out HE2.out, hb⟩
        · have h8 : 64 ≤ z := by omega
          clear hz9
          go_wp2
          go_ret2
          exact ⟨rii HR2.out HE2.out, hb⟩
      · have HN2 : Hid (ofGo (c ||| 2 ^ z.toNat) (zs.drop (k + 1)) = ofGo 0 zs) := by show _ = _; rw [← HG.out, HD.out, ofGo, hin]; rfl
        simp only [inB, Bool.and_eq_true, decide_eq_true_eq] at hin
        obtain ⟨z0, z1⟩ := hin
        have hlt2 := or_pow_lt hc (show z.toNat < 64 by omega)
        cases hbit : c.testBit z.toNat
        · have HH := Lib.hid (show hasB c z = false by rw [hasB, hbit]; simp)
          have hadd := or_pow_add hbit
          rw [← hadd] at HN2 hlt2
          obtain ⟨q, hq⟩ : ∃ q : Nat, 2 ^ z.toNat = q := ⟨_, rfl⟩
          rw [hq] at HN2 hlt2
          have HQ := Lib.hid hq
          have hws : IntKind.u64.wrap ((c : Int) + (q : Int)) = ((c + q : Nat) : Int) := by clear hq hadd; rw [IntKind.wrap_u64]; omega
          clear hq hadd hbit
          go_wp2_with fail
          refine (hasR_is c z false HH.out hc _).mono ?_
          rintro e w1 ⟨rfl, rfl⟩
          go_wp2_with fail
          refine (worth_at z z.toNat q rfl HQ.out (by omega) _).mono ?_
          rintro e w1 ⟨rfl, rfl⟩
          go_wp2
          go_roundw
          case rel => exact ⟨k + 1, c + q, by omega, by go_num, by first | rfl | (congr 1), hlt2, HN2, hb⟩
          case measure => simp [intOf]; omega
        · have HH := Lib.hid (show hasB c z = true by rw [hasB, hbit]; simp; omega)
          rw [or_pow_has hbit] at HN2
          clear hbit hlt2
          go_wp2_with fail
          refine (hasR_is c z true HH.out hc _).mono ?_
          rintro e w1 ⟨rfl, rfl⟩
          go_wp2
          go_roundw
          case rel => exact ⟨k + 1, c, by omega, by go_num, rfl, hc, HN2, hb⟩
          case measure => simp [intOf]; omega
    · have HF : Hid (ofGo 0 zs = some c) := by
        show _ = _
        rw [← HG.out, List.drop_of_length_le (by rw [HN.out]; omega)]; rfl
      have HR2 : Hid ((c : Int) = (r : Int)) := by show _ = _; rw [← HR.out, ofV, HF.out]; rfl
      have HE2 : Hid (0 = e0) := by show _ = _; rw [← HE.out, ofE, HF.out]; rfl
      go_wp2
      go_ret2
      exact ⟨rii HR2.out HE2.out, hb⟩
end Go.Proofs.YtdaijibkafepcaaDoor
