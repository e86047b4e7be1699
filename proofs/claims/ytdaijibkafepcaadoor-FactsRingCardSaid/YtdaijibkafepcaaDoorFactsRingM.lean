/-
  THE FACTS LAYER: the semiring's laws, said of the plain functions.
-/
import Derived.Test.YtdaijibkafepcaaDoorFactsGood
namespace Go.Proofs.YtdaijibkafepcaaDoor
open Go.RowKit
set_option linter.unusedVariables false

theorem items3 {w : World} {b : Nat} {f0 f1 f2 : FItem} {T : TypeId} (h : w.heap[b]? = some (.cells #[.int .u64 (f0.g : Int), .slice f0.a f0.len f0.cap, .int .u64 (f1.g : Int), .slice f1.a f1.len f1.cap, .int .u64 (f2.g : Int), .slice f2.a f2.len f2.cap] T (0, 0)))
    (h0 : FAt w f0.a f0.g f0.rows ∧ f0.rows.length = f0.len) (h1 : FAt w f1.a f1.g f1.rows ∧ f1.rows.length = f1.len) (h2 : FAt w f2.a f2.g f2.rows ∧ f2.rows.length = f2.len) : FItems w b 0 [f0, f1, f2] := by
  have hc : ∀ (j : Nat) v, (#[Value.int .u64 (f0.g : Int), .slice f0.a f0.len f0.cap, .int .u64 (f1.g : Int), .slice f1.a f1.len f1.cap, .int .u64 (f2.g : Int), .slice f2.a f2.len f2.cap] : Array Value)[j]? = some v → w.cell? ⟨b, j, none⟩ = some v := fun j v hv => by
    unfold World.cell?; simp only [h]; exact hv
  intro i f hi
  match i, hi with
  | 0, hi => obtain rfl : f0 = f := by simpa using hi
             exact ⟨hc 0 _ rfl, hc 1 _ rfl, h0.1, h0.2⟩
  | 1, hi => obtain rfl : f1 = f := by simpa using hi
             exact ⟨hc 2 _ rfl, hc 3 _ rfl, h1.1, h1.2⟩
  | 2, hi => obtain rfl : f2 = f := by simpa using hi
             exact ⟨hc 4 _ rfl, hc 5 _ rfl, h2.1, h2.2⟩
  | k + 3, hi => simp at hi
theorem ones_bit {m i j : Nat} : ((onesL m).getD i 0).testBit j = true ↔ i < m ∧ i = j := by
  rw [List.getD_eq_getElem?_getD]
  rcases Nat.lt_or_ge i m with h | h
  · rw [onesL_at h]
    simp only [Option.getD_some, Nat.testBit_two_pow, decide_eq_true_eq]
    exact ⟨fun e => ⟨h, e⟩, fun e => e.2⟩
  · rw [List.getElem?_eq_none (by rw [onesL_length]; exact h)]
    simp only [Option.getD_none, Nat.zero_testBit]
    exact ⟨fun e => (Bool.false_ne_true e).elim, fun e => (by omega)⟩
theorem made_ones {m s : Nat} (hm : m ≤ 64) (hs : s < 2 ^ m) : madeF 0 (onesL m) s = s := by
  apply bit_ext; intro j
  rw [made_bit]
  simp only [ones_bit, Nat.zero_testBit]
  constructor
  · rintro (h | ⟨i, ⟨_, h2⟩, _, rfl⟩)
    · cases h
    · exact h2
  · intro h
    have hj : j < m := by
      rcases Nat.lt_or_ge j m with h1 | h1
      · exact h1
      · rw [Nat.testBit_lt_two_pow (Nat.lt_of_lt_of_le hs (Nat.pow_le_pow_right (by omega) h1))] at h; cases h
    exact .inr ⟨j, ⟨by omega, h⟩, hj, rfl⟩
theorem ones_good {m : Nat} (hm : m ≤ 64) : Good m 0 (onesL m) where
  hm := hm
  hl := onesL_length m
  hg := Nat.two_pow_pos m
  hr := fun r hr => by
    obtain ⟨i, hi, rfl⟩ := List.mem_map.1 hr
    exact Nat.pow_lt_pow_right (by omega) (List.mem_range.1 hi)
  hc := fun r _ => Nat.and_zero r
theorem one_good {m : Nat} (hm : m ≤ 64) : oneE m = 0 ∧ oneV m = onesL m := by
  have hd : dimB m = true := by simp [dimB]; omega
  exact ⟨by rw [oneE, if_pos hd], by rw [oneV, if_pos hd, Int.toNat_natCast]⟩

section
variable {m ga gb gc : Nat} {xs ys zs : List Nat}
theorem ring_comm (a : Good m ga xs) (b : Good m gb ys) : combG m ga xs gb ys = combG m gb ys ga xs ∧ combV m ga xs gb ys = combV m gb ys ga xs :=
  good_ext (a.combT b) (b.combT a) fun s => by rw [made_comb a b, made_comb b a, Nat.or_comm]
theorem ring_idem (a : Good m ga xs) : combG m ga xs ga xs = ga ∧ combV m ga xs ga xs = xs :=
  good_ext (a.combT a) a fun s => by rw [made_comb a a, Nat.or_self]
theorem ring_assoc (a : Good m ga xs) (b : Good m gb ys) (c : Good m gc zs) : combG m (combG m ga xs gb ys) (combV m ga xs gb ys) gc zs = combG m ga xs (combG m gb ys gc zs) (combV m gb ys gc zs) ∧ combV m (combG m ga xs gb ys) (combV m ga xs gb ys) gc zs = combV m ga xs (combG m gb ys gc zs) (combV m gb ys gc zs) :=
  good_ext ((a.combT b).combT c) (a.combT (b.combT c)) fun s => by rw [made_comb (a.combT b) c, made_comb a (b.combT c), made_comb a b, made_comb b c, Nat.or_assoc]
theorem ring_then (a : Good m ga xs) (b : Good m gb ys) (c : Good m gc zs) : extG m (extG m ga xs gb ys) (extV m ga xs gb ys) gc zs = extG m ga xs (extG m gb ys gc zs) (extV m gb ys gc zs) ∧ extV m (extG m ga xs gb ys) (extV m ga xs gb ys) gc zs = extV m ga xs (extG m gb ys gc zs) (extV m gb ys gc zs) :=
  good_ext ((a.extT b).extT c) (a.extT (b.extT c)) fun s => by rw [made_ext (a.extT b) c, made_ext a (b.extT c), made_ext a b, made_ext b c]
theorem mem_cut {m s : Nat} (hm : m ≤ 64) (g : Nat) (rows : List Nat) (hl : rows.length = m) : madeF g rows s = madeF g rows (s % 2 ^ m) := by
  apply bit_ext; intro j
  rw [made_bit, made_bit]
  constructor
  · rintro (h | ⟨i, ⟨hi, h2⟩, h3⟩)
    · exact .inl h
    · have him : i < m := by
        rcases Nat.lt_or_ge i m with h1 | h1
        · exact h1
        · rw [List.getD_eq_getElem?_getD, List.getElem?_eq_none (by omega)] at h3; simp at h3
      exact .inr ⟨i, ⟨hi, by rw [Nat.testBit_mod_two_pow]; simp [him, h2]⟩, h3⟩
  · rintro (h | ⟨i, ⟨hi, h2⟩, h3⟩)
    · exact .inl h
    · rw [Nat.testBit_mod_two_pow, Bool.and_eq_true] at h2
      exact .inr ⟨i, ⟨hi, h2.2⟩, h3⟩
theorem ring_oneL (a : Good m ga xs) : extG m 0 (onesL m) ga xs = ga ∧ extV m 0 (onesL m) ga xs = xs :=
  good_ext ((ones_good a.hm).extT a) a fun s => by
    rw [made_ext (ones_good a.hm) a, mem_cut a.hm 0 (onesL m) (onesL_length m), made_ones a.hm (Nat.mod_lt _ (Nat.two_pow_pos m)), ← mem_cut a.hm ga xs a.hl]
theorem ring_oneR (a : Good m ga xs) : extG m ga xs 0 (onesL m) = ga ∧ extV m ga xs 0 (onesL m) = xs :=
  good_ext (a.extT (ones_good a.hm)) a fun s => by rw [made_ext a (ones_good a.hm), made_ones a.hm (a.made s)]
theorem ring_left (a : Good m ga xs) (b : Good m gb ys) (c : Good m gc zs) : extG m ga xs (combG m gb ys gc zs) (combV m gb ys gc zs) = combG m (extG m ga xs gb ys) (extV m ga xs gb ys) (extG m ga xs gc zs) (extV m ga xs gc zs) ∧ extV m ga xs (combG m gb ys gc zs) (combV m gb ys gc zs) = combV m (extG m ga xs gb ys) (extV m ga xs gb ys) (extG m ga xs gc zs) (extV m ga xs gc zs) :=
  good_ext (a.extT (b.combT c)) ((a.extT b).combT (a.extT c)) fun s => by rw [made_ext a (b.combT c), made_comb b c, made_comb (a.extT b) (a.extT c), made_ext a b, made_ext a c]
theorem ring_right (a : Good m ga xs) (b : Good m gb ys) (c : Good m gc zs) : extG m (combG m ga xs gb ys) (combV m ga xs gb ys) gc zs = combG m (extG m ga xs gc zs) (extV m ga xs gc zs) (extG m gb ys gc zs) (extV m gb ys gc zs) ∧ extV m (combG m ga xs gb ys) (combV m ga xs gb ys) gc zs = combV m (extG m ga xs gc zs) (extV m ga xs gc zs) (extG m gb ys gc zs) (extV m gb ys gc zs) :=
  good_ext ((a.combT b).extT c) ((a.extT c).combT (b.extT c)) fun s => by rw [made_ext (a.combT b) c, made_comb a b, made_comb (a.extT c) (b.extT c), made_ext a c, made_ext b c, made_add]
end
end Go.Proofs.YtdaijibkafepcaaDoor
