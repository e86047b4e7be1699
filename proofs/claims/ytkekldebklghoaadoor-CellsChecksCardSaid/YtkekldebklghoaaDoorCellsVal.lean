/-
  THE CELLS LAYER: rows that are transformers; the laws' helpers three, both, then.
-/
import Derived.Test.YtkekldebklghoaaDoorCellsAlg
namespace Go.Proofs.YtkekldebklghoaaDoor
open Go.RowKit
set_option linter.unusedVariables false
set_option linter.unusedSimpArgs false

theorem okAt_iff {n : Nat} {c : Cl} : okAt n c = true ↔ c.f < 2 ^ n ∧ kindOk c.f c.k c.v = true := by
  unfold okAt cellOk inside
  rw [Bool.and_eq_true, beq_iff_eq, Nat.div_eq_zero_iff]
  constructor
  · rintro ⟨h | h, h2⟩
    · have := Nat.two_pow_pos n; omega
    · exact ⟨h, h2⟩
  · rintro ⟨h, h2⟩; exact ⟨.inr h, h2⟩
theorem pow_le64 {n f : Nat} (hn : n ≤ 64) (h : f < 2 ^ n) : f < 18446744073709551616 :=
  Nat.lt_of_lt_of_le h (Nat.le_trans (Nat.pow_le_pow_right (by decide) hn) (by decide))
/-- A row that is a transformer of n variables. -/
structure Val (n : Nat) (xs : List Cl) : Prop where
  le : n ≤ 64
  len : xs.length = n
  ok : ∀ (i : Nat) c, xs[i]? = some c → okAt n c = true
theorem Val.oks {n : Nat} {xs : List Cl} (h : Val n xs) : Oks xs := fun i c hi => by
  obtain ⟨h1, h2⟩ := okAt_iff.1 (h.ok i c hi)
  exact ⟨pow_le64 h.le h1, h2⟩
theorem Val.bits {n : Nat} {xs : List Cl} (h : Val n xs) : Bits xs := fun c hc => by
  obtain ⟨i, hi, e⟩ := List.mem_iff_getElem.1 hc
  exact (h.oks i c (by rw [← e]; exact List.getElem?_eq_getElem hi)).1
theorem Val.max {n : Nat} {xs : List Cl} (h : Val n xs) : xs.length ≤ maxLen := by rw [h.len]; have := h.le; unfold maxLen; omega
theorem Val.chk {n : Nat} {xs : List Cl} (h : Val n xs) : chkC n xs = 0 := by
  refine chkC_good h.le h.len (Nat.le_refl _) ?_
  rw [List.take_length, List.all_eq_true]
  intro c hc
  obtain ⟨i, hi, e⟩ := List.mem_iff_getElem.1 hc
  exact h.ok i c (by rw [← e]; exact List.getElem?_eq_getElem hi)
theorem Val.chk2 {n : Nat} {xs ys : List Cl} (h : Val n xs) (h2 : Val n ys) : chk2C n xs ys = 0 := by
  unfold chk2C
  rw [h.chk, h2.chk]; rfl
theorem val_of {d : Int} {xs : List Cl} (h : chkC d xs = 0) : ∃ n : Nat, d = n ∧ Val n xs := by
  obtain ⟨d0, d1, la, oka⟩ := chkC_zero h
  refine ⟨d.toNat, by omega, by omega, by omega, fun i c hi => ?_⟩
  exact List.all_eq_true.1 oka c (List.mem_of_getElem? hi)
theorem okAt_join {n : Nat} {a b : Cl} (ha : okAt n a = true) (hb : okAt n b = true) (hn : n ≤ 64) : okAt n (join a b) = true := by
  obtain ⟨h1, h2⟩ := okAt_iff.1 ha
  obtain ⟨h3, h4⟩ := okAt_iff.1 hb
  have h5 := join_ok (a := a) (b := b) ⟨pow_le64 hn h1, h2⟩ ⟨pow_le64 hn h3, h4⟩
  refine okAt_iff.2 ⟨?_, h5.2⟩
  show (if joinK a.k a.v b.k b.v = 2 then 0 else a.f ||| b.f) < 2 ^ n
  split
  · exact Nat.two_pow_pos n
  · exact Nat.or_lt_two_pow h1 h3
theorem val_both {n : Nat} {xs ys : List Cl} (hx : Val n xs) (hy : Val n ys) : Val n (bothC xs ys) := by
  refine ⟨hx.le, by simp [bothC, hx.len, hy.len], fun i c hi => ?_⟩
  simp [bothC, List.getElem?_zipWith] at hi
  split at hi
  · rename_i a b ha hb
    cases hi
    exact okAt_join (hx.ok i a ha) (hy.ok i b hb) hx.le
  · cases hi
theorem okAt_ofTo {n : Nat} {xs : List Cl} (hx : Val n xs) {c : Cl} (hc : okAt n c = true) : ∀ m, okAt n (ofTo xs c m) = true
  | 0 => okAt_iff.2 ⟨Nat.two_pow_pos n, kindOk_zero (okAt_iff.1 hc).2⟩
  | m + 1 => by
    have ih := okAt_ofTo hx hc m
    rw [ofTo_succ, ofStep]
    split
    · split
      · rename_i a h; exact okAt_join ih (hx.ok m a h) hx.le
      · exact ih
    · exact ih
theorem val_then {n : Nat} {xs ys : List Cl} (hx : Val n xs) (hy : Val n ys) : Val n (thenC xs ys) := by
  refine ⟨hx.le, by simp [thenC, hy.len], fun i c hi => ?_⟩
  simp [thenC] at hi
  obtain ⟨y, h1, rfl⟩ := hi
  exact okAt_ofTo hx (hy.ok i y h1) _
theorem val_unit {n : Nat} (hn : n ≤ 64) : Val n (unitC n) := by
  refine ⟨hn, unit_length n, fun i c hi => ?_⟩
  have h1 : i < n := by rw [← unit_length n]; exact (List.getElem?_eq_some_iff.1 hi).1
  rw [unit_at h1] at hi
  cases hi
  exact okAt_iff.2 ⟨Nat.pow_lt_pow_right (by decide) h1, by simp [kindOk, oneAt]⟩

theorem both_self {n : Nat} {xs : List Cl} (hx : Val n xs) : bothC xs xs = xs := by
  apply List.ext_getElem?
  intro i
  simp [bothC, List.getElem?_zipWith]
  rcases h : xs[i]? with _ | c
  · rfl
  · simp [join_self (hx.oks i c h)]
theorem both_comm {n : Nat} {xs ys : List Cl} (hx : Val n xs) (hy : Val n ys) : bothC xs ys = bothC ys xs := by
  apply List.ext_getElem?
  intro i
  simp only [bothC, List.getElem?_zipWith]
  rcases h : xs[i]? with _ | c <;> rcases h2 : ys[i]? with _ | c2 <;> simp
  exact join_comm (hx.oks i c h) (hy.oks i c2 h2)
theorem both_assoc {n : Nat} {xs ys zs : List Cl} (hx : Val n xs) (hy : Val n ys) (hz : Val n zs) : bothC (bothC xs ys) zs = bothC xs (bothC ys zs) := by
  apply List.ext_getElem?
  intro i
  simp only [bothC, List.getElem?_zipWith]
  rcases h : xs[i]? with _ | c <;> rcases h2 : ys[i]? with _ | c2 <;> rcases h3 : zs[i]? with _ | c3 <;> simp
  exact join_assoc (hx.oks i c h) (hy.oks i c2 h2) (hz.oks i c3 h3)
theorem then_both {n : Nat} {xs ys zs : List Cl} (hx : Val n xs) (hy : Val n ys) (hz : Val n zs) : thenC xs (bothC ys zs) = bothC (thenC xs ys) (thenC xs zs) := by
  apply List.ext_getElem?
  intro i
  simp only [bothC, thenC, List.getElem?_map, List.getElem?_zipWith]
  rcases h2 : ys[i]? with _ | c2 <;> rcases h3 : zs[i]? with _ | c3 <;> simp
  exact ofC_join hx.oks (hy.oks i c2 h2) (hz.oks i c3 h3)
theorem both_then {n : Nat} {xs ys zs : List Cl} (hx : Val n xs) (hy : Val n ys) (hz : Val n zs) : thenC (bothC xs ys) zs = bothC (thenC xs zs) (thenC ys zs) := by
  apply List.ext_getElem?
  intro i
  simp only [bothC, thenC, List.getElem?_map, List.getElem?_zipWith]
  rcases h3 : zs[i]? with _ | c3 <;> simp
  have h := ofTo_both (xs := xs) (ys := ys) (by rw [hx.len, hy.len]) hx.oks hy.oks (hz.oks i c3 h3) n
  have e := (val_both hx hy).len
  unfold bothC at e h
  unfold ofC
  rw [e, h, hx.len, hy.len]
theorem ofTo_unit {n : Nat} {c : Cl} (hc : okAt n c = true) : ∀ m, m ≤ n → ofTo (unitC n) c m = ⟨c.f % 2 ^ m, c.k, c.v⟩
  | 0, _ => by simp [ofTo, Nat.mod_one]
  | m + 1, hm => by
    have ih := ofTo_unit hc m (by omega)
    have hrow : (unitC n)[m]? = some (oneAt m) := unit_at (by omega)
    rw [ofTo_succ, ofStep, ih]
    cases hb : c.f.testBit m
    · rw [if_neg (by simp)]
      congr 1
      apply Nat.eq_of_testBit_eq
      intro i
      rw [Nat.testBit_mod_two_pow, Nat.testBit_mod_two_pow]
      rcases Nat.lt_or_ge i m with h | h
      · simp [h, Nat.lt_succ_of_lt h]
      · rcases Nat.eq_or_lt_of_le h with h2 | h2
        · subst h2; simp [hb]
        · have e1 : ¬ i < m := by omega
          have e2 : ¬ i < m + 1 := by omega
          simp [e1, e2]
    · rw [if_pos rfl, hrow]
      have hk : ¬ c.k = 2 := by
        intro h2
        have := (okAt_iff.1 hc).2
        simp [kindOk, h2] at this
        rw [this.2] at hb; simp at hb
      have hk0 : c.k = 0 → c.v = 0 := by
        intro h2
        have := (okAt_iff.1 hc).2
        simpa [kindOk, h2] using this
      have hf : c.f % 2 ^ m ||| 2 ^ m = c.f % 2 ^ (m + 1) := by
        apply Nat.eq_of_testBit_eq
        intro i
        rw [Nat.testBit_or, Nat.testBit_mod_two_pow, Nat.testBit_mod_two_pow, Nat.testBit_two_pow]
        rcases Nat.lt_or_ge i m with h | h
        · have e3 : ¬ m = i := by omega
          simp [h, Nat.lt_succ_of_lt h, e3]
        · rcases Nat.eq_or_lt_of_le h with h2 | h2
          · subst h2; simp [hb]
          · have e1 : ¬ i < m := by omega
            have e2 : ¬ i < m + 1 := by omega
            have e3 : ¬ m = i := by omega
            simp [e1, e2, e3]
      by_cases h0 : c.k = 0
      · simp [join, joinK, joinV, oneAt, hk, hf, h0, hk0 h0]
      · simp [join, joinK, joinV, oneAt, hk, hf, h0]
theorem unit_then {n : Nat} {xs : List Cl} (hx : Val n xs) : thenC (unitC n) xs = xs := by
  apply List.ext_getElem?
  intro i
  simp only [thenC, List.getElem?_map]
  rcases h : xs[i]? with _ | c
  · rfl
  · have h2 := ofTo_unit (hx.ok i c h) n (Nat.le_refl _)
    simp
    unfold ofC
    rw [unit_length, h2, Nat.mod_eq_of_lt (okAt_iff.1 (hx.ok i c h)).1]
theorem join_none {c : Cl} (h : c.ok) : join ⟨0, 0, 0⟩ c = c := by
  rcases ok_cases h with ⟨f, rfl⟩ | ⟨f, v, rfl⟩ | rfl <;> simp [join, joinK, joinV, manyC]
theorem ofTo_oneAt {xs : List Cl} {i : Nat} : ∀ m, m ≤ i → ofTo xs (oneAt i) m = ⟨0, 0, 0⟩
  | 0, _ => rfl
  | m + 1, h => by
    rw [ofTo_no (by simp [oneAt, Nat.testBit_two_pow]; omega)]
    exact ofTo_oneAt m (by omega)
theorem ofC_oneAt {n : Nat} {xs : List Cl} (hx : Val n xs) {i : Nat} {c : Cl} (hi : xs[i]? = some c) : ofC xs (oneAt i) = c := by
  have h1 : i < xs.length := (List.getElem?_eq_some_iff.1 hi).1
  have h2 : ofTo xs (oneAt i) (i + 1) = c := by
    rw [ofTo_yes (by simp [oneAt, Nat.testBit_two_pow]) hi, ofTo_oneAt i (Nat.le_refl _), join_none (hx.oks i c hi)]
  unfold ofC
  rw [ofTo_skip (k := i + 1) (by omega) (fun j h3 h4 => by simp [oneAt, Nat.testBit_two_pow]; omega), h2]
theorem then_unit {n : Nat} {xs : List Cl} (hx : Val n xs) : thenC xs (unitC n) = xs := by
  apply List.ext_getElem?
  intro i
  simp only [thenC, List.getElem?_map]
  rcases Nat.lt_or_ge i n with h | h
  · have e : xs[i]? = some (xs[i]'(by rw [hx.len]; exact h)) := List.getElem?_eq_getElem _
    rw [unit_at h, e]
    simp [ofC_oneAt hx e]
  · rw [List.getElem?_eq_none (by rw [unit_length]; exact h), List.getElem?_eq_none (by rw [hx.len]; exact h)]
    rfl
end Go.Proofs.YtkekldebklghoaaDoor
