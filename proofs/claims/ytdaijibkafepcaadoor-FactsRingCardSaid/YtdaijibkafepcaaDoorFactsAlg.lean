/-
  THE FACTS LAYER: transformers are an idempotent semiring (the plain functions).
-/
import Derived.Test.YtdaijibkafepcaaDoorFactsEnv
namespace Go.Proofs.YtdaijibkafepcaaDoor
open Go.RowKit
set_option linter.unusedVariables false

theorem mem_iff {s i : Nat} : i ∈ mem s ↔ i < 64 ∧ s.testBit i = true := ⟨fun h => ⟨mem_lt h, mem_bit h⟩, fun h => mem_of_bit h.1 h.2⟩
theorem acc_bit (rows : List Nat) (j : Nat) : ∀ (l : List Nat) (g : Nat), (accF rows g l).testBit j = true ↔ g.testBit j = true ∨ ∃ i ∈ l, (rows.getD i 0).testBit j = true
  | [], g => by simp [accF]
  | x :: l, g => by
    have := acc_bit rows j l (g ||| rows.getD x 0)
    rw [show accF rows g (x :: l) = accF rows (g ||| rows.getD x 0) l from rfl, this, Nat.testBit_or, Bool.or_eq_true]
    simp only [List.mem_cons, exists_eq_or_imp]
    exact or_assoc
theorem made_bit {g s j : Nat} {rows : List Nat} : (madeF g rows s).testBit j = true ↔ g.testBit j = true ∨ ∃ i, (i < 64 ∧ s.testBit i = true) ∧ (rows.getD i 0).testBit j = true := by
  rw [madeF, acc_bit]
  simp only [mem_iff]
theorem bit_ext {a b : Nat} (h : ∀ j, a.testBit j = true ↔ b.testBit j = true) : a = b := by
  apply Nat.eq_of_testBit_eq
  intro j
  rw [Bool.eq_iff_iff]; exact h j
theorem andn_iff {a b j : Nat} (ha : a < 18446744073709551616) (hb : b < 18446744073709551616) : (andn a b).testBit j = true ↔ a.testBit j = true ∧ ¬ b.testBit j = true := by
  rw [andn_bit ha hb]; simp
theorem getD_lt {rows : List Nat} (h : ∀ r ∈ rows, r < 18446744073709551616) (i : Nat) : rows.getD i 0 < 18446744073709551616 := by
  rw [List.getD_eq_getElem?_getD]
  cases hx : rows[i]? with
  | none => simp
  | some y => exact h y (List.mem_of_getElem? hx)
theorem getD_canon {g : Nat} {rows : List Nat} (i : Nat) : (canonL g rows).getD i 0 = andn (rows.getD i 0) g := by
  rw [List.getD_eq_getElem?_getD, List.getD_eq_getElem?_getD, canonL, List.getElem?_map]
  cases rows[i]? <;> simp [andn]
theorem getD_or {xs ys : List Nat} (hl : ys.length = xs.length) (i : Nat) : (orL xs ys).getD i 0 = xs.getD i 0 ||| ys.getD i 0 := by
  rw [List.getD_eq_getElem?_getD, List.getD_eq_getElem?_getD, List.getD_eq_getElem?_getD, orL, List.getElem?_zipWith]
  rcases Nat.lt_or_ge i xs.length with h | h
  · rw [List.getElem?_eq_getElem h, List.getElem?_eq_getElem (by omega)]; simp
  · rw [List.getElem?_eq_none h, List.getElem?_eq_none (by omega)]; simp
theorem made_canon {g : Nat} {rows : List Nat} (hg : g < 18446744073709551616) (hr : ∀ r ∈ rows, r < 18446744073709551616) (s : Nat) : madeF g (canonL g rows) s = madeF g rows s := by
  apply bit_ext; intro j
  rw [made_bit, made_bit]
  constructor
  · rintro (h | ⟨i, hi, h⟩)
    · exact .inl h
    · rw [getD_canon, andn_iff (getD_lt hr i) hg] at h
      exact .inr ⟨i, hi, h.1⟩
  · rintro (h | ⟨i, hi, h⟩)
    · exact .inl h
    · by_cases hj : g.testBit j = true
      · exact .inl hj
      · exact .inr ⟨i, hi, by rw [getD_canon, andn_iff (getD_lt hr i) hg]; exact ⟨h, hj⟩⟩
theorem made_or {ga gb : Nat} {xs ys : List Nat} (hl : ys.length = xs.length) (s : Nat) : madeF (ga ||| gb) (orL xs ys) s = madeF ga xs s ||| madeF gb ys s := by
  apply bit_ext; intro j
  rw [Nat.testBit_or, Bool.or_eq_true, made_bit, made_bit, made_bit, Nat.testBit_or, Bool.or_eq_true]
  constructor
  · rintro ((h | h) | ⟨i, hi, h⟩)
    · exact .inl (.inl h)
    · exact .inr (.inl h)
    · rw [getD_or hl, Nat.testBit_or, Bool.or_eq_true] at h
      rcases h with h | h
      · exact .inl (.inr ⟨i, hi, h⟩)
      · exact .inr (.inr ⟨i, hi, h⟩)
  · rintro ((h | ⟨i, hi, h⟩) | (h | ⟨i, hi, h⟩))
    · exact .inl (.inl h)
    · exact .inr ⟨i, hi, by rw [getD_or hl, Nat.testBit_or, Bool.or_eq_true]; exact .inl h⟩
    · exact .inl (.inr h)
    · exact .inr ⟨i, hi, by rw [getD_or hl, Nat.testBit_or, Bool.or_eq_true]; exact .inr h⟩
theorem getD_map {f : Nat → Nat} {xs : List Nat} (i : Nat) : (xs.map f).getD i 0 = if i < xs.length then f (xs.getD i 0) else 0 := by
  rw [List.getD_eq_getElem?_getD, List.getD_eq_getElem?_getD, List.getElem?_map]
  split
  · rename_i h; rw [List.getElem?_eq_getElem h]; rfl
  · rename_i h; rw [List.getElem?_eq_none (by omega)]; rfl
theorem made_then {ga gb : Nat} {xs ys : List Nat} (s : Nat) : madeF (madeF gb ys ga) (xs.map (madeF gb ys)) s = madeF gb ys (madeF ga xs s) := by
  apply bit_ext; intro j
  rw [made_bit, made_bit, made_bit]
  simp only [made_bit]
  constructor
  · rintro ((h | ⟨k, ⟨hk, hk2⟩, h⟩) | ⟨i, hi, h⟩)
    · exact .inl h
    · exact .inr ⟨k, ⟨hk, .inl hk2⟩, h⟩
    · rw [getD_map] at h
      split at h
      · rw [made_bit] at h
        rcases h with h | ⟨k, ⟨hk, hk2⟩, h⟩
        · exact .inl h
        · exact .inr ⟨k, ⟨hk, .inr ⟨i, hi, hk2⟩⟩, h⟩
      · simp at h
  · rintro (h | ⟨k, ⟨hk, (hk2 | ⟨i, hi, hk2⟩)⟩, h⟩)
    · exact .inl (.inl h)
    · exact .inl (.inr ⟨k, ⟨hk, hk2⟩, h⟩)
    · refine .inr ⟨i, hi, ?_⟩
      rw [getD_map]
      split
      · rw [made_bit]; exact .inr ⟨k, ⟨hk, hk2⟩, h⟩
      · rename_i hn
        rw [List.getD_eq_getElem?_getD, List.getElem?_eq_none (by omega)] at hk2
        simp at hk2
theorem made_add {g : Nat} {rows : List Nat} (s t : Nat) : madeF g rows (s ||| t) = madeF g rows s ||| madeF g rows t := by
  apply bit_ext; intro j
  rw [Nat.testBit_or, Bool.or_eq_true, made_bit, made_bit, made_bit]
  simp only [Nat.testBit_or, Bool.or_eq_true]
  constructor
  · rintro (h | ⟨i, ⟨hi, (h1 | h1)⟩, h⟩)
    · exact .inl (.inl h)
    · exact .inl (.inr ⟨i, ⟨hi, h1⟩, h⟩)
    · exact .inr (.inr ⟨i, ⟨hi, h1⟩, h⟩)
  · rintro ((h | ⟨i, ⟨hi, h1⟩, h⟩) | (h | ⟨i, ⟨hi, h1⟩, h⟩))
    · exact .inl h
    · exact .inr ⟨i, ⟨hi, .inl h1⟩, h⟩
    · exact .inl h
    · exact .inr ⟨i, ⟨hi, .inr h1⟩, h⟩

/-- A transformer that may be, said plainly. -/
structure Good (m : Nat) (g : Nat) (rows : List Nat) : Prop where
  hm : m ≤ 64
  hl : rows.length = m
  hg : g < 2 ^ m
  hr : ∀ r ∈ rows, r < 2 ^ m
  hc : ∀ r ∈ rows, r &&& g = 0
theorem Good.g64 {m g : Nat} {rows : List Nat} (h : Good m g rows) : g < 18446744073709551616 := Nat.lt_of_lt_of_le h.hg (pow_le64 h.hm)
theorem Good.r64 {m g : Nat} {rows : List Nat} (h : Good m g rows) : ∀ r ∈ rows, r < 18446744073709551616 := fun r hr => Nat.lt_of_lt_of_le (h.hr r hr) (pow_le64 h.hm)
theorem good_check {m g : Nat} {rows : List Nat} (h : Good m g rows) : checkE m g rows = 0 := by
  have hd : dimB m = true := by simp [dimB]; have := h.hm; omega
  have h1 : shapeB m g rows = true := by
    unfold shapeB
    simp only [Bool.and_eq_true, decide_eq_true_eq, List.all_eq_true]
    exact ⟨h.hl, (insN_iff h.hm h.g64).2 h.hg, fun r hr => (insN_iff h.hm (h.r64 r hr)).2 (h.hr r hr)⟩
  have h2 : clearB g rows = true := by
    unfold clearB
    rw [List.all_eq_true]
    intro r hr
    have := h.hc r hr
    simp [this]
  unfold checkE
  rw [if_pos hd, Int.toNat_natCast, h1, h2]; rfl
theorem check_good {n : Int} {g : Nat} {rows : List Nat} (hg : g < 18446744073709551616) (hr : ∀ r ∈ rows, r < 18446744073709551616) (h : checkE n g rows = 0) : ∃ m : Nat, n = m ∧ Good m g rows := by
  obtain ⟨hd, hs, hc⟩ := checkE_ok h
  obtain ⟨m, rfl, hm⟩ := dim_nat hd
  rw [Int.toNat_natCast] at hs
  obtain ⟨hl, ig, ir⟩ := shapeB_len hs
  unfold clearB at hc
  rw [List.all_eq_true] at hc
  exact ⟨m, rfl, hm, hl, (insN_iff hm hg).1 ig, fun r h => (insN_iff hm (hr r h)).1 (ir r h), fun r h => by simpa using hc r h⟩
theorem canon_good {m g : Nat} {rows : List Nat} (hm : m ≤ 64) (hl : rows.length = m) (hg : g < 2 ^ m) (hr : ∀ r ∈ rows, r < 2 ^ m) : Good m g (canonL g rows) where
  hm := hm
  hl := by rw [canonL_length, hl]
  hg := hg
  hr := fun r h => by
    obtain ⟨x, hx, rfl⟩ := List.mem_map.1 h
    exact Nat.lt_of_le_of_lt Nat.and_le_left (hr x hx)
  hc := fun r h => by
    obtain ⟨x, hx, rfl⟩ := List.mem_map.1 h
    have h1 := Nat.lt_of_lt_of_le (hr x hx) (pow_le64 hm)
    have h2 := Nat.lt_of_lt_of_le hg (pow_le64 hm)
    apply Nat.eq_of_testBit_eq
    intro j
    rw [Nat.testBit_and, andn_bit h1 h2, Nat.zero_testBit]
    cases x.testBit j <;> cases g.testBit j <;> rfl
theorem acc_small {m : Nat} {rows : List Nat} (hr : ∀ r ∈ rows, r < 2 ^ m) : ∀ (l : List Nat) (g : Nat), g < 2 ^ m → accF rows g l < 2 ^ m
  | [], g, h => h
  | x :: l, g, h => by
    have : rows.getD x 0 < 2 ^ m := by
      rw [List.getD_eq_getElem?_getD]
      cases hx : rows[x]? with
      | none => exact Nat.two_pow_pos m
      | some y => exact hr y (List.mem_of_getElem? hx)
    exact acc_small hr l _ (Nat.or_lt_two_pow h this)
theorem Good.made {m g : Nat} {rows : List Nat} (h : Good m g rows) (s : Nat) : madeF g rows s < 2 ^ m := acc_small h.hr _ _ h.hg
theorem Good.comb {m ga gb : Nat} {xs ys : List Nat} (ha : Good m ga xs) (hb : Good m gb ys) : Good m (ga ||| gb) (canonL (ga ||| gb) (orL xs ys)) :=
  canon_good ha.hm (by rw [orL_len (by rw [ha.hl, hb.hl]), ha.hl]) (Nat.or_lt_two_pow ha.hg hb.hg) (fun r hr => by
    obtain ⟨i, hi⟩ := List.getElem?_of_mem hr
    unfold orL at hi
    rw [List.getElem?_zipWith] at hi
    cases h1 : xs[i]? with
    | none => rw [h1] at hi; simp at hi
    | some a =>
      cases h2 : ys[i]? with
      | none => rw [h1, h2] at hi; simp at hi
      | some b =>
        rw [h1, h2] at hi
        have : a ||| b = r := by simpa using hi
        rw [← this]
        exact Nat.or_lt_two_pow (ha.hr a (List.mem_of_getElem? h1)) (hb.hr b (List.mem_of_getElem? h2)))
theorem Good.ext {m ga gb : Nat} {xs ys : List Nat} (ha : Good m ga xs) (hb : Good m gb ys) : Good m (madeF gb ys ga) (canonL (madeF gb ys ga) (xs.map (madeF gb ys))) :=
  canon_good ha.hm (by rw [List.length_map, ha.hl]) (hb.made ga) (fun r hr => by
    obtain ⟨x, _, rfl⟩ := List.mem_map.1 hr
    exact hb.made x)
theorem both_good {m ga gb : Nat} {xs ys : List Nat} (ha : Good m ga xs) (hb : Good m gb ys) : bothE m ga xs gb ys = 0 := by
  rw [bothE, if_pos (good_check ha)]; exact good_check hb
theorem combG_good {m ga gb : Nat} {xs ys : List Nat} (ha : Good m ga xs) (hb : Good m gb ys) : combG m ga xs gb ys = ga ||| gb := by rw [combG, if_pos (both_good ha hb)]
theorem combV_good {m ga gb : Nat} {xs ys : List Nat} (ha : Good m ga xs) (hb : Good m gb ys) : combV m ga xs gb ys = canonL (ga ||| gb) (orL xs ys) := by rw [combV, if_pos (both_good ha hb)]
theorem extG_good {m ga gb : Nat} {xs ys : List Nat} (ha : Good m ga xs) (hb : Good m gb ys) : extG m ga xs gb ys = madeF gb ys ga := by rw [extG, if_pos (both_good ha hb)]
theorem extV_good {m ga gb : Nat} {xs ys : List Nat} (ha : Good m ga xs) (hb : Good m gb ys) : extV m ga xs gb ys = canonL (madeF gb ys ga) (xs.map (madeF gb ys)) := by rw [extV, if_pos (both_good ha hb)]
theorem Good.combT {m ga gb : Nat} {xs ys : List Nat} (ha : Good m ga xs) (hb : Good m gb ys) : Good m (combG m ga xs gb ys) (combV m ga xs gb ys) := by rw [combG_good ha hb, combV_good ha hb]; exact ha.comb hb
theorem Good.extT {m ga gb : Nat} {xs ys : List Nat} (ha : Good m ga xs) (hb : Good m gb ys) : Good m (extG m ga xs gb ys) (extV m ga xs gb ys) := by rw [extG_good ha hb, extV_good ha hb]; exact ha.ext hb
theorem made_comb {m ga gb : Nat} {xs ys : List Nat} (ha : Good m ga xs) (hb : Good m gb ys) (s : Nat) : madeF (combG m ga xs gb ys) (combV m ga xs gb ys) s = madeF ga xs s ||| madeF gb ys s := by
  rw [combG_good ha hb, combV_good ha hb, made_canon (or64 ha.g64 hb.g64) (orL_lt ha.r64 hb.r64), made_or (by rw [ha.hl, hb.hl])]
theorem made_ext {m ga gb : Nat} {xs ys : List Nat} (ha : Good m ga xs) (hb : Good m gb ys) (s : Nat) : madeF (extG m ga xs gb ys) (extV m ga xs gb ys) s = madeF gb ys (madeF ga xs s) := by
  rw [extG_good ha hb, extV_good ha hb, made_canon (madeF_lt hb.r64 hb.g64) (fun r hr => by obtain ⟨x, _, rfl⟩ := List.mem_map.1 hr; exact madeF_lt hb.r64 hb.g64), made_then]
theorem made_zero (g : Nat) (rows : List Nat) : madeF g rows 0 = g := by rw [madeF, mem_zero]; rfl
theorem made_one {m g : Nat} {rows : List Nat} (h : Good m g rows) {i r : Nat} (hi : rows[i]? = some r) : madeF g rows (2 ^ i) = g ||| r := by
  have hil := (List.getElem?_eq_some_iff.1 hi).1
  have hi64 : i < 64 := by have := h.hl; have := h.hm; omega
  apply bit_ext; intro j
  rw [made_bit, Nat.testBit_or, Bool.or_eq_true]
  constructor
  · rintro (h1 | ⟨k, ⟨hk, h2⟩, h3⟩)
    · exact .inl h1
    · rw [Nat.testBit_two_pow] at h2
      have e : i = k := by simpa using h2
      subst e
      rw [List.getD_eq_getElem?_getD, hi] at h3
      exact .inr h3
  · rintro (h1 | h1)
    · exact .inl h1
    · exact .inr ⟨i, ⟨hi64, by rw [Nat.testBit_two_pow]; simp⟩, by rw [List.getD_eq_getElem?_getD, hi]; exact h1⟩
theorem good_ext {m g h : Nat} {xs ys : List Nat} (hx : Good m g xs) (hy : Good m h ys) (e : ∀ s, madeF g xs s = madeF h ys s) : g = h ∧ xs = ys := by
  have e0 := e 0
  rw [made_zero, made_zero] at e0
  subst e0
  refine ⟨rfl, list_eq_of (by rw [hx.hl, hy.hl]) fun i x y hi hj => ?_⟩
  have e1 := e (2 ^ i)
  rw [made_one hx hi, made_one hy hj] at e1
  have c1 := hx.hc x (List.mem_of_getElem? hi)
  have c2 := hy.hc y (List.mem_of_getElem? hj)
  apply Nat.eq_of_testBit_eq
  intro j
  have b1 := congrArg (fun n => n.testBit j) e1
  have b2 := congrArg (fun n => n.testBit j) c1
  have b3 := congrArg (fun n => n.testBit j) c2
  simp only [Nat.testBit_or, Nat.testBit_and, Nat.zero_testBit] at b1 b2 b3
  cases h1 : x.testBit j <;> cases h2 : y.testBit j <;> cases h3 : g.testBit j <;> simp_all
end Go.Proofs.YtdaijibkafepcaaDoor
