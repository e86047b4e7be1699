/-
  THE COST LAYER: what the reader's state says of what was read (plain functions).
-/
import Derived.Test.YtccmgbbpihaapabDoorCostRd2
namespace Go.Proofs.YtccmgbbpihaapabDoor
open Go.RowKit
set_option linter.unusedVariables false
set_option linter.unusedSimpArgs false

/-- The reader behind k bytes that it has taken. -/
def Inv (limit : Int) (l : List UInt8) (k : Nat) (st c : Int) (e : Nat) : Prop :=
  (k = 0 ∧ st = 0 ∧ c = 0 ∧ e = 0) ∨
  (st = 1 ∧ e = 0 ∧ 1 ≤ k ∧ (l.take k).all isDig = true ∧ c = (valL (l.take k) : Int) ∧ c ≤ limit ∧ (k = 1 ∨ l[0]? ≠ some 48)) ∨
  (st = 2 ∧ c = 0 ∧ e = k ∧ 1 ≤ k ∧ k ≤ 4 ∧ l.take k = noneL.take k)

theorem val_ge {l : List UInt8} (h0 : l[0]? ≠ some 48) : ∀ k, 1 ≤ k → k ≤ l.length → (l.take k).all isDig = true → 10 ^ (k - 1) ≤ valL (l.take k)
  | 0, h, _, _ => by omega
  | 1, _, hk, h => by
    have hb : l[0]? = some (l[0]'(by omega)) := List.getElem?_eq_getElem _
    have e : l.take 1 = [l[0]'(by omega)] := by rw [takeB_snoc hb]; simp
    rw [e] at h ⊢
    have h2 : 48 ≤ (l[0]'(by omega)).toNat ∧ (l[0]'(by omega)).toNat ≤ 57 := by simpa [isDig] using h
    have h3 : (l[0]'(by omega)).toNat ≠ 48 := fun e9 => h0 (by rw [hb]; congr 1; exact UInt8.toNat_inj.1 e9)
    simp [valL]; omega
  | k + 2, _, hk, h => by
    have hb : l[k + 1]? = some (l[k + 1]'(by omega)) := List.getElem?_eq_getElem _
    have e := takeB_snoc hb
    rw [e] at h ⊢
    rw [List.all_append, Bool.and_eq_true] at h
    have ih := val_ge h0 (k + 1) (by omega) (by omega) h.1
    rw [valL_snoc, show k + 2 - 1 = (k + 1 - 1) + 1 by omega, Nat.pow_succ]
    omega
theorem head_take {l : List UInt8} {k : Nat} (h : 1 ≤ k) : (l.take k)[0]? = l[0]? := by
  rw [List.getElem?_take]; simp; omega
theorem none_head {k : Nat} (h : 1 ≤ k) : (noneL.take k)[0]? = some 110 := by rw [head_take h]; rfl
/-- A text that begins with a digit is no beginning of "none". -/
theorem beg_digit {limit : Int} {l : List UInt8} {b : UInt8} (h0 : l[0]? = some b) (hb : isDig b = true) : begC limit l = decide (0 ≤ numC limit l) := by
  unfold begC
  have h9 : (l == noneL.take l.length) = false := by
    rw [beq_eq_false_iff_ne]
    intro e
    have hl : 1 ≤ l.length := by
      cases l with
      | nil => simp at h0
      | cons x r => simp
    rw [e, none_head hl] at h0
    cases h0
    exact absurd hb (by decide)
  rw [h9]; simp
theorem num_nondig {limit : Int} {l : List UInt8} (h : l.all isDig = false) : numC limit l = -1 := by
  unfold numC
  split
  · rfl
  · rw [h]; simp
/-- Digits: worth what they are worth, where that is under the cap. -/
theorem num_digits {limit : Int} {l : List UInt8} (hlim : limit ≤ 1048576) (h1 : 1 ≤ l.length) (hd : l.all isDig = true) (hz : l.length = 1 ∨ l[0]? ≠ some 48) :
    numC limit l = if limit < (valL l : Int) then (-1 : Int) else (valL l : Int) := by
  unfold numC
  by_cases h7 : 7 < l.length
  · rw [if_pos (.inr (.inl h7))]
    have h0 : l[0]? ≠ some 48 := by
      rcases hz with h | h
      · omega
      · exact h
    have hv := val_ge h0 l.length h1 (Nat.le_refl _) (by rw [List.take_length]; exact hd)
    rw [List.take_length] at hv
    have hp : 10 ^ 7 ≤ 10 ^ (l.length - 1) := Nat.pow_le_pow_right (by decide) (by omega)
    have : limit < (valL l : Int) := by
      have : 10000000 ≤ valL l := Nat.le_trans (by simpa using hp) hv
      omega
    rw [if_pos this]
  · rw [if_neg, if_pos hd]
    rintro (h | h | ⟨h, h2⟩)
    · rw [h] at h1; simp at h1
    · exact h7 h
    · rcases hz with h3 | h3
      · omega
      · exact h3 h
theorem take_len {l : List UInt8} {k : Nat} {b : UInt8} (h : l[k]? = some b) : (l.take (k + 1)).length = k + 1 := by
  have := (List.getElem?_eq_some_iff.1 h).1
  simp; omega
theorem all_snoc {l : List UInt8} {k : Nat} {b : UInt8} (h : l[k]? = some b) : (l.take (k + 1)).all isDig = ((l.take k).all isDig && isDig b) := by
  rw [takeB_snoc h, List.all_append]; simp
theorem dig_pos {b : UInt8} (h : isDig b = true) : 48 ≤ b.toNat ∧ b.toNat ≤ 57 := by simpa [isDig] using h

theorem fit_digit {limit : Int} {l : List UInt8} {k : Nat} {st c : Int} {e : Nat} {b : UInt8} (h0 : 0 ≤ limit) (hlim : limit ≤ 1048576) (hi : Inv limit l k st c e) (hk : l[k]? = some b) (hb : isDig b = true)
    (a1 : ¬ st = 2) (a2 : ¬ (st = 1 ∧ c = 0)) (a3 : ¬ limit < 10 * c + ((b.toNat : Int) - 48)) : begC limit (l.take (k + 1)) = true ∧ Inv limit l (k + 1) 1 (10 * c + ((b.toNat : Int) - 48)) 0 ∧ e = 0 := by
  obtain ⟨b1, b2⟩ := dig_pos hb
  have hlen := take_len hk
  have main : (l.take (k + 1)).all isDig = true ∧ 10 * c + ((b.toNat : Int) - 48) = (valL (l.take (k + 1)) : Int) ∧ (k + 1 = 1 ∨ l[0]? ≠ some 48) ∧ e = 0 ∧ (l[0]? = some b ∨ 1 ≤ k) := by
    rw [all_snoc hk, hb, takeB_snoc hk, valL_snoc]
    rcases hi with ⟨rfl, rfl, rfl, rfl⟩ | ⟨rfl, rfl, h1, hd, hc, hl, hz⟩ | ⟨rfl, _⟩
    · refine ⟨by simp, by simp [valL]; omega, .inl rfl, rfl, .inl hk⟩
    · refine ⟨by rw [hd]; rfl, by rw [hc]; omega, .inr ?_, rfl, .inr h1⟩
      rcases hz with rfl | hz
      · intro h48
        apply a2
        refine ⟨rfl, ?_⟩
        rw [hc, show l.take 1 = [48] by rw [takeB_snoc h48]; simp]
        rfl
      · exact hz
    · exact absurd rfl a1
  obtain ⟨m1, m2, m3, m4, _⟩ := main
  have hh : ∃ b0, (l.take (k + 1))[0]? = some b0 ∧ isDig b0 = true := by
    have e : (l.take (k + 1))[0]? = some ((l.take (k + 1))[0]'(by omega)) := List.getElem?_eq_getElem _
    exact ⟨_, e, List.all_eq_true.1 m1 _ (List.getElem_mem _)⟩
  obtain ⟨b0, hb0, hd0⟩ := hh
  refine ⟨?_, .inr (.inl ⟨rfl, rfl, by omega, m1, m2, by omega, m3⟩), m4⟩
  rw [beg_digit hb0 hd0, num_digits hlim (by omega) m1 (by rw [hlen, head_take (by omega)]; exact m3), ← m2, if_neg a3]
  have : 0 ≤ c := by
    rcases hi with ⟨_, _, rfl, _⟩ | ⟨_, _, _, _, hc, _⟩ | ⟨_, rfl, _⟩ <;> omega
  rw [decide_eq_true_iff]; omega
theorem fit_digit_no {limit : Int} {l : List UInt8} {k : Nat} {st c : Int} {e : Nat} {b : UInt8} (h0 : 0 ≤ limit) (hlim : limit ≤ 1048576) (hi : Inv limit l k st c e) (hk : l[k]? = some b) (hb : isDig b = true)
    (a : st = 2 ∨ (st = 1 ∧ c = 0) ∨ limit < 10 * c + ((b.toNat : Int) - 48)) : begC limit (l.take (k + 1)) = false := by
  obtain ⟨b1, b2⟩ := dig_pos hb
  have hlen := take_len hk
  rcases hi with ⟨rfl, rfl, rfl, rfl⟩ | ⟨rfl, rfl, h1, hd, hc, hl, hz⟩ | ⟨rfl, rfl, he, h1, h4, ht⟩
  · have a3 : limit < 10 * 0 + ((b.toNat : Int) - 48) := by
      rcases a with h | h | h
      · omega
      · omega
      · exact h
    have ha : (l.take (0 + 1)).all isDig = true := by rw [all_snoc hk, hb]; simp
    rw [beg_digit (by rw [head_take (by omega)]; exact hk) hb, num_digits hlim (by omega) ha (.inl hlen), takeB_snoc hk, valL_snoc, if_pos (by simp [valL]; omega)]
    rfl
  · have ha : (l.take (k + 1)).all isDig = true := by rw [all_snoc hk, hd, hb]; rfl
    have e0 : (l.take (k + 1))[0]? = some ((l.take (k + 1))[0]'(by omega)) := List.getElem?_eq_getElem _
    have hd0 := List.all_eq_true.1 ha _ (List.getElem_mem (h := show 0 < (l.take (k + 1)).length by omega))
    rw [beg_digit e0 hd0]
    by_cases hz48 : l[0]? = some 48
    · have : numC limit (l.take (k + 1)) = -1 := by
        unfold numC
        rw [if_pos (.inr (.inr ⟨by rw [head_take (by omega)]; exact hz48, by omega⟩))]
      rw [this]; rfl
    · rw [num_digits hlim (by omega) ha (.inr (by rw [head_take (by omega)]; exact hz48)), takeB_snoc hk, valL_snoc]
      have a3 : limit < 10 * c + ((b.toNat : Int) - 48) := by
        rcases a with h | ⟨_, h⟩ | h
        · omega
        · exfalso
          have hv := val_ge hz48 k h1 (by have := (List.getElem?_eq_some_iff.1 hk).1; omega) hd
          have : 0 < 10 ^ (k - 1) := Nat.pow_pos (by decide)
          omega
        · exact h
      rw [if_pos (by rw [hc] at a3; omega)]
      rfl
  · have hk0 : (l.take (k + 1))[0]? = some 110 := by
      rw [head_take (by omega), ← head_take (l := l) h1, ht, none_head h1]
    have hn : (l.take (k + 1)).all isDig = false := by
      rw [Bool.eq_false_iff]
      intro h
      have := List.all_eq_true.1 h _ (List.mem_of_getElem? hk0)
      exact absurd this (by decide)
    unfold begC
    rw [num_nondig hn, hlen]
    have hne : ¬ (k + 1 ≤ 4 ∧ l.take (k + 1) = noneL.take (k + 1)) := by
      rintro ⟨h5, h6⟩
      have h7 : (l.take (k + 1))[k]? = some b := by rw [List.getElem?_take]; simp; exact hk
      rw [h6, List.getElem?_take] at h7
      simp at h7
      rcases (by omega : k = 1 ∨ k = 2 ∨ k = 3) with rfl | rfl | rfl <;> simp [noneL] at h7 <;> subst h7 <;> exact absurd hb (by decide)
    by_cases h5 : k + 1 ≤ 4
    · have h6 : (l.take (k + 1) == noneL.take (k + 1)) = false := by rw [beq_eq_false_iff_ne]; exact fun h => hne ⟨h5, h⟩
      rw [h6]; simp
    · simp; omega
theorem none_get {k : Nat} (h : k < 4) : noneL[k]? = some (UInt8.ofNat (noneAt k).toNat) ∧ (UInt8.ofNat (noneAt k).toNat).toNat = (noneAt k).toNat ∧ 0 ≤ noneAt k := by
  rcases (by omega : k = 0 ∨ k = 1 ∨ k = 2 ∨ k = 3) with rfl | rfl | rfl | rfl <;> exact ⟨rfl, by decide, by decide⟩
theorem none_snoc {k : Nat} (h : k < 4) : noneL.take (k + 1) = noneL.take k ++ [UInt8.ofNat (noneAt k).toNat] := takeB_snoc (none_get h).1
theorem fit_letter {limit : Int} {l : List UInt8} {k : Nat} {st c : Int} {e : Nat} {b : UInt8} (hi : Inv limit l k st c e) (hk : l[k]? = some b)
    (a1 : ¬ st = 1) (a2 : e < 4) (a3 : noneAt e = (b.toNat : Int)) : begC limit (l.take (k + 1)) = true ∧ Inv limit l (k + 1) 2 c (e + 1) := by
  have hlen := take_len hk
  have main : c = 0 ∧ e = k ∧ l.take k = noneL.take k := by
    rcases hi with ⟨rfl, rfl, rfl, rfl⟩ | ⟨rfl, _⟩ | ⟨rfl, rfl, he, h1, h4, ht⟩
    · exact ⟨rfl, rfl, by simp⟩
    · exact absurd rfl a1
    · exact ⟨rfl, he, ht⟩
  obtain ⟨m1, m2, m3⟩ := main
  subst m2
  obtain ⟨_, n2, n3⟩ := none_get a2
  have hb : UInt8.ofNat (noneAt e).toNat = b := UInt8.toNat_inj.1 (by rw [n2]; omega)
  have ht : l.take (e + 1) = noneL.take (e + 1) := by rw [takeB_snoc hk, none_snoc a2, m3, hb]
  refine ⟨?_, .inr (.inr ⟨rfl, m1, rfl, by omega, by omega, ht⟩)⟩
  unfold begC
  rw [hlen, ht]
  simp; left; omega
theorem fit_letter_no {limit : Int} {l : List UInt8} {k : Nat} {st c : Int} {e : Nat} {b : UInt8} (hi : Inv limit l k st c e) (hk : l[k]? = some b) (hb : isDig b = false)
    (a : st = 1 ∨ e = 4 ∨ noneAt e ≠ (b.toNat : Int)) : begC limit (l.take (k + 1)) = false := by
  have hlen := take_len hk
  have hn : (l.take (k + 1)).all isDig = false := by rw [all_snoc hk, hb]; simp
  have hne : ¬ (k + 1 ≤ 4 ∧ l.take (k + 1) = noneL.take (k + 1)) := by
    rintro ⟨h5, h6⟩
    have hkb : (l.take (k + 1))[k]? = some b := by rw [List.getElem?_take]; simp; exact hk
    rw [h6, List.getElem?_take] at hkb
    simp at hkb
    obtain ⟨n1, n2, n3⟩ := none_get (show k < 4 by omega)
    rw [n1] at hkb
    injection hkb with hkb
    have hnb : noneAt k = (b.toNat : Int) := by rw [← hkb, n2]; omega
    rcases hi with ⟨rfl, rfl, rfl, rfl⟩ | ⟨rfl, rfl, h1, hd, _⟩ | ⟨rfl, rfl, he, h1, h4, ht⟩
    · rcases a with h | h | h
      · omega
      · omega
      · exact h hnb
    · have hk0 : (l.take k)[0]? = some 110 := by
        rw [head_take h1, ← head_take (l := l) (k := k + 1) (by omega), h6, none_head (by omega)]
      have := List.all_eq_true.1 hd _ (List.mem_of_getElem? hk0)
      exact absurd this (by decide)
    · subst he
      rcases a with h | h | h
      · omega
      · omega
      · exact h hnb
  unfold begC
  rw [num_nondig hn, hlen]
  by_cases h5 : k + 1 ≤ 4
  · have h6 : (l.take (k + 1) == noneL.take (k + 1)) = false := by rw [beq_eq_false_iff_ne]; exact fun h => hne ⟨h5, h⟩
    rw [h6]; simp
  · simp; omega
/-- What stands at the end. -/
theorem end_done {limit : Int} {l : List UInt8} {st c : Int} {e : Nat} (h0 : 0 ≤ limit) (hlim : limit ≤ 1048576) (hi : Inv limit l l.length st c e) :
    (decide (st = 1) || decide (e = 4)) = readOk limit l l.length ∧ (st = 1 → readA limit l l.length = c) ∧ (st = 2 → e = 4 → readA limit l l.length = -1) := by
  rcases hi with ⟨hk, rfl, rfl, rfl⟩ | ⟨rfl, rfl, h1, hd, hc, hl, hz⟩ | ⟨rfl, rfl, he, h1, h4, ht⟩
  · have hl : l = [] := List.length_eq_zero_iff.1 hk
    subst hl
    exact ⟨rfl, fun h => by omega, fun h => by omega⟩
  · rw [List.take_length] at hd hc
    have hn := num_digits hlim h1 hd hz
    rw [if_neg (by omega)] at hn
    have hnn : l ≠ noneL := by
      rintro rfl
      exact absurd hd (by decide)
    refine ⟨?_, fun _ => ?_, fun h => by omega⟩
    · unfold readOk
      rw [hn]
      simp
    · unfold readA
      rw [if_neg (fun h => hnn h.2), hn, if_pos ⟨rfl, by omega⟩, hc]
  · rw [List.take_length] at ht
    have h110 : l[0]? = some 110 := by
      have := none_head h1
      rw [← ht] at this; exact this
    have hnd : l.all isDig = false := by
      rw [Bool.eq_false_iff]
      intro h
      have := List.all_eq_true.1 h _ (List.mem_of_getElem? h110)
      exact absurd this (by decide)
    have hn := num_nondig (limit := limit) hnd
    refine ⟨?_, fun h => by omega, fun _ h => ?_⟩
    · unfold readOk
      rw [hn]
      by_cases h5 : e = 4
      · have hl : l = noneL := by rw [ht, ← he, h5]; rfl
        simp [h5, hl]
      · have hl : ¬ l = noneL := by
          intro h
          rw [h] at he
          exact h5 (by rw [he]; rfl)
        simp [h5, hl]
    · have hl : l = noneL := by rw [ht, ← he, h]; rfl
      unfold readA
      rw [if_pos ⟨rfl, hl⟩]
end Go.Proofs.YtccmgbbpihaapabDoor
