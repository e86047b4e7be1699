/-
  THE COST LAYER: a cost's text is read as it; what is read has the text that was read (plain functions).
-/
import Derived.Test.YtccmgbbpihaapabDoorCostRead
import Derived.Lib.ItoaMem
namespace Go.Proofs.YtccmgbbpihaapabDoor
open Go.RowKit
set_option linter.unusedVariables false
set_option linter.unusedSimpArgs false

theorem ofNat_dig {d : Nat} (h : d < 10) : (UInt8.ofNat (48 + d)).toNat = 48 + d := by
  rw [UInt8.toNat_ofNat']; omega
theorem dig_ofNat {d : Nat} (h : d < 10) : isDig (UInt8.ofNat (48 + d)) = true := by
  unfold isDig
  rw [ofNat_dig h, decide_eq_true (by omega : 48 ≤ 48 + d), decide_eq_true (by omega : 48 + d ≤ 57)]
  rfl
theorem dec_small {u : Nat} (h : u < 10) : Lib.decDigits u = [UInt8.ofNat (48 + u)] := by rw [Lib.decDigits, dif_pos h]
theorem dec_big {u : Nat} (h : ¬ u < 10) : Lib.decDigits u = Lib.decDigits (u / 10) ++ [UInt8.ofNat (48 + u % 10)] := by rw [Lib.decDigits, dif_neg h]
theorem dec_dig (u : Nat) : (Lib.decDigits u).all isDig = true := by
  induction u using Nat.strongRecOn with
  | _ u ih =>
    by_cases h : u < 10
    · rw [dec_small h, List.all_cons, dig_ofNat h]; rfl
    · rw [dec_big h, List.all_append, ih (u / 10) (by omega), List.all_cons, dig_ofNat (Nat.mod_lt u (by decide))]; rfl
theorem dec_val (u : Nat) : valL (Lib.decDigits u) = u := by
  induction u using Nat.strongRecOn with
  | _ u ih =>
    by_cases h : u < 10
    · rw [dec_small h]
      show 0 * 10 + ((UInt8.ofNat (48 + u)).toNat - 48) = u
      rw [ofNat_dig h]; omega
    · rw [dec_big h, valL_snoc, ih (u / 10) (by omega), ofNat_dig (Nat.mod_lt u (by decide))]; omega
theorem dec_pos (u : Nat) : 1 ≤ (Lib.decDigits u).length := by
  by_cases h : u < 10
  · rw [dec_small h]; simp
  · rw [dec_big h]; simp
theorem dec_head {u : Nat} (h1 : 1 ≤ u) : (Lib.decDigits u)[0]? ≠ some 48 := by
  induction u using Nat.strongRecOn with
  | _ u ih =>
    by_cases h : u < 10
    · rw [dec_small h]
      intro e
      have e2 : UInt8.ofNat (48 + u) = 48 := by simpa only [List.getElem?_cons_zero, Option.some.injEq] using e
      have e3 := congrArg UInt8.toNat e2
      rw [ofNat_dig h] at e3
      have : (48 : UInt8).toNat = 48 := by decide
      omega
    · rw [dec_big h, List.getElem?_append_left (dec_pos _)]
      exact ih (u / 10) (by omega) (by omega)
theorem dec_zero (u : Nat) : (Lib.decDigits u).length = 1 ∨ (Lib.decDigits u)[0]? ≠ some 48 := by
  by_cases h : u = 0
  · left; subst h; rw [dec_small (by decide)]; rfl
  · exact .inr (dec_head (by omega))
theorem valL_mono (l : List UInt8) {k : Nat} : ∀ m, k ≤ m → m ≤ l.length → valL (l.take k) ≤ valL (l.take m)
  | 0, h, _ => by
    obtain rfl : k = 0 := by omega
    exact Nat.le_refl _
  | m + 1, h, hm => by
    by_cases e : k = m + 1
    · subst e; exact Nat.le_refl _
    · have ih := valL_mono l (k := k) m (by omega) (by omega)
      have hb : l[m]? = some (l[m]'(by omega)) := List.getElem?_eq_getElem _
      rw [takeB_snoc hb, valL_snoc]; omega
theorem digs_take {l : List UInt8} (h : l.all isDig = true) (k : Nat) : (l.take k).all isDig = true := by
  rw [List.all_eq_true] at h ⊢
  exact fun x hx => h x (List.mem_of_mem_take hx)
/-- Digits that are worth at most the cap are read to their end. -/
theorem isN_digits {limit : Int} {l : List UInt8} (hlim : limit ≤ 1048576) (h1 : 1 ≤ l.length) (hd : l.all isDig = true) (hz : l.length = 1 ∨ l[0]? ≠ some 48) (hv : (valL l : Int) ≤ limit) : IsN limit l l.length := by
  refine ⟨Nat.le_refl _, fun i hi => ?_, .inl rfl⟩
  have hda := digs_take hd (i + 1)
  have hlen : (l.take (i + 1)).length = i + 1 := by simp; omega
  have e0 : (l.take (i + 1))[0]? = some ((l.take (i + 1))[0]'(by omega)) := List.getElem?_eq_getElem _
  have hd0 := List.all_eq_true.1 hda _ (List.getElem_mem (h := show 0 < (l.take (i + 1)).length by omega))
  have hm := valL_mono l (k := i + 1) l.length (by omega) (Nat.le_refl _)
  rw [List.take_length] at hm
  rw [beg_digit e0 hd0, num_digits hlim (by omega) hda (by
    rcases hz with h | h
    · left; omega
    · right; rw [head_take (by omega)]; exact h), if_neg (by omega)]
  simp
theorem isN_none (limit : Int) : IsN limit noneL 4 := by
  refine ⟨by decide, fun i hi => ?_, .inl rfl⟩
  unfold begC
  rcases (by omega : i = 0 ∨ i = 1 ∨ i = 2 ∨ i = 3) with rfl | rfl | rfl | rfl <;> rfl
theorem num_dec {limit : Int} {u : Nat} (hlim : limit ≤ 1048576) (h : (u : Int) ≤ limit) : numC limit (Lib.decDigits u) = u := by
  rw [num_digits hlim (dec_pos u) (dec_dig u) (dec_zero u), dec_val, if_neg (by omega)]
/-- Digits without a zero ahead are the numeral of what they are worth. -/
theorem dec_of : ∀ (n : Nat) (l : List UInt8), l.length = n + 1 → l.all isDig = true → (l.length = 1 ∨ l[0]? ≠ some 48) → Lib.decDigits (valL l) = l
  | 0, l, hl, hd, _ => by
    match l, hl with
    | [b], _ =>
      have hb : isDig b = true := by simpa using hd
      obtain ⟨b1, b2⟩ := dig_pos hb
      have hv : valL [b] = b.toNat - 48 := by simp [valL]
      rw [hv, dec_small (by omega)]
      congr 1
      apply UInt8.toNat_inj.1
      rw [ofNat_dig (by omega)]; omega
  | n + 1, l, hl, hd, hz => by
    have hb : l[n + 1]? = some (l[n + 1]'(by omega)) := List.getElem?_eq_getElem _
    have hs : l = l.take (n + 1) ++ [l[n + 1]'(by omega)] := by
      rw [← takeB_snoc hb, List.take_of_length_le (by omega)]
    obtain ⟨b, hbb⟩ : ∃ b, l[n + 1]'(by omega) = b := ⟨_, rfl⟩
    rw [hbb] at hs hb
    have hz0 : l[0]? ≠ some 48 := by
      rcases hz with h | h
      · omega
      · exact h
    have hdt := digs_take hd (n + 1)
    have hlt : (l.take (n + 1)).length = n + 1 := by simp; omega
    have ih := dec_of n (l.take (n + 1)) hlt hdt (.inr (by rw [head_take (by omega)]; exact hz0))
    have hge := val_ge hz0 (n + 1) (by omega) (by omega) hdt
    have hp : 0 < 10 ^ (n + 1 - 1) := Nat.pow_pos (by decide)
    have hbd : isDig b = true := List.all_eq_true.1 hd b (List.mem_of_getElem? hb)
    obtain ⟨b1, b2⟩ := dig_pos hbd
    have hv : valL l = valL (l.take (n + 1)) * 10 + (b.toNat - 48) := by
      conv => lhs; rw [hs]
      rw [valL_snoc]
    rw [hv, dec_big (by omega), show (valL (l.take (n + 1)) * 10 + (b.toNat - 48)) / 10 = valL (l.take (n + 1)) by omega, ih]
    conv => rhs; rw [hs]
    congr 2
    apply UInt8.toNat_inj.1
    rw [ofNat_dig (Nat.mod_lt _ (by decide))]; omega
end Go.Proofs.YtccmgbbpihaapabDoor
