/-
  THE COST LAYER: the reference's number: what digits are worth.
-/
import Derived.Test.YtccmgbbpihaapaaDoorCostText
namespace Go.Proofs.YtccmgbbpihaapaaDoor
open Go.RowKit
set_option linter.unusedVariables false

def isDig (b : UInt8) : Bool := decide (48 ≤ b.toNat) && decide (b.toNat ≤ 57)
def valL (l : List UInt8) : Nat := l.foldl (fun n b => n * 10 + (b.toNat - 48)) 0
theorem valL_snoc (l : List UInt8) (b : UInt8) : valL (l ++ [b]) = valL l * 10 + (b.toNat - 48) := by simp [valL]
/-- Digits without a zero ahead, at most seven, at most a cap: their worth; else -1. -/
def numC (limit : Int) (l : List UInt8) : Int :=
  if l = [] ∨ 7 < l.length ∨ (l[0]? = some 48 ∧ 1 < l.length) then -1
  else if l.all isDig then (if limit < (valL l : Int) then -1 else valL l) else -1
theorem takeB_snoc {l : List UInt8} {k : Nat} {b : UInt8} (h : l[k]? = some b) : l.take (k + 1) = l.take k ++ [b] := by
  obtain ⟨hk, e⟩ := List.getElem?_eq_some_iff.1 h
  rw [List.take_succ_eq_append_getElem hk, e]
theorem val_lt (l : List UInt8) : ∀ k, k ≤ l.length → (l.take k).all isDig = true → valL (l.take k) < 10 ^ k
  | 0, _, _ => by simp [valL]
  | k + 1, hk, h => by
    have hb : l[k]? = some (l[k]'(by omega)) := List.getElem?_eq_getElem _
    rw [takeB_snoc hb] at h ⊢
    rw [List.all_append, Bool.and_eq_true] at h
    have h1 := val_lt l k (by omega) h.1
    have h2 : 48 ≤ (l[k]'(by omega)).toNat ∧ (l[k]'(by omega)).toNat ≤ 57 := by simpa [isDig] using h.2
    rw [valL_snoc, Nat.pow_succ]
    omega
theorem at_of {s : ByteArray} {k : Nat} (h : k < s.size) : s.data.toList[k]? = some (s[k]'h) := by
  rw [Array.getElem?_toList]
  exact Array.getElem?_eq_getElem h
theorem len_of (s : ByteArray) : s.data.toList.length = s.size := by rw [Array.length_toList]; rfl
theorem empty_of {s : ByteArray} : s.toList.isEmpty = decide (s.size = 0) := by
  rw [Lib.toList_data, ← len_of]
  cases s.data.toList <;> simp

theorem number_any (limit : Int) (s : ByteArray) (w : World) (r : Int) (hr : numC limit s.data.toList = r) :
    Calls Tryd.prog 75 #[.int .i64 limit, .string s] w fun e w' => e = .returned (.int .i64 r) ∧ w = w' := by
  obtain ⟨l, hl⟩ : ∃ l, s.data.toList = l := ⟨_, rfl⟩
  have HLL := Lib.hid hl
  have hlen : l.length = s.size := by rw [← hl]; exact len_of s
  have hat : ∀ k (h : k < s.size), l[k]? = some (s[k]'h) := fun k h => by rw [← hl]; exact at_of h
  rw [hl] at hr
  have he := @empty_of s
  have HAT := Lib.hid hat
  have HR := Lib.hid hr
  clear hl hat
  by_cases h0 : s.size = 0
  · have HE : Hid (r = -1) := by show _ = _; rw [← hr, numC, if_pos (.inl (List.length_eq_zero_iff.1 (by omega)))]
    have he2 : s.toList.isEmpty = true := by rw [he]; simpa using h0
    clear he hr h0 hlen
    go_enter Tryd.func75, Tryd.ntmps75
    go_wp2
    go_ret
    exact ⟨by rw [HE.out]; rfl, rfl⟩
  have he2 : s.toList.isEmpty = false := by rw [he]; simpa using h0
  have hp : 0 < s.size := by omega
  by_cases h7 : 7 < s.size
  · have HE : Hid (r = -1) := by show _ = _; rw [← hr, numC, if_pos (.inr (.inl (by omega)))]
    have h7' : (7 : Int) < (s.size : Int) := by omega
    clear he hr h0 hlen h7
    go_enter Tryd.func75, Tryd.ntmps75
    go_wp2
    go_ret
    exact ⟨by rw [HE.out]; rfl, rfl⟩
  have h7' : ¬ (7 : Int) < (s.size : Int) := by omega
  by_cases hz : (s[0]'hp).toNat = 48 ∧ 1 < s.size
  · have HE : Hid (r = -1) := by
      show _ = _
      rw [← hr, numC, if_pos (.inr (.inr ⟨by rw [HAT.out 0 hp]; congr 1; exact UInt8.toNat_inj.1 hz.1, by omega⟩))]
    have hz1 : (((s[0]'hp).toNat : Int) == 48) = true := by rw [hz.1]; rfl
    have hz2 : (1 : Int) < (s.size : Int) := by omega
    clear he hr h0 hlen h7 hz
    go_enter Tryd.func75, Tryd.ntmps75
    go_wp2
    go_ret
    exact ⟨by rw [HE.out]; rfl, rfl⟩
  have HN : Hid (numC limit l = if l.all isDig then (if limit < (valL l : Int) then (-1 : Int) else (valL l : Int)) else (-1 : Int)) := by
    show _ = _
    rw [numC, if_neg]
    rintro (h | h | ⟨h, h2⟩)
    · rw [h] at hlen; simp at hlen; omega
    · omega
    · rw [HAT.out 0 hp] at h
      exact hz ⟨by injection h with h; rw [h]; rfl, by omega⟩
  have HLEN := Lib.hid hlen
  have hz' : (s[0]'hp).toNat = 48 → ¬ 1 < s.size := fun h h2 => hz ⟨h, h2⟩
  have hs7 : s.size ≤ 7 := by omega
  have T1 : (¬ (((s[0]'hp).toNat : Int) == 48) = true) ∨ ¬ (1 : Int) < (s.size : Int) := by
    by_cases h : (s[0]'hp).toNat = 48
    · right; have := hz' h; omega
    · left; simp; omega
  clear he hr h0 hlen h7 hz hz'
  go_enter Tryd.func75, Tryd.ntmps75
  go_wp2_with fail
  all_goals
    first
    | (exfalso; clear HAT HR HN HLEN HLL; simp at T1; omega)
    | skip
  all_goals
    clear T1
    go_loopw [5, 6] (fun n i wr => ∃ k : Nat, k ≤ s.size ∧ i = .int .i64 k ∧ n = .int .i64 (valL (l.take k) : Int) ∧ Hid ((l.take k).all isDig = true) ∧ w = wr) (fun _ i _ => s.size - (intOf i).toNat)
    case atStart => exact ⟨0, Nat.zero_le _, rfl, rfl, rfl, rfl⟩
    case round =>
      obtain ⟨k, hk, rfl, rfl, HD, rfl⟩ := hrel
      have hvl : valL (l.take k) < 10000000 := Nat.lt_of_lt_of_le (val_lt l k (by rw [HLEN.out]; omega) HD.out) (Nat.le_trans (Nat.pow_le_pow_right (by decide) (show k ≤ 7 by omega)) (by decide))
      obtain ⟨v, hv⟩ : ∃ v, valL (l.take k) = v := ⟨_, rfl⟩
      rw [hv] at hvl ⊢
      by_cases hlt : k < s.size
      · have hbl := HAT.out k hlt
        have HT := Lib.hid (takeB_snoc hbl)
        have g0 : (0 : Int) ≤ (k : Int) := by omega
        have g1 : (k : Int) < (s.size : Int) := by omega
        by_cases hd : 48 ≤ (s[k]'hlt).toNat ∧ (s[k]'hlt).toNat ≤ 57
        · have HD2 : Hid ((l.take (k + 1)).all isDig = true) := by show _ = _; rw [HT.out, List.all_append, HD.out]; simp [isDig, hd]
          have HV : Hid (v * 10 + ((s[k]'hlt).toNat - 48) = valL (l.take (k + 1))) := by show _ = _; rw [HT.out, valL_snoc, hv]
          obtain ⟨d1, d2⟩ := hd
          have hd1 : ¬ ((s[k]'hlt).toNat : Int) < 48 := by omega
          have hd2 : ¬ (57 : Int) < ((s[k]'hlt).toNat : Int) := by omega
          have hw : IntKind.u8.wrap (((s[k]'hlt).toNat : Int) - 48) = (((s[k]'hlt).toNat : Int) - 48) := by
            generalize (s[k]'hlt).toNat = q at d1 d2
            simp [IntKind.wrap, IntKind.signed, IntKind.bits]; omega
          clear hbl
          go_wp2
          go_roundw
          case rel => exact ⟨k + 1, by omega, by go_num, by rw [← HV.out]; congr 1; omega, HD2, by trivial⟩
          case measure => simp [intOf]; omega
        · have HE : Hid (r = -1) := by
            show _ = _
            rw [← HR.out, HN.out, if_neg]
            rw [Bool.not_eq_true]
            apply Bool.eq_false_iff.2
            intro h
            have h2 := List.all_eq_true.1 h _ (List.mem_of_getElem? hbl)
            simp [isDig] at h2
            exact hd h2
          have hcase : ((s[k]'hlt).toNat : Int) < 48 ∨ (57 : Int) < ((s[k]'hlt).toNat : Int) := by omega
          clear hd hbl
          rcases hcase with hd1 | hd2
          · go_wp2
            go_ret
            exact ⟨by rw [HE.out]; rfl, rfl⟩
          · have hd1 : ¬ ((s[k]'hlt).toNat : Int) < 48 := by omega
            go_wp2
            go_ret
            exact ⟨by rw [HE.out]; rfl, rfl⟩
      · have hks : k = s.size := by omega
        have HA : Hid (l.all isDig = true ∧ v = valL l) := by
          have h1 := HD.out
          rw [List.take_of_length_le (by rw [HLEN.out]; omega)] at h1 hv
          exact ⟨h1, hv.symm⟩
        have g9 : ¬ (k : Int) < (s.size : Int) := by omega
        by_cases hlim : limit < (v : Int)
        · have HE : Hid (r = -1) := by show _ = _; rw [← HR.out, HN.out, if_pos HA.out.1, if_pos (by rw [← HA.out.2]; exact hlim)]
          go_wp2
          go_ret
          exact ⟨by rw [HE.out]; rfl, rfl⟩
        · have HE : Hid (r = (v : Int)) := by show _ = _; rw [← HR.out, HN.out, if_pos HA.out.1, if_neg (by rw [← HA.out.2]; exact hlim), HA.out.2]
          go_wp2
          go_ret
          exact ⟨by rw [HE.out]; rfl, rfl⟩
end Go.Proofs.YtccmgbbpihaapaaDoor
