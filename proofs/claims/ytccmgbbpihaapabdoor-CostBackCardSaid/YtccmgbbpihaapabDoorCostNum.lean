/-
  THE COST LAYER: the reference's number: what digits are worth.
-/
import Derived.Test.YtccmgbbpihaapabDoorCostText
namespace Go.Proofs.YtccmgbbpihaapabDoor
open Go.RowKit
set_option linter.unusedVariables false

def isDig (b : UInt8) : Bool := decide (48 ≤ b.toNat) && decide (b.toNat ≤ 57)
def valL (l : List UInt8) : Nat := l.foldl (fun n b => n * 10 + (b.toNat - 48)) 0
theorem valL_snoc (l : List UInt8) (b : UInt8) : valL (l ++ [b]) = valL l * 10 + (b.toNat - 48) := by simp [valL]
/-- Digits without a zero ahead, at most seven, at most a cap: their worth; else -1. -/
def numC (limit : Int) (l : List UInt8) : Int :=
  if l = [] ∨ 7 < l.length ∨ (l[0]? = some 48 ∧ 1 < l.length) then -1
  else if l.all isDig then (if limit < (valL l : Int) then -1 else valL l) else -1
theorem takeB_snoc {l : List UInt8} {k : Nat} {b : UInt8} (h : l[k]? = some b) : l.take (k + 1) = l.take k ++ [b] := by
  obtain ⟨hk, e⟩ := List.getElem?_eq_some_iff.1 h
  rw [List.take_succ_eq_append_getElem hk, e]
theorem val_lt (l : List UInt8) : ∀ k, k ≤ l.length → (l.take k).all isDig = true → valL (l.take k) < 10 ^ k
  | 0, _, _ => by simp [valL]
  | k + 1, hk, h => by
    have hb : l[k]? = some (l[k]'(by omega)) := List.getElem?_eq_getElem _
    rw [takeB_snoc hb] at h ⊢
    rw [List.all_append, Bool.and_eq_true] at h
    have h1 := val_lt l k (by omega) h.1
    have h2 : 48 ≤ (l[k]'(by omega)).toNat ∧ (l[k]'(by omega)).toNat ≤ 57 := by simpa [isDig] using h.2
    rw [valL_snoc, Nat.pow_succ]
    omega
theorem at_of {s : ByteArray} {k : Nat} (h : k < s.size) : s.data.toList[k]? = some (s[k]'h) := by
  rw [Array.getElem?_toList]
  exact Array.getElem?_eq_getElem h
theorem len_of (s : ByteArray) : s.data.toList.length = s.size := by rw [Array.length_toList]; rfl
theorem empty_of {s : ByteArray} : s.toList.isEmpty = decide (s.size = 0) := by
  rw [Lib.toList_data, ← len_of]
  cases s.data.toList <;> simp

end Go.Proofs.YtccmgbbpihaapabDoor
