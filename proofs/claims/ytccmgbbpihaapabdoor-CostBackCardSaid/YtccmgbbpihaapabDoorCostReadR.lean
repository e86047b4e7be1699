/-
  THE COST LAYER: the reference's Read.
-/
import Derived.Test.YtccmgbbpihaapabDoorCostBeg
namespace Go.Proofs.YtccmgbbpihaapabDoor
open Go.RowKit
set_option linter.unusedVariables false

/-- How far a text begins as a cost's text. -/
structure IsN (limit : Int) (l : List UInt8) (n : Nat) : Prop where
  le : n ≤ l.length
  yes : ∀ i, i < n → begC limit (l.take (i + 1)) = true
  no : n = l.length ∨ begC limit (l.take (n + 1)) = false
theorem isN_ex (limit : Int) (l : List UInt8) : ∃ n, IsN limit l n := by
  have key : ∀ m, m ≤ l.length → ∃ n, n ≤ m ∧ (∀ i, i < n → begC limit (l.take (i + 1)) = true) ∧ (n = m ∨ begC limit (l.take (n + 1)) = false) := by
    intro m
    induction m with
    | zero => intro _; exact ⟨0, Nat.le_refl _, fun i h => by omega, .inl rfl⟩
    | succ m ih =>
      intro hm
      obtain ⟨n, h1, h2, h3⟩ := ih (by omega)
      rcases h3 with rfl | h3
      · cases hb : begC limit (l.take (n + 1))
        · exact ⟨n, by omega, h2, .inr hb⟩
        · exact ⟨n + 1, Nat.le_refl _, fun i hi => by
            rcases Nat.lt_or_ge i n with h | h
            · exact h2 i h
            · obtain rfl : i = n := by omega
              exact hb, .inl rfl⟩
      · exact ⟨n, by omega, h2, .inr h3⟩
  obtain ⟨n, h1, h2, h3⟩ := key l.length (Nat.le_refl _)
  exact ⟨n, h1, h2, h3⟩
/-- What Read answers: the cost, how far, the error. -/
def readA (limit : Int) (l : List UInt8) (n : Nat) : Int := if n = l.length ∧ l = noneL then -1 else if n = l.length ∧ 0 ≤ numC limit l then numC limit l else 0
def readOk (limit : Int) (l : List UInt8) (n : Nat) : Bool := decide (n = l.length) && (l == noneL || decide (0 ≤ numC limit l))
def readP (limit : Int) (l : List UInt8) (n : Nat) : Int := if readOk limit l n then 0 else n
def readE (limit : Int) (l : List UInt8) (n : Nat) : Int := if readOk limit l n then 0 else 22
theorem ext_take (s : ByteArray) (n : Nat) : (s.extract 0 n).data.toList = s.data.toList.take n := by simp
theorem chk_nil {limit c : Int} (h : chk limit [] = c) (h0 : c = 0) : 0 ≤ limit ∧ limit ≤ 1048576 := by
  unfold chk at h
  split at h
  · omega
  · omega
def Read3 (a b c : Int) : Ending := .returned (.tuple #[.int .i64 a, .int .i64 b, .int .i64 c])

end Go.Proofs.YtccmgbbpihaapabDoor
