/-
  THE CELLS LAYER: what a cell is of a row: the plain function, and its steps.
-/
import Derived.Test.YtkekldebklghoaaDoorCellsBelow
import Derived.Test.YtkekldebklghoaaDoorBitsMath
namespace Go.Proofs.YtkekldebklghoaaDoor
open Go.RowKit
set_option linter.unusedVariables false

def ofStep (row : List Cl) (c : Cl) (out : Cl) (i : Nat) : Cl := if c.f.testBit i then (match row[i]? with | some a => join out a | none => out) else out
def ofTo (row : List Cl) (c : Cl) (n : Nat) : Cl := (List.range n).foldl (ofStep row c) ⟨0, c.k, c.v⟩
def ofC (row : List Cl) (c : Cl) : Cl := ofTo row c row.length
theorem ofTo_succ (row : List Cl) (c : Cl) (n : Nat) : ofTo row c (n + 1) = ofStep row c (ofTo row c n) n := by
  simp [ofTo, List.range_succ]
theorem ofTo_yes {row : List Cl} {c x : Cl} {n : Nat} (hb : c.f.testBit n = true) (hx : row[n]? = some x) : ofTo row c (n + 1) = join (ofTo row c n) x := by
  rw [ofTo_succ, ofStep, if_pos hb, hx]
theorem ofTo_no {row : List Cl} {c : Cl} {n : Nat} (hb : c.f.testBit n = false) : ofTo row c (n + 1) = ofTo row c n := by
  rw [ofTo_succ, ofStep, if_neg (by rw [hb]; simp)]
theorem ofTo_skip {row : List Cl} {c : Cl} {k : Nat} : ∀ {n : Nat}, k ≤ n → (∀ i, k ≤ i → i < n → c.f.testBit i = false) → ofTo row c n = ofTo row c k
  | 0, h, _ => by
    obtain rfl : k = 0 := by omega
    rfl
  | n + 1, h, hb => by
    by_cases e : k = n + 1
    · subst e; rfl
    · rw [ofTo_no (hb n (by omega) (by omega))]
      exact ofTo_skip (by omega) (fun i h1 h2 => hb i h1 (by omega))
theorem kindOk_zero {f : Nat} {k v : Int} (h : kindOk f k v = true) : kindOk 0 k v = true := by
  unfold kindOk at *
  split
  · rw [if_pos (by assumption)] at h; exact h
  · rw [if_neg (by assumption)] at h
    split
    · rfl
    · rw [if_neg (by assumption)] at h
      split
      · rw [if_pos (by assumption)] at h; simp at h ⊢; exact h.1
      · rw [if_neg (by assumption)] at h; cases h
theorem join_ok {a b : Cl} (ha : a.ok) (hb : b.ok) : (join a b).ok := by
  obtain ⟨f, k, v⟩ := a
  obtain ⟨f2, k2, v2⟩ := b
  obtain ⟨hf, hk⟩ := ha
  obtain ⟨hf2, hk2⟩ := hb
  simp only at hf hk hf2 hk2
  have hor : f ||| f2 < 18446744073709551616 := Nat.or_lt_two_pow (n := 64) hf hf2
  refine ⟨?_, ?_⟩
  · show (if joinK k v k2 v2 = 2 then 0 else f ||| f2) < _
    split <;> omega
  · show kindOk (if joinK k v k2 v2 = 2 then 0 else f ||| f2) (joinK k v k2 v2) (joinV k v k2 v2) = true
    rcases kind_cases hk with ⟨rfl, rfl⟩ | rfl | ⟨rfl, rfl⟩ <;> rcases kind_cases hk2 with ⟨rfl, rfl⟩ | rfl | ⟨rfl, rfl⟩
    all_goals (try (simp [joinK, joinV, kindOk]; done))
    by_cases hv : v = v2 <;> simp [joinK, joinV, kindOk, hv]
theorem ofTo_ok {row : List Cl} {c : Cl} (hc : c.ok) (hr : ∀ (i : Nat) x, row[i]? = some x → x.ok) : ∀ n, (ofTo row c n).ok
  | 0 => ⟨by simp [ofTo], kindOk_zero hc.2⟩
  | n + 1 => by
    rw [ofTo_succ, ofStep]
    split
    · split
      · rename_i a h; exact join_ok (ofTo_ok hc hr n) (hr n a h)
      · exact ofTo_ok hc hr n
    · exact ofTo_ok hc hr n

/-- Three cells of a block that is known whole. -/
theorem three_cells {w : World} {B : Nat} {a b c : Value} {T : Nat} (h : w.heap[B]? = some (.cells #[a, b, c] T (0, 0))) :
    w.cell? ⟨B, 0, none⟩ = some a ∧ w.cell? ⟨B, 1, none⟩ = some b ∧ w.cell? ⟨B, 2, none⟩ = some c ∧ (∀ j, w.frozen? ⟨B, j, none⟩ = false) := by
  refine ⟨by simp [World.cell?, h], by simp [World.cell?, h], by simp [World.cell?, h], fun j => by simp [World.frozen?, h]⟩
theorem three_set {w : World} {B : Nat} {a b c a' b' c' : Value} {T : Nat} (h : w.heap[B]? = some (.cells #[a, b, c] T (0, 0))) :
    (((w.setCell ⟨B, 0, none⟩ a').setCell ⟨B, 1, none⟩ b').setCell ⟨B, 2, none⟩ c').heap[B]? = some (.cells #[a', b', c'] T (0, 0)) := by
  simp [World.setCell, Array.getElem?_modify, h]
theorem three_other {w : World} {B D : Nat} {o : Option Obj} {a' b' c' : Value} (hne : D ≠ B) (h : w.heap[D]? = o) :
    (((w.setCell ⟨B, 0, none⟩ a').setCell ⟨B, 1, none⟩ b').setCell ⟨B, 2, none⟩ c').heap[D]? = o := by
  rw [Below.heap_setCell _ _ _ _ hne, Below.heap_setCell _ _ _ _ hne, Below.heap_setCell _ _ _ _ hne, h]
theorem block_lt {w : World} {B : Nat} {o : Obj} (h : w.heap[B]? = some o) : B < w.heap.size := (Array.getElem?_eq_some_iff.1 h).1
theorem block_stays {w w' : World} {B : Nat} {o : Obj} (h : w.heap[B]? = some o) (hb : Below w.heap.size w w') : w'.heap[B]? = some o := (hb.block B (block_lt h)).trans h
end Go.Proofs.YtkekldebklghoaaDoor
