/-
  THE CELLS LAYER: a slice of cells that is handed in, opened, with how long it may be.
-/
import Derived.Test.YtkekldebklghoaaDoorCellsOpen
import Derived.Test.YtkekldebklghoaaDoorCellsOwnW
import Derived.SizedLaws
namespace Go.Proofs.YtkekldebklghoaaDoor
open Go.RowKit Go.ChangeShapes Go.WideShapes Go.Deep
set_option linter.unusedVariables false

section
variable {H : Type} {enc : TypeId × Value → H} {w : World} {base : Nat} {spare : Nat → Bool} {held : Bool}
/-- What a slice's datum tells of its length. -/
def LenOf (d : DataW H) (n : Nat) : Prop := (n = 0 ∧ d = .nil) ∨ ∃ es sp, d = .slice es sp ∧ es.length = n
theorem cells_open3 {n : Nat} {a : Option Addr} {len cap : Nat} {x : DataW H × List MemPlace} (h : DataW.trod enc Tryd.prog w base spare held n 22 [.slice a len cap] = some x) :
    ∃ xs, IsCells w a len cap xs ∧ (a = none → cap = 0) ∧ LenOf x.1 xs.length := by
  obtain ⟨xs, hx⟩ := cells_open h
  refine ⟨xs, hx, ?_⟩
  rcases open_slice Tryd.underlying22 h with ⟨hcs, e⟩ | ⟨ad, len', cap', m, n', D, Pl, hcs, hb, hl, hm, hmm, e, hi⟩
  · simp at hcs
    obtain ⟨rfl, rfl, rfl⟩ := hcs
    exact ⟨fun _ => rfl, .inl ⟨hx.len.symm, by rw [e]⟩⟩
  · simp at hcs
    obtain ⟨rfl, rfl, rfl⟩ := hcs
    exact ⟨fun h => (by cases h), .inr ⟨_, _, by rw [e], by rw [← hx.len]; simp⟩⟩
theorem bytesC : Tryd.prog.bytesOf 51 = 24 := by kernel_rfl
theorem sized_cells {ts : List TypeId} {ds : List (DataW H)} {j : Nat} {d : DataW H} {n : Nat} (h : (DataW.weightsEach Tryd.prog ts ds).all (· ≤ reachBytes) = true) (ht : ts[j]? = some 22) (hd : ds[j]? = some d) (hx : LenOf d n) : n * 24 ≤ 140737488351232 := by
  rcases hx with ⟨rfl, _⟩ | ⟨es, sp, rfl, rfl⟩
  · simp
  · have := sized_slice h ht hd Tryd.underlying22
    rw [bytesC] at this
    simp only [reachBytes] at this
    omega
end
end Go.Proofs.YtkekldebklghoaaDoor
