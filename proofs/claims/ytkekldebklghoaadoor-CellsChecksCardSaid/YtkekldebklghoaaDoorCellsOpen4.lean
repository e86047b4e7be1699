/-
  THE CELLS LAYER: a slice of cells that is handed in, opened, with what its constants may be.
-/
import Derived.Test.YtkekldebklghoaaDoorCellsOpen
import Derived.Test.YtkekldebklghoaaDoorCellsChecks
namespace Go.Proofs.YtkekldebklghoaaDoor
open Go.RowKit Go.ChangeShapes Go.WideShapes Go.Deep
set_option linter.unusedVariables false

section
variable {H : Type} {enc : TypeId × Value → H} {w : World} {base : Nat} {spare : Nat → Bool} {held : Bool}
set_option maxRecDepth 100000 in
theorem cell_fits {n : Nat} {f k : Value} {z : Int} {x : DataW H × List MemPlace} (h : DataW.trod enc Tryd.prog w base spare held n 51 [f, k, .int .i64 z] = some x) :
    -9223372036854775808 ≤ z ∧ z ≤ 9223372036854775807 := by
  obtain ⟨xs, n', _, hx, _, hlen, hg⟩ := DataW.trod_struct Tryd.underlying51 h
  have hlen3 : xs.length = 3 := hlen
  have g2 := hg 2 _ rfl
  rw [show Tryd.prog.cellsOf _ = 1 by kernel_rfl, List.getElem?_eq_getElem (by omega)] at g2
  obtain ⟨z2, e2, _, w2⟩ := DataW.trod_int (k := .i64) (by kernel_rfl) g2
  simp at e2
  subst e2
  simpa [Lit.wf, IntKind.signed, IntKind.bits, IntKind.min, IntKind.max] using w2
theorem cells_open4 {n : Nat} {a : Option Addr} {len cap : Nat} {x : DataW H × List MemPlace} (h : DataW.trod enc Tryd.prog w base spare held n 22 [.slice a len cap] = some x) :
    ∃ xs, IsCells w a len cap xs ∧ Fits xs := by
  obtain ⟨xs, hx⟩ := cells_open h
  refine ⟨xs, hx, fun c hc => ?_⟩
  obtain ⟨i, hi', hic⟩ := List.mem_iff_getElem.1 hc
  have hget : xs[i]? = some c := by rw [← hic]; exact List.getElem?_eq_getElem hi'
  rcases hx.row with h0 | ⟨b, off, ha, hcell⟩
  · subst h0; simp at hi'
  · obtain ⟨_, _, h3⟩ := hcell i c hget
    rcases open_slice Tryd.underlying22 h with ⟨hcs, e⟩ | ⟨ad, len', cap', m, n', D, Pl, hcs, hb, hl, hm, hmm, e, hi⟩
    · simp at hcs
      obtain ⟨rfl, rfl, rfl⟩ := hcs
      cases ha
    · simp at hcs
      obtain ⟨rfl, rfl, rfl⟩ := hcs
      cases ha
      rw [show Tryd.prog.cellsOf 51 = 3 by kernel_rfl] at hi
      have hlen := hx.len
      obtain ⟨cs', hc', ht'⟩ := hi i (by rw [hmm]; split <;> omega)
      obtain ⟨_, hcl, hat⟩ := World.cells?_some hc'
      obtain ⟨p, q, r, rfl⟩ := three_len hcl
      have e2 := hat 2 (by omega)
      rw [Go.Deep.add_add, show ({ block := b, off := off } : Addr).add (i * 3 + 2) = ⟨b, off + (i * 3 + 2), none⟩ by simp [Addr.add], ← Nat.add_assoc, h3] at e2
      simp at e2
      subst e2
      exact cell_fits ht'
end
end Go.Proofs.YtkekldebklghoaaDoor
