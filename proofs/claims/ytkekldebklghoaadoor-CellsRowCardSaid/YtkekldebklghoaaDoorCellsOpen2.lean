/-
  THE CELLS LAYER: a slice of slices of cells that is handed in, opened.
-/
import Derived.Test.YtkekldebklghoaaDoorCellsOpen
import Derived.Test.YtkekldebklghoaaDoorCellsRowW
namespace Go.Proofs.YtkekldebklghoaaDoor
open Go.RowKit Go.ChangeShapes Go.WideShapes Go.Deep
set_option linter.unusedVariables false

section
variable {H : Type} {enc : TypeId × Value → H} {w : World} {base : Nat} {spare : Nat → Bool} {held : Bool}
theorem list_ofR : ∀ (n : Nat) (p : Nat → RowAt → Prop), (∀ i, i < n → ∃ c, p i c) → ∃ xs : List RowAt, xs.length = n ∧ ∀ i c, xs[i]? = some c → p i c
  | 0, p, h => ⟨[], rfl, fun i c hi => by simp at hi⟩
  | n + 1, p, h => by
    obtain ⟨xs, hl, hp⟩ := list_ofR n p (fun i hi => h i (by omega))
    obtain ⟨c, hc⟩ := h n (by omega)
    refine ⟨xs ++ [c], by simp [hl], fun i d hi => ?_⟩
    rcases Nat.lt_or_ge i n with h1 | h1
    · rw [List.getElem?_append_left (by omega)] at hi
      exact hp i d hi
    · obtain ⟨h2, _⟩ := List.getElem?_eq_some_iff.1 hi
      simp [hl] at h2
      obtain rfl : i = n := by omega
      rw [List.getElem?_append_right (by omega), hl, Nat.sub_self] at hi
      simp at hi
      subst hi
      exact hc
theorem slice_form {n : Nat} {cs : List Value} {x : DataW H × List MemPlace} (h : DataW.trod enc Tryd.prog w base spare held n 22 cs = some x) : ∃ a len cap, cs = [.slice a len cap] := by
  rcases open_slice Tryd.underlying22 h with ⟨hcs, _⟩ | ⟨ad, len', cap', m, n', D, Pl, hcs, _⟩
  · exact ⟨_, _, _, hcs⟩
  · exact ⟨_, _, _, hcs⟩
theorem rows_open {n : Nat} {a : Option Addr} {len cap : Nat} {x : DataW H × List MemPlace} (h : DataW.trod enc Tryd.prog w base spare held n 46 [.slice a len cap] = some x) :
    ∃ L, IsCellRows w a len cap L := by
  rcases open_slice Tryd.underlying46 h with ⟨hcs, _⟩ | ⟨ad, len', cap', m, n', D, Pl, hcs, hb, hl, hm, hmm, hx, hi⟩
  · simp at hcs
    obtain ⟨rfl, rfl, rfl⟩ := hcs
    exact ⟨[], rfl, by simp, .inl rfl, fun c hc => by simp at hc⟩
  · simp at hcs
    obtain ⟨rfl, rfl, rfl⟩ := hcs
    rw [show Tryd.prog.cellsOf 22 = 1 by kernel_rfl] at hi
    obtain ⟨L, hxl, hxs⟩ := list_ofR len (fun i r => w.cell? (ad.add i) = some (.slice r.a r.x.length r.c) ∧ r.x.length ≤ maxLen ∧ CRow w r.a r.x ∧ Bits r.x) (fun i hil => by
      obtain ⟨cs', hc, ht⟩ := hi i (by rw [hmm]; split <;> omega)
      obtain ⟨_, hcl, hat⟩ := World.cells?_some hc
      obtain ⟨a', l', c', rfl⟩ := slice_form ht
      obtain ⟨xs, h1, h2, h3, h4⟩ := cells_open ht
      have e0 := hat 0 (by omega)
      rw [Go.Deep.add_add, Nat.mul_one, Nat.add_zero, h1] at e0
      exact ⟨⟨a', c', xs⟩, e0, h2, h3, h4⟩)
    refine ⟨L, hxl.symm, by omega, ?_, fun r hr => ?_⟩
    · rcases Nat.eq_zero_or_pos len with h0 | h0
      · exact .inl (List.length_eq_zero_iff.1 (by omega))
      · obtain ⟨b, off, spot⟩ := ad
        obtain ⟨h1, _⟩ := hxs 0 (L[0]'(by omega)) (List.getElem?_eq_getElem (by omega))
        have hspot : spot = none := by simpa [Addr.add] using World.cell?_spot h1
        subst hspot
        refine .inr ⟨b, off, rfl, fun i c hic => ?_⟩
        have h3 := (hxs i c hic).1
        rw [show ({ block := b, off := off } : Addr).add i = ⟨b, off + i, none⟩ by simp [Addr.add]] at h3
        exact h3
    · obtain ⟨i, hi', hic⟩ := List.mem_iff_getElem.1 hr
      exact (hxs i r (by rw [← hic]; exact List.getElem?_eq_getElem hi')).2
end
end Go.Proofs.YtkekldebklghoaaDoor
