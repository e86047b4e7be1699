/-
  ROWS OF VALUES of one cell each, as the walks see them: a slice's cells; what a function hands back that made a row. (No program.)
-/
import Derived.WalkKit
import Derived.WalkSmall
import Derived.Lib.Hide
import Derived.Deep.AppendLies
import Derived.Below
namespace Go.Proofs.YtdaijibkafepcaaDoor
open Go.RowKit
set_option linter.unusedVariables false

def VRow (w : World) (a : Option Addr) (vs : List Value) : Prop :=
  vs = [] ∨ ∃ b off, a = some ⟨b, off, none⟩ ∧ ∀ (i : Nat) v, vs[i]? = some v → w.cell? ⟨b, off + i, none⟩ = some v
theorem VRow.nil (w : World) (a : Option Addr) : VRow w a [] := .inl rfl
theorem cell_lt {w : World} {p : Addr} {v : Value} (h : w.cell? p = some v) : p.block < w.heap.size := by
  unfold World.cell? at h
  rcases Nat.lt_or_ge p.block w.heap.size with h' | h'
  · exact h'
  · simp [Array.getElem?_eq_none h'] at h
theorem VRow.below {w w' : World} {a : Option Addr} {vs : List Value} (h : VRow w a vs) (hb : Below w.heap.size w w') : VRow w' a vs := by
  rcases h with h | ⟨b, off, ha, hc⟩
  · exact .inl h
  · exact .inr ⟨b, off, ha, fun i v hi => (hb.cell (p := ⟨b, off + i, none⟩) (cell_lt (hc i v hi))).trans (hc i v hi)⟩
theorem VRow.at_ {w : World} {a : Option Addr} {vs : List Value} (h : VRow w a vs) {i : Nat} (hi : i < vs.length) :
    ∃ b off v, a = some ⟨b, off, none⟩ ∧ vs[i]? = some v ∧ b < w.heap.size ∧ w.cell? ⟨b, off + i, none⟩ = some v := by
  rcases h with h | ⟨b, off, ha, hc⟩
  · subst h; simp at hi
  · have e : vs[i]? = some vs[i] := by simp [hi]
    exact ⟨b, off, vs[i], ha, e, cell_lt (hc i _ e), hc i _ e⟩
theorem VRow.take {w : World} {a : Option Addr} {vs : List Value} (h : VRow w a vs) (n : Nat) : VRow w a (vs.take n) := by
  rcases h with h | ⟨b, off, ha, hc⟩
  · exact .inl (by simp [h])
  · refine .inr ⟨b, off, ha, fun i v hi => hc i v ?_⟩
    rw [List.getElem?_take] at hi
    split at hi
    · exact hi
    · cases hi
theorem VRow.of_own {w : World} {base : Nat} {E : Nat} {v : Value} {n : Nat} {vs : List Value} (h : w.ownsRow base E 1 v n vs) :
    n = vs.length ∧ ∃ a cap, v = .slice a vs.length cap ∧ VRow w a vs ∧ ∀ ad, a = some ad → base ≤ ad.block ∧ ad.block < w.heap.size := by
  have hl := h.1
  have hn : n = vs.length := by omega
  refine ⟨hn, ?_⟩
  rcases h.2 with ⟨rfl, h0⟩ | ⟨g, cap, cur, rfl, hg, hh, hnc, hcm, hcs, ht⟩
  · have : vs = [] := List.length_eq_zero_iff.1 (by omega)
    subst this
    exact ⟨none, 0, rfl, .inl rfl, fun ad e => by cases e⟩
  · subst hn
    refine ⟨some ⟨g, 0, none⟩, cap, rfl, .inr ⟨g, 0, rfl, fun i x hi => ?_⟩, fun ad e => by cases e; exact ⟨hg, (Array.getElem?_eq_some_iff.1 hh).1⟩⟩
    have hi2 : i < vs.length := (List.getElem?_eq_some_iff.1 hi).1
    have c0 := h.cellAt i (by omega)
    rw [Nat.zero_add]
    exact c0.trans hi

/-- What a call hands back that makes a row. -/
def VRet (vs : List Value) (w : World) (e : Ending) (w' : World) : Prop :=
  ∃ a cap, e = .returned (.slice a vs.length cap) ∧ VRow w' a vs ∧ (∀ ad, a = some ad → w.heap.size ≤ ad.block ∧ ad.block < w'.heap.size) ∧ Below w.heap.size w w'
theorem vret_own {vs : List Value} {w w' : World} {E : Nat} {v : Value} {n : Nat} (h : w'.ownsRow w.heap.size E 1 v n vs) (hb : Below w.heap.size w w') : VRet vs w (.returned v) w' := by
  obtain ⟨hn, a, cap, rfl, hr, hf⟩ := VRow.of_own h
  exact ⟨a, cap, rfl, hr, hf, hb⟩
theorem ownV_below {w w' : World} {base size n : Nat} {E : Nat} {v : Value} {xs : List Value} (h : w.ownsRow base E size v n xs) (hb : Below w.heap.size w w') : w'.ownsRow base E size v n xs := by
  refine ⟨h.1, ?_⟩
  rcases h.2 with h2 | ⟨g, cap, cur, hv, hg, hh, r⟩
  · exact .inl h2
  · exact .inr ⟨g, cap, cur, hv, hg, by rw [hb.block g (Array.getElem?_eq_some_iff.1 hh).1]; exact hh, r⟩
theorem heapV_new (w : World) (o : Obj) : (w.alloc o).heap[w.heap.size]? = some o := by
  show (w.heap.push o)[w.heap.size]? = some o
  simp
theorem VRow.of_block {w : World} {g : Nat} {cs : List Value} {T : TypeId} {fr : Nat × Nat} (h : w.heap[g]? = some (.cells cs.toArray T fr)) : VRow w (some ⟨g, 0, none⟩) cs :=
  .inr ⟨g, 0, rfl, fun i v hi => by
    unfold World.cell?
    simp only [h, Nat.zero_add]
    simpa using hi⟩
end Go.Proofs.YtdaijibkafepcaaDoor
