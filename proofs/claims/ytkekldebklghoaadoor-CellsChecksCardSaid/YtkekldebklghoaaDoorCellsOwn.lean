/-
  THE CELLS LAYER: rows of cells that a call makes: owned rows as lists of cells; what comes back.
-/
import Derived.Test.YtkekldebklghoaaDoorCellsRows
import Derived.Laws.OwnMore
import Derived.OwnWalk
namespace Go.Proofs.YtkekldebklghoaaDoor
open Go.RowKit
set_option linter.unusedVariables false

def vals (c : Cl) : List Value := [.int .u64 (c.f : Int), .int .i64 c.k, .int .i64 c.v]
def flat (cs : List Cl) : List Value := cs.flatMap vals
theorem flat_length (cs : List Cl) : (flat cs).length = cs.length * 3 := by
  induction cs with
  | nil => rfl
  | cons c r ih => simp [flat, vals] at ih ⊢; omega
theorem flat_cons (c : Cl) (r : List Cl) : flat (c :: r) = vals c ++ flat r := by simp [flat]
theorem flat_snoc (cs : List Cl) (c : Cl) : flat (cs ++ [c]) = flat cs ++ vals c := by simp [flat]
theorem flat_at : ∀ {cs : List Cl} {i : Nat} {c : Cl}, cs[i]? = some c → (flat cs)[i * 3]? = some (.int .u64 (c.f : Int)) ∧ (flat cs)[i * 3 + 1]? = some (.int .i64 c.k) ∧ (flat cs)[i * 3 + 2]? = some (.int .i64 c.v)
  | [], i, c, h => by simp at h
  | x :: r, 0, c, h => by
    simp at h; subst h
    simp [flat_cons, vals]
  | x :: r, i + 1, c, h => by
    simp at h
    have ih := flat_at (cs := r) (i := i) h
    have e0 : (i + 1) * 3 = i * 3 + 3 := by omega
    have e1 : (i + 1) * 3 + 1 = (i * 3 + 1) + 3 := by omega
    have e2 : (i + 1) * 3 + 2 = (i * 3 + 2) + 3 := by omega
    rw [e1, e2, e0, flat_cons]
    simp only [vals, List.cons_append, List.nil_append, List.getElem?_cons_succ]
    exact ih
theorem flat_set : ∀ (cs : List Cl) (i : Nat) (c : Cl), i < cs.length → (((flat cs).set (i * 3) (.int .u64 (c.f : Int))).set (i * 3 + 1) (.int .i64 c.k)).set (i * 3 + 2) (.int .i64 c.v) = flat (cs.set i c)
  | [], i, c, h => by simp at h
  | x :: r, 0, c, h => by simp [flat_cons, vals]
  | x :: r, i + 1, c, h => by
    have ih := flat_set r i c (by simpa using h)
    have e0 : (i + 1) * 3 = i * 3 + 3 := by omega
    have e1 : (i + 1) * 3 + 1 = (i * 3 + 1) + 3 := by omega
    have e2 : (i + 1) * 3 + 2 = (i * 3 + 2) + 3 := by omega
    rw [e1, e2, e0, flat_cons, List.set_cons_succ, flat_cons, ← ih]
    simp [vals]

theorem own_below {w w' : World} {base size n : Nat} {E : Nat} {v : Value} {xs : List Value} (h : w.ownsRow base E size v n xs) (hb : Below w.heap.size w w') : w'.ownsRow base E size v n xs := by
  refine ⟨h.1, ?_⟩
  rcases h.2 with h2 | ⟨g, cap, cur, hv, hg, hh, r⟩
  · exact .inl h2
  · exact .inr ⟨g, cap, cur, hv, hg, by rw [hb.block g (Array.getElem?_eq_some_iff.1 hh).1]; exact hh, r⟩
theorem crow_of_own {w : World} {base : Nat} {E : Nat} {v : Value} {n : Nat} {cs : List Cl} (h : w.ownsRow base E 3 v n (flat cs)) :
    n = cs.length ∧ ∃ a cap, v = .slice a n cap ∧ CRow w a cs ∧ ∀ ad, a = some ad → base ≤ ad.block ∧ ad.off = 0 ∧ ad.block < w.heap.size := by
  have hl := h.1
  rw [flat_length] at hl
  have hn : n = cs.length := by omega
  refine ⟨hn, ?_⟩
  rcases h.2 with ⟨rfl, h0⟩ | ⟨g, cap, cur, rfl, hg, hh, hnc, hcm, hcs, ht⟩
  · subst h0
    have : cs = [] := List.length_eq_zero_iff.1 hn.symm
    exact ⟨none, 0, rfl, .inl this, fun ad e => by cases e⟩
  · refine ⟨some ⟨g, 0, none⟩, cap, rfl, .inr ⟨g, 0, rfl, fun i c hi => ?_⟩, fun ad e => by cases e; exact ⟨hg, rfl, (Array.getElem?_eq_some_iff.1 hh).1⟩⟩
    obtain ⟨f0, f1, f2⟩ := flat_at hi
    have hi2 : i < cs.length := (List.getElem?_eq_some_iff.1 hi).1
    have c0 := h.cellAt (i * 3) (by omega)
    have c1 := h.cellAt (i * 3 + 1) (by omega)
    have c2 := h.cellAt (i * 3 + 2) (by omega)
    rw [Nat.zero_add]
    exact ⟨c0.trans f0, c1.trans f1, c2.trans f2⟩

/-- What a call hands back: a row of cells in new memory, and an error. -/
def CellsRet (cs : List Cl) (err : Int) (w : World) (e : Ending) (w' : World) : Prop :=
  ∃ a cap, e = .returned (.tuple #[.slice a cs.length cap, .int .i64 err]) ∧ CRow w' a cs ∧ (∀ ad, a = some ad → w.heap.size ≤ ad.block ∧ ad.block < w'.heap.size) ∧ Below w.heap.size w w'
theorem cellsRet_nil (err : Int) {w w' : World} (hb : Below w.heap.size w w') : CellsRet [] err w (.returned (.tuple #[.slice none 0 0, .int .i64 err])) w' :=
  ⟨none, 0, rfl, .inl rfl, (fun ad e => by cases e), hb⟩
theorem cellsRet_own {cs : List Cl} {w w' : World} {E : Nat} {v : Value} {n : Nat} (h : w'.ownsRow w.heap.size E 3 v n (flat cs)) (hb : Below w.heap.size w w') (err : Int) : CellsRet cs err w (.returned (.tuple #[v, .int .i64 err])) w' := by
  obtain ⟨rfl, a, cap, rfl, hr, hf⟩ := crow_of_own h
  exact ⟨a, cap, rfl, hr, fun ad e => ⟨(hf ad e).1, (hf ad e).2.2⟩, hb⟩
/-- The same of a call that hands back the row alone. -/
def CellsRet1 (cs : List Cl) (w : World) (e : Ending) (w' : World) : Prop :=
  ∃ v, e = .returned v ∧ w'.ownsRow w.heap.size 51 3 v cs.length (flat cs) ∧ Below w.heap.size w w'

theorem infoC : (Tryd.prog.info? 51).map (fun i => (i.zero, i.size, i.bytes)) = some (some (.agg #[.int .u64 0, .int .i64 0, .int .i64 0]), 3, 24) := by kernel_rfl
end Go.Proofs.YtkekldebklghoaaDoor
