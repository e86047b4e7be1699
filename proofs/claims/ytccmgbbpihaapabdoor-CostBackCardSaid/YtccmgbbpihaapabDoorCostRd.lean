/-
  THE COST LAYER: the program's reader: digit, letter, done.
-/
import Derived.Test.YtccmgbbpihaapabDoorCostReadR
namespace Go.Proofs.YtccmgbbpihaapabDoor
open Go.RowKit
set_option linter.unusedVariables false

/-- The reader's block. -/
def RdAt (w : World) (B : Nat) (limit st c le : Int) : Prop := w.heap[B]? = some (.cells #[.int .i64 limit, .int .i64 st, .int .i64 c, .int .i64 le] 34 (0, 0))
theorem rd_cells {w : World} {B : Nat} {limit st c le : Int} (h : RdAt w B limit st c le) :
    w.cell? ⟨B, 0, none⟩ = some (.int .i64 limit) ∧ w.cell? ⟨B, 1, none⟩ = some (.int .i64 st) ∧ w.cell? ⟨B, 2, none⟩ = some (.int .i64 c) ∧ w.cell? ⟨B, 3, none⟩ = some (.int .i64 le) ∧ (∀ j, w.frozen? ⟨B, j, none⟩ = false) := by
  unfold RdAt at h
  exact ⟨by simp [World.cell?, h], by simp [World.cell?, h], by simp [World.cell?, h], by simp [World.cell?, h], fun j => by simp [World.frozen?, h]⟩
/-- What a step of the reader leaves: its block, and all else as it was. -/
structure RdPost (w w' : World) (B : Nat) (limit st c le : Int) : Prop where
  at_ : RdAt w' B limit st c le
  rest : ∀ j, j ≠ B → w'.heap[j]? = w.heap[j]?
  below : Below B w w'
theorem rd_drew {w : World} {B : Nat} {limit st c le : Int} (h : RdAt w B limit st c le) (m : Nat) : RdPost w (w.drewN m) B limit st c le := ⟨h, fun _ _ => rfl, below_drewN (Below.refl _ _) m⟩
theorem rd_set {w w' : World} {B : Nat} {limit st c le st2 c2 le2 : Int} (h : RdPost w w' B limit st c le) (i : Nat) (v : Int)
    (hv : (#[.int .i64 limit, .int .i64 st, .int .i64 c, .int .i64 le] : Array Value).setIfInBounds i (.int .i64 v) = #[.int .i64 limit, .int .i64 st2, .int .i64 c2, .int .i64 le2]) :
    RdPost w (w'.setCell ⟨B, i, none⟩ (.int .i64 v)) B limit st2 c2 le2 := by
  refine ⟨?_, fun j hj => ?_, h.below.setCell (p := ⟨B, i, none⟩) (Nat.le_refl _) _⟩
  · have := h.at_
    unfold RdAt at this ⊢
    rw [← hv]
    exact heap_setCell_same w' B i _ _ _ this
  · rw [Below.heap_setCell _ _ _ _ hj]; exact h.rest j hj

set_option maxRecDepth 100000 in
set_option maxHeartbeats 2000000 in
theorem digit_no (B : Nat) (limit st c le d : Int) (w : World) (hr : RdAt w B limit st c le) (hc0 : 0 ≤ c) (hc1 : c ≤ 1048576) (hd0 : 0 ≤ d) (hd1 : d ≤ 9) (hno : st = 2 ∨ (st = 1 ∧ c = 0) ∨ limit < 10 * c + d) :
    Calls Tryd.prog 11 #[.pointer (some ⟨B, 0, none⟩), .int .i64 d] w fun e w' => e = .returned (.bool false) ∧ RdPost w w' B limit st c le := by
  obtain ⟨c0, c1, c2, c3, _⟩ := rd_cells hr
  have HR := Lib.hid hr
  clear hr
  by_cases h2 : st = 2
  · have e1 : (st == 2) = true := by simp [h2]
    clear hno h2
    go_enter Tryd.func11, Tryd.ntmps11
    go_wp2
    go_quiet (fail)
    go_wp2
    go_ret
    exact ⟨rfl, rd_drew HR.out _⟩
  have e1 : (st == 2) = false := by simp [h2]
  by_cases h3 : st = 1 ∧ c = 0
  · have e2 : (st == 1) = true := by simp [h3.1]
    have e3 : (c == 0) = true := by simp [h3.2]
    clear hno h2 h3
    go_enter Tryd.func11, Tryd.ntmps11
    go_wp2
    go_quiet (fail)
    go_wp2
    go_ret
    exact ⟨rfl, rd_drew HR.out _⟩
  · have h4 : limit < 10 * c + d := by
      rcases hno with h | h | h
      · exact absurd h h2
      · exact absurd h h3
      · exact h
    have hw1 : IntKind.i64.wrap (10 * c) = 10 * c := by simp [IntKind.wrap, IntKind.signed, IntKind.bits]; omega
    have hw2 : IntKind.i64.wrap (10 * c + d) = 10 * c + d := by simp [IntKind.wrap, IntKind.signed, IntKind.bits]; omega
    by_cases h5 : st = 1
    · have e2 : (st == 1) = true := by simp [h5]
      have e3 : (c == 0) = false := by simp; intro h; exact h3 ⟨h5, h⟩
      clear hno h2 h3 h5
      go_enter Tryd.func11, Tryd.ntmps11
      go_wp2
      go_quiet (fail)
      go_wp2
      go_ret
      exact ⟨rfl, rd_drew HR.out _⟩
    · have e2 : (st == 1) = false := by simp [h5]
      clear hno h2 h3 h5
      go_enter Tryd.func11, Tryd.ntmps11
      go_wp2
      go_quiet (fail)
      go_wp2
      go_ret
      exact ⟨rfl, rd_drew HR.out _⟩
end Go.Proofs.YtccmgbbpihaapabDoor
