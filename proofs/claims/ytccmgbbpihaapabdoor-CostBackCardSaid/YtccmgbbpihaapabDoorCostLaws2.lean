/-
  THE COST LAYER: two; the statements CostChecks, CostSemiring, CostOrder as walks; the algebra of costs.
-/
import Derived.Test.YtccmgbbpihaapabDoorCostLaws
namespace Go.Proofs.YtccmgbbpihaapabDoor
open Go.RowKit
set_option linter.unusedVariables false

theorem row_three (W : World) (T : Nat) (n : Nat) (a b c : Int) (h : n = W.heap.size) : Row (W.alloc (.cells #[.int .i64 a, .int .i64 b, .int .i64 c] T)) (some ⟨n, 0, none⟩) [a, b, c] := by
  subst h
  refine .inr ⟨_, 0, rfl, fun i hi => ?_⟩
  match i, hi with
  | 0, _ => simp [World.cell?_alloc_new]
  | 1, _ => simp [World.cell?_alloc_new]
  | 2, _ => simp [World.cell?_alloc_new]
theorem least_two {limit a b : Int} (h : chk limit [a, b] = 0) : leastR limit [a, b] = lesser a b := by
  have h3 : lesser (-1) a = a := by simp [lesser]
  simp [leastR, h, leastOf, h3]
theorem sum_two {limit a b : Int} (h : chk limit [a, b] = 0) : sumR limit [a, b] = added limit a b := by
  have h2 := (chk_zero h).2.2
  simp [okc] at h2
  have h3 : added limit 0 a = a := by unfold added; split <;> omega
  simp [sumR, h, sumOf, h3]
theorem chk2_iff {limit a b : Int} : chk limit [a, b] = 0 ↔ (0 ≤ limit ∧ limit ≤ 1048576 ∧ (-1 ≤ a ∧ a ≤ limit) ∧ (-1 ≤ b ∧ b ≤ limit)) := by
  constructor
  · intro h
    have := chk_zero h
    simp [okc] at this
    omega
  · intro h
    have : [a, b].all (okc limit) = true := by simp [okc]; omega
    simp only [chk, this]
    rw [if_neg (by omega)]; rfl
theorem chk3_iff {limit a b c : Int} : chk limit [a, b, c] = 0 ↔ (0 ≤ limit ∧ limit ≤ 1048576 ∧ (-1 ≤ a ∧ a ≤ limit) ∧ (-1 ≤ b ∧ b ≤ limit) ∧ (-1 ≤ c ∧ c ≤ limit)) := by
  constructor
  · intro h
    have := chk_zero h
    simp [okc] at this
    omega
  · intro h
    have : [a, b, c].all (okc limit) = true := by simp [okc]; omega
    simp only [chk, this]
    rw [if_neg (by omega)]; rfl

/-- Numbers that are costs under a cap that is one. -/
def In (l c : Int) : Prop := 0 ≤ l ∧ l ≤ 1048576 ∧ -1 ≤ c ∧ c ≤ l
theorem in_lesser {l a b : Int} (ha : In l a) (hb : In l b) : In l (lesser a b) := by
  unfold In at *; unfold lesser; split
  · omega
  · split <;> omega
theorem in_added {l a b : Int} (ha : In l a) (hb : In l b) : In l (added l a b) := by
  unfold In at *; unfold added; split <;> omega
theorem lesser_comm (a b : Int) : lesser b a = lesser a b := by unfold lesser; split <;> split <;> omega
theorem added_comm (l a b : Int) : added l b a = added l a b := by unfold added; split <;> split <;> omega
theorem lesser_assoc (l a b c : Int) (ha : In l a) (hb : In l b) (hc : In l c) : lesser a (lesser b c) = lesser (lesser a b) c := by
  unfold In at *; unfold lesser; repeat' split
  all_goals omega
theorem added_assoc (l a b c : Int) (ha : In l a) (hb : In l b) (hc : In l c) : added l a (added l b c) = added l (added l a b) c := by
  unfold In at *; unfold added; repeat' split
  all_goals omega
theorem added_over (l a b c : Int) (ha : In l a) (hb : In l b) (hc : In l c) : lesser (added l a b) (added l a c) = added l a (lesser b c) := by
  unfold In at *; unfold added lesser; repeat' split
  all_goals omega
end Go.Proofs.YtccmgbbpihaapabDoor
