/-
  THE CELLS LAYER: two cells held against each other, as the machine does it.
-/
import Derived.Test.YtkekldebklghoaaDoorCellsBoth3
namespace Go.Proofs.YtkekldebklghoaaDoor
open Go.RowKit
set_option linter.unusedVariables false

theorem run_neq_cell (f f2 : Nat) (k k2 v v2 : Int) (w : World) :
    (binOp .neq 51 (.agg #[.int .u64 (f : Int), .int .i64 k, .int .i64 v]) (.agg #[.int .u64 (f2 : Int), .int .i64 k2, .int .i64 v2])).run Tryd.prog w = .ok (.bool (!sameCl ⟨f, k, v⟩ ⟨f2, k2, v2⟩)) w := by
  by_cases h1 : f = f2
  · subst h1
    by_cases h2 : k = k2
    · subst h2
      by_cases h3 : v = v2
      · subst h3
        simp [sameCl, go_sem]
      · have h3' : (v == v2) = false := by simp [h3]
        simp [sameCl, go_sem, h3]
    · simp [sameCl, go_sem, h2]
  · simp [sameCl, go_sem, h1]
    intro h; omega
theorem neq_is (x y : Cl) (s : Bool) (h : sameCl x y = s) (w : World) : (binOp .neq 51 x.val y.val).run Tryd.prog w = .ok (.bool (!s)) w := by
  subst h; exact run_neq_cell _ _ _ _ _ _ w
end Go.Proofs.YtkekldebklghoaaDoor
