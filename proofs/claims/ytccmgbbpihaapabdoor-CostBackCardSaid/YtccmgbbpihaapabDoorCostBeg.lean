/-
  THE COST LAYER: the reference's begins.
-/
import Derived.Test.YtccmgbbpihaapabDoorCostNum
namespace Go.Proofs.YtccmgbbpihaapabDoor
open Go.RowKit
set_option linter.unusedVariables false

def noneL : List UInt8 := [110, 111, 110, 101]
def begC (limit : Int) (l : List UInt8) : Bool := (decide (l.length ≤ 4) && (l == noneL.take l.length)) || decide (0 ≤ numC limit l)

theorem none_take (n : Nat) : (({ data := #[110, 111, 110, 101] } : ByteArray).extract 0 n).toList = noneL.take n := by
  rw [Lib.toList_data]
  simp [noneL]
end Go.Proofs.YtccmgbbpihaapabDoor
