/-
  THE LISTED TABLES: what the row's condition gives the walks: strconv's powers of ten, math/bits' two de Bruijn tables; that they stay through what leaves old memory alone.
-/
import Derived.Test.YtdaijibkafepcaaDoorRows
import Derived.Lib.LaidTab
import Derived.Lib.ItoaNum
import Derived.Lib.TrailingZeros
import Derived.Stop.LaidErr
import Derived.WalkSmall
import Derived.LaidMore
namespace Go.Proofs.YtdaijibkafepcaaDoor
open Go.RowKit

def p10 : String := "internal/strconv.uint64pow10"
def b64 : String := "math/bits.deBruijn64tab"
def tab64 : List Int := Lib.deBruijn64tab.map Int.ofNat
/-- The tables that the walks read hold what the program's text lays. -/
structure Tabs (W : World) : Prop where
  pow : Lib.TabIs Tryd.prog W "internal/strconv.uint64pow10" .u64 Lib.pow10Tab
  ctz : Lib.TabIs Tryd.prog W "math/bits.deBruijn64tab" .u8 tab64

theorem gPow : Tryd.prog.globalNamed "internal/strconv.uint64pow10" = some 1 := by kernel_rfl
theorem gCtz : Tryd.prog.globalNamed "math/bits.deBruijn64tab" = some 0 := by kernel_rfl
theorem tPow : (Tryd.prog.globals[1]?).map (·.type) = some 115 := by kernel_rfl
theorem tCtz : (Tryd.prog.globals[0]?).map (·.type) = some 105 := by kernel_rfl
theorem cellsPow : Tryd.prog.cellsOf 115 = 20 := by kernel_rfl
theorem cellsCtz : Tryd.prog.cellsOf 105 = 64 := by kernel_rfl
theorem cells64 : Tryd.prog.cellsOf 23 = 1 := by kernel_rfl
theorem cells8 : Tryd.prog.cellsOf 5 = 1 := by kernel_rfl

theorem var_lt {P : Program} {W : World} {n : String} {g : Nat} {cs : Array Value} (hg : P.globalNamed n = some g) (h : W.var? P n = some cs) : g < W.heap.size := by
  unfold World.var? at h
  simp only [hg, Option.bind_some] at h
  rcases Nat.lt_or_ge g W.heap.size with h' | h'
  · exact h'
  · simp [Array.getElem?_eq_none h'] at h
theorem Tabs.below {W W' : World} (h : Tabs W) (hb : Below W.heap.size W W') : Tabs W' :=
  ⟨var?_below hb gPow (var_lt gPow h.pow) h.pow, var?_below hb gCtz (var_lt gCtz h.ctz) h.ctz⟩

theorem tabs_of {W : World} (h : laidMet Tryd.prog [("math/bits.deBruijn32tab", Rows.laid_math_bits_deBruijn32tab), ("math/bits.deBruijn64tab", Rows.laid_math_bits_deBruijn64tab), ("internal/strconv.uint64pow10", Rows.laid_internal_strconv_uint64pow10)] W) : Tabs W :=
  ⟨Lib.tabIs_of_head (rest := []) gPow tPow Tryd.underlying115 Tryd.underlying23 cells64 cellsPow (show laidMet Tryd.prog (("internal/strconv.uint64pow10", Lib.tabData .u64 Lib.pow10Tab) :: []) W from h.tail.tail),
   Lib.tabIs_of_head (rest := [("internal/strconv.uint64pow10", Rows.laid_internal_strconv_uint64pow10)]) gCtz tCtz Tryd.underlying105 Tryd.underlying5 cells8 cellsCtz (show laidMet Tryd.prog (("math/bits.deBruijn64tab", Lib.tabData .u8 tab64) :: [("internal/strconv.uint64pow10", Rows.laid_internal_strconv_uint64pow10)]) W from h.tail)⟩
end Go.Proofs.YtdaijibkafepcaaDoor
