import Derived.Orders
import Derived.Below
import Derived.Deep.RegionHeld
import Derived.WalkKit
import Derived.KernelRfl
import Derived.Laws.Rows
import Derived.Laws.AppendOwn
import Derived.Laws.Strings
import Derived.Laws.Small
import Derived.Lib.Hide
import Derived.IntWalk
import Derived.Laws.Tables
import Derived.Laws.Concat
import Derived.Laws.MakeOwn
import Derived.Test.YtpkcaabbcoiiiaaProg
import Derived.Lib.TrailingZeros
import Derived.Test.YtpkcaabbcoiiiaaRows
import Derived.Lib.LaidTab
import Derived.Lib.ItoaNum
import Derived.Stop.LaidErr
import Derived.WalkSmall
import Derived.LaidMore
import Derived.Shelf.Spec.TrailingZeros
import Derived.Laws.BitsAllLaws
import Derived.Laws.Bits64
import Derived.Deep.QuietTactic
import Derived.BigQuiet
import Derived.RegionTactic
import Derived.BigRegion
import Derived.Deep.RegionHeld3
import Derived.ChangeAlike
import Derived.RangeFuncNested
import Derived.RangeFuncBound
import Derived.RangeFuncCalls
import Derived.RangeFuncLeaves
import Derived.Shelf.Abstract
import Derived.Shelf.RegionOpen
import Derived.OwnWalkIn
import Derived.TacticsInMore
import Derived.LoopNIn
import Derived.LoopIn
import Derived.Laws.Bits128
import Derived.Deep.AppendLies
import Derived.Maps.AppendAt
import Derived.Sort.Grow
import Derived.Ground.Names2Prog
import Derived.Shelf.Slices.Clone
import Derived.Lib.OthersKept
import Derived.Laws.IdiomStrings
import Derived.StillTailTactics
import Derived.Deep.RegionLaw
import Derived.Deep.DeepCutAuto
import Derived.Deep.CutRange
import Derived.Deep.RegionWith
import Derived.Laws.Bits64b
import Derived.Deep.DrawnRows
import Derived.Lib.SliceRun
import Derived.Laws.OwnMore
import Derived.OwnWalk
import Derived.WalkSpells
import Derived.Lib.Join
import Derived.Lib.OwnBridge
import Derived.WideKeyEntry
import Derived.DeepKeys4
import Derived.Lib.AppendZeros
import Derived.Lib.ItoaLen
import Derived.Lib.UnsafeStr
import Derived.Lib.AppendIntMem
import Derived.Deep.Slices
import Derived.Deep.Fields
import Derived.ChangeSame
import Derived.Lib.SmallJoins
import Derived.ChangeSlices
import Derived.ProofKit
import Derived.Test.YtpkcaabbcoiiiaaQoA
import Derived.Test.YtpkcaabbcoiiiaaQoB
import Derived.Test.YtpkcaabbcoiiiaaQoC
import Derived.Test.YtpkcaabbcoiiiaaQoD
import Derived.Test.YtpkcaabbcoiiiaaQoE
import Derived.Test.YtpkcaabbcoiiiaaQoF
set_option maxRecDepth 100000
set_option maxHeartbeats 4000000
set_option linter.unusedVariables false
set_option linter.unusedVariables false
set_option linter.unusedSimpArgs false
set_option linter.unusedSectionVars false
set_option linter.unnecessarySimpa false
namespace Go.Proofs.Ytpkcaabbcoiiiaa
open Go.RowKit Go.ChangeShapes Go.WideShapes Go.Deep Go.Joins
section
variable {H : Type} {enc : TypeId × Value → H} {w : World} {base : Nat} {spare : Nat → Bool} {held : Bool}
theorem conf_open9 {r : Reach} {b0 : Nat} {v : Value} {d : DataW H} {p : List MemPlace} (hv : Value.okWide Try.prog w r b0 49 v) (h : DataW.Trod enc Try.prog w base spare held 49 v d p) :
  ∃ (s : CV), v = s.val ∧ CIn w s ∧ s.wl ≤ 9223372036854775807 := by
 obtain ⟨cs, rfl, _⟩ := okWide_struct Try.underlying49 hv
 obtain ⟨n, h⟩ := h
 obtain ⟨xs, n', hn, _, hl, hlen, hg⟩ := DataW.trod_struct Try.underlying49 h
 rw [show Try.prog.cellsOf 49 = 2 by kernel_rfl] at hl
 obtain ⟨a, b, hcs⟩ := two_len hl
 rw [hcs] at hg
 have hlen2 : xs.length = 2 := hlen
 have g0 := hg 0 _ rfl
 have g1 := hg 1 _ rfl
 rw [show Try.prog.cellsOf _ = 1 by kernel_rfl, List.getElem?_eq_getElem (by omega)] at g0 g1
 obtain ⟨z0, e0, _, w0⟩ := DataW.trod_int (k := .i64) (by kernel_rfl) g0
 simp at e0
 subst e0
 obtain ⟨ra, rl, rc, ws, rfl, hrow, hrl, hcap, hmx⟩ := ints_in (v := b) g1
 exact ⟨⟨z0, ra, rl, rc, ws⟩, by show Value.agg cs = Value.agg _; congr 1; exact Array.ext' hcs, ⟨hrow, hrl⟩, by simp only [maxLen] at hmx; dsimp only; omega⟩
end
end Go.Proofs.Ytpkcaabbcoiiiaa
