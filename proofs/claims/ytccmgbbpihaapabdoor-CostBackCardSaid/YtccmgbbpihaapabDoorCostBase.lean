/-
  THE COST LAYER, ITS SMALL FUNCTIONS: cost.checkAll, lesser, added, and the reference's Has, Check, Two, Add: each by its contract.
-/
import Derived.Test.YtccmgbbpihaapabDoorProg
import Derived.WalkKit
import Derived.Lib.Hide
import Derived.Deep.QuietTactic
import Derived.BigQuiet
namespace Go.Proofs.YtccmgbbpihaapabDoor
open Go.RowKit
set_option linter.unusedVariables false

theorem rint {k : IntKind} {a b : Int} (h : a = b) : Ending.returned (.int k a) = .returned (.int k b) := by rw [h]
theorem rbool {a b : Bool} (h : a = b) : Ending.returned (.bool a) = .returned (.bool b) := by rw [h]

/-- A slice of numbers as the walks see it: it is empty, or its cells lie in a row. -/
def Row (w : World) (a : Option Addr) (zs : List Int) : Prop :=
  zs = [] ∨ ∃ b off, a = some ⟨b, off, none⟩ ∧ ∀ i, i < zs.length → w.cell? ⟨b, off + i, none⟩ = some (.int .i64 (zs.getD i 0))

/-- The number c is a cost under a cap (the cap being one). -/
def okc (limit c : Int) : Bool := decide (-1 ≤ c) && decide (c ≤ limit)
/-- What checkAll answers. -/
def chk (limit : Int) (zs : List Int) : Int := if limit < 0 ∨ 1048576 < limit then 20 else if zs.all (okc limit) then 0 else 21
def lesser (a b : Int) : Int := if a = -1 then b else if b = -1 then a else min a b
def added (limit a b : Int) : Int := if a = -1 ∨ b = -1 then -1 else min (a + b) limit

theorem lesser_any (a b : Int) (w : World) : Calls Tryd.prog 14 #[.int .i64 a, .int .i64 b] w fun e w' => e = .returned (.int .i64 (lesser a b)) ∧ w = w' := by
  by_cases ha : a = -1
  · have h1 : (a == -1) = true := by simp [ha]
    have e1 : lesser a b = b := by simp [lesser, ha]
    have H := Lib.hid e1; clear e1 ha
    go_enter Tryd.func14, Tryd.ntmps14
    go_wp2
    go_ret
    exact ⟨rint H.out.symm, rfl⟩
  · have h1 : (a == -1) = false := by simp [ha]
    by_cases hb : b = -1
    · have h2 : (b == -1) = true := by simp [hb]
      have e1 : lesser a b = a := by simp [lesser, ha, hb]
      have H := Lib.hid e1; clear e1 ha hb
      go_enter Tryd.func14, Tryd.ntmps14
      go_wp2
      go_ret
      exact ⟨rint H.out.symm, rfl⟩
    · have h2 : (b == -1) = false := by simp [hb]
      have e1 : lesser a b = min a b := by simp [lesser, ha, hb]
      have H := Lib.hid e1; clear e1 ha hb
      go_enter Tryd.func14, Tryd.ntmps14
      go_wp2
      all_goals go_ret
      all_goals exact ⟨rint (by rw [H.out]; omega), rfl⟩

theorem added_any (l a b : Int) (w : World) (hs : -9223372036854775808 ≤ a + b ∧ a + b ≤ 9223372036854775807) : Calls Tryd.prog 15 #[.int .i64 l, .int .i64 a, .int .i64 b] w fun e w' => e = .returned (.int .i64 (added l a b)) ∧ w = w' := by
  by_cases ha : a = -1
  · have h1 : (a == -1) = true := by simp [ha]
    have e1 : added l a b = -1 := by simp [added, ha]
    have H := Lib.hid e1; clear e1 ha
    go_enter Tryd.func15, Tryd.ntmps15
    go_wp2
    go_ret
    exact ⟨rint H.out.symm, rfl⟩
  · have h1 : (a == -1) = false := by simp [ha]
    by_cases hb : b = -1
    · have h2 : (b == -1) = true := by simp [hb]
      have e1 : added l a b = -1 := by simp [added, ha, hb]
      have H := Lib.hid e1; clear e1 ha hb
      go_enter Tryd.func15, Tryd.ntmps15
      go_wp2
      go_ret
      exact ⟨rint H.out.symm, rfl⟩
    · have h2 : (b == -1) = false := by simp [hb]
      have e1 : added l a b = min (a + b) l := by simp [added, ha, hb]
      have H := Lib.hid e1; clear e1 ha hb
      obtain ⟨hs1, hs2⟩ := hs
      go_enter Tryd.func15, Tryd.ntmps15
      go_wp2
      all_goals go_ret
      all_goals exact ⟨rint (by rw [H.out]; omega), rfl⟩

end Go.Proofs.YtccmgbbpihaapabDoor
