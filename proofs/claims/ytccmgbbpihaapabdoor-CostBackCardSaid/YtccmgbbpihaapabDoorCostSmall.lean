/-
  THE COST LAYER: lists made in place: Check, AtMost, Height, Text of what is none; the statements' own few and awake; two.
-/
import Derived.Test.YtccmgbbpihaapabDoorCostSums
namespace Go.Proofs.YtccmgbbpihaapabDoor
open Go.RowKit
set_option linter.unusedVariables false

theorem cell_lt {w : World} {a : Addr} {v : Value} (h : w.cell? a = some v) : a.block < w.heap.size := by
  rcases Nat.lt_or_ge a.block w.heap.size with h' | h'
  · exact h'
  · simp [World.cell?, Array.getElem?_eq_none h'] at h
theorem row_one (W : World) (T : Nat) (n : Nat) (a : Int) (h : n = W.heap.size) : Row (W.alloc (.cells #[.int .i64 a] T)) (some ⟨n, 0, none⟩) [a] := by
  subst h
  refine .inr ⟨_, 0, rfl, fun i hi => ?_⟩
  match i, hi with
  | 0, _ => simp [World.cell?_alloc_new]
theorem row_two (W : World) (T : Nat) (n : Nat) (a b : Int) (h : n = W.heap.size) : Row (W.alloc (.cells #[.int .i64 a, .int .i64 b] T)) (some ⟨n, 0, none⟩) [a, b] := by
  subst h
  refine .inr ⟨_, 0, rfl, fun i hi => ?_⟩
  match i, hi with
  | 0, _ => simp [World.cell?_alloc_new]
  | 1, _ => simp [World.cell?_alloc_new]
theorem Row.below {w w' : World} {a : Option Addr} {zs : List Int} (h : Row w a zs) (hb : Below w.heap.size w w') : Row w' a zs := by
  rcases h with h | ⟨b, off, rfl, hc⟩
  · exact .inl h
  · refine .inr ⟨b, off, rfl, fun i hi => ?_⟩
    have h1 := hc i hi
    rw [hb.cell]
    · exact h1
    · exact cell_lt h1

def atMost (a b : Int) : Bool := lesser a b == a
def atMostR (limit a b : Int) : Bool := if chk limit [a, b] = 0 then atMost a b else false
def heightR (limit : Int) : Int := if chk limit [] = 0 then limit + 1 else 0

theorem textNone_any (w : World) : Calls Tryd.prog 5 #[.int .i64 10, .int .i64 (-1)] w fun e w' => e = .returned (.tuple #[.string ⟨#[110, 111, 110, 101]⟩, .int .i64 0]) ∧ Below w.heap.size w w' := by
  have H := Lib.hid (show chk 10 [-1] = 0 by decide)
  go_enter Tryd.func5, Tryd.ntmps5
  go_wp2_with (go_at_call 9; refine (checkAll_any 10 _ _ [-1] _ (by simp [maxLen]) (row_one _ _ _ _ (by simp))).mono ?_; rintro e w' ⟨rfl, rfl⟩; rw [H.out])
  go_ret2
  exact ⟨rfl, (Below.refl _ _).alloc (Nat.le_refl _) _⟩

theorem least2_any (limit a b : Int) (n : Nat) (W : World) (T : Nat) (h : n = W.heap.size) (x c : Int) (hx : leastR limit [a, b] = x) (hc : chk limit [a, b] = c) :
    Calls Tryd.prog 7 #[.int .i64 limit, .slice (some ⟨n, 0, none⟩) 2 2] (W.alloc (.cells #[.int .i64 a, .int .i64 b] T)) fun e w' => e = .returned (.tuple #[.int .i64 x, .int .i64 c]) ∧ (W.alloc (.cells #[.int .i64 a, .int .i64 b] T)) = w' := by
  subst hx; subst hc
  exact least_any limit _ 2 [a, b] _ (by simp [maxLen]) (row_two _ _ _ _ _ h)
theorem sum2_any (limit a b : Int) (n : Nat) (W : World) (T : Nat) (h : n = W.heap.size) (x c : Int) (hx : sumR limit [a, b] = x) (hc : chk limit [a, b] = c) :
    Calls Tryd.prog 8 #[.int .i64 limit, .slice (some ⟨n, 0, none⟩) 2 2] (W.alloc (.cells #[.int .i64 a, .int .i64 b] T)) fun e w' => e = .returned (.tuple #[.int .i64 x, .int .i64 c]) ∧ (W.alloc (.cells #[.int .i64 a, .int .i64 b] T)) = w' := by
  subst hx; subst hc
  exact sum_any limit _ 2 [a, b] _ (by simp [maxLen]) (row_two _ _ _ _ _ h)

theorem awake_any (w : World) : Calls Tryd.prog 4 #[] w fun e w' => e = .returned (.bool true) ∧ Below w.heap.size w w' := by
  go_enter Tryd.func4, Tryd.ntmps4
  go_wp2_with fail
  refine (least2_any 10 3 (-1) _ _ _ (by simp) 3 0 (by decide) (by decide)).mono ?_
  rintro e w1 ⟨rfl, rfl⟩
  go_wp2_with fail
  refine (sum2_any 10 7 8 _ _ _ (by simp) 10 0 (by decide) (by decide)).mono ?_
  rintro e w1 ⟨rfl, rfl⟩
  go_wp2_with fail
  refine (sum2_any 10 7 (-1) _ _ _ (by simp) (-1) 0 (by decide) (by decide)).mono ?_
  rintro e w1 ⟨rfl, rfl⟩
  go_wp2_with fail
  refine (textNone_any _).mono ?_
  rintro e w1 ⟨rfl, hb⟩
  go_wp2
  go_ret
  exact ⟨rfl, ((((Below.refl _ _).alloc (Nat.le_refl _) _).alloc (by simp) _).alloc (by simp; omega) _).trans (hb.mono (by simp; omega))⟩
end Go.Proofs.YtccmgbbpihaapabDoor
