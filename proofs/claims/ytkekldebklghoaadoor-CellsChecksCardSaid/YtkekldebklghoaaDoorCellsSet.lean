/-
  THE CELLS LAYER: Set, Any, Copy, Height of the program and of the reference.
-/
import Derived.Test.YtkekldebklghoaaDoorCellsPut
namespace Go.Proofs.YtkekldebklghoaaDoor
open Go.RowKit
set_option linter.unusedVariables false

theorem cellsRet_grow {cs : List Cl} {err : Int} {w w1 : World} {e : Ending} {w' : World} (hb : Below w.heap.size w w1) (h : CellsRet cs err w1 e w') : CellsRet cs err w e w' := by
  obtain ⟨a, cap, rfl, hr, hf, hb2⟩ := h
  exact ⟨a, cap, rfl, hr, fun ad e => ⟨Nat.le_trans hb.size (hf ad e).1, (hf ad e).2⟩, hb.trans (hb2.mono hb.size)⟩

theorem set_any (d i k : Int) (w : World) (e : Int) (he : putE d i = e) (r : List Cl) (hr : putR d i ⟨0, 1, k⟩ = r) :
    Calls Tryd.prog 31 #[.int .i64 d, .int .i64 i, .int .i64 k] w (CellsRet r e w) := by
  have HE := Lib.hid he; have HR := Lib.hid hr
  clear he hr
  go_enter Tryd.func31, Tryd.ntmps31
  go_wp2_with fail
  refine (with_any _ _ ⟨0, 1, k⟩ _ e HE.out r HR.out).mono ?_
  rintro x w2 ⟨a, cap, rfl, h1, h2, h3⟩
  go_wp2
  go_ret2
  exact ⟨a, cap, rfl, h1, h2, h3⟩
theorem setRef_any (d i k : Int) (w : World) (e : Int) (he : putE d i = e) (r : List Cl) (hr : putR d i ⟨0, 1, k⟩ = r) :
    Calls Tryd.prog 32 #[.int .i64 d, .int .i64 i, .int .i64 k] w (CellsRet r e w) := by
  have HE := Lib.hid he; have HR := Lib.hid hr
  clear he hr
  go_enter Tryd.func32, Tryd.ntmps32
  go_wp2_with fail
  refine (put_any _ _ ⟨0, 1, k⟩ _ e HE.out r HR.out).mono ?_
  rintro x w2 ⟨a, cap, rfl, h1, h2, h3⟩
  go_wp2
  go_ret2
  exact ⟨a, cap, rfl, h1, h2, h3⟩
theorem any_any (d i : Int) (w : World) (e : Int) (he : putE d i = e) (r : List Cl) (hr : putR d i ⟨0, 2, 0⟩ = r) :
    Calls Tryd.prog 35 #[.int .i64 d, .int .i64 i] w (CellsRet r e w) := by
  have HE := Lib.hid he; have HR := Lib.hid hr
  clear he hr
  go_enter Tryd.func35, Tryd.ntmps35
  go_wp2_with fail
  refine (with_any _ _ ⟨0, 2, 0⟩ _ e HE.out r HR.out).mono ?_
  rintro x w2 ⟨a, cap, rfl, h1, h2, h3⟩
  go_wp2
  go_ret2
  exact ⟨a, cap, rfl, h1, h2, h3⟩
theorem anyRef_any (d i : Int) (w : World) (e : Int) (he : putE d i = e) (r : List Cl) (hr : putR d i ⟨0, 2, 0⟩ = r) :
    Calls Tryd.prog 36 #[.int .i64 d, .int .i64 i] w (CellsRet r e w) := by
  have HE := Lib.hid he; have HR := Lib.hid hr
  clear he hr
  go_enter Tryd.func36, Tryd.ntmps36
  go_wp2_with fail
  refine (put_any _ _ ⟨0, 2, 0⟩ _ e HE.out r HR.out).mono ?_
  rintro x w2 ⟨a, cap, rfl, h1, h2, h3⟩
  go_wp2
  go_ret2
  exact ⟨a, cap, rfl, h1, h2, h3⟩

def heightC (d : Int) : Int := if dimC d = 0 then d * (d + 2) else 0
theorem height_any (d : Int) (w : World) (c : Int) (hc : dimC d = c) (h : Int) (hh : heightC d = h) :
    Calls Tryd.prog 29 #[.int .i64 d] w fun e w' => e = .returned (.tuple #[.int .i64 h, .int .i64 c]) ∧ w = w' := by
  have HC := Lib.hid hc
  by_cases h0 : c = 0
  · subst h0
    obtain ⟨n, rfl, hn⟩ := dim_nat hc
    have hm : 0 ≤ (n : Int) * (n + 2) ∧ (n : Int) * (n + 2) ≤ 4224 := by
      constructor
      · exact Int.mul_nonneg (by omega) (by omega)
      · exact Int.le_trans (Int.mul_le_mul (show (n : Int) ≤ 64 by omega) (show (n : Int) + 2 ≤ 66 by omega) (by omega) (by omega)) (by decide)
    obtain ⟨m0, m1⟩ := hm
    have HH := Lib.hid (show h = (n : Int) * (n + 2) by rw [← hh]; simp [heightC, hc])
    clear hc hh
    go_enter Tryd.func29, Tryd.ntmps29
    go_wp2_with (go_at_call 50; refine (checkDim_is _ _ 0 HC.out).mono ?_; rintro e w' ⟨rfl, rfl⟩)
    go_ret2
    exact ⟨by rw [HH.out]; rfl, rfl⟩
  · have hne : (c != 0) = true := by simpa using h0
    obtain rfl : 0 = h := by rw [← hh]; simp [heightC, hc, h0]
    clear hc h0 hh
    go_enter Tryd.func29, Tryd.ntmps29
    go_wp2_with (go_at_call 50; refine (checkDim_is _ _ c HC.out).mono ?_; rintro e w' ⟨rfl, rfl⟩)
    go_ret2
    exact ⟨rfl, rfl⟩
theorem heightRef_any (d : Int) (w : World) (c : Int) (hc : dimC d = c) (h : Int) (hh : heightC d = h) :
    Calls Tryd.prog 30 #[.int .i64 d] w fun e w' => e = .returned (.tuple #[.int .i64 h, .int .i64 c]) ∧ w = w' := by
  have HC := Lib.hid hc
  by_cases h0 : c = 0
  · subst h0
    obtain ⟨n, rfl, hn⟩ := dim_nat hc
    have hm : 0 ≤ (n : Int) * (n + 2) ∧ (n : Int) * (n + 2) ≤ 4224 := by
      constructor
      · exact Int.mul_nonneg (by omega) (by omega)
      · exact Int.le_trans (Int.mul_le_mul (show (n : Int) ≤ 64 by omega) (show (n : Int) + 2 ≤ 66 by omega) (by omega) (by omega)) (by decide)
    obtain ⟨m0, m1⟩ := hm
    have HH := Lib.hid (show h = (n : Int) * (n + 2) by rw [← hh]; simp [heightC, hc])
    clear hc hh
    go_enter Tryd.func30, Tryd.ntmps30
    go_wp2_with (go_at_call 52; refine (dim_is _ _ 0 HC.out).mono ?_; rintro e w' ⟨rfl, rfl⟩)
    go_ret2
    exact ⟨by rw [HH.out]; rfl, rfl⟩
  · have hne : (c != 0) = true := by simpa using h0
    obtain rfl : 0 = h := by rw [← hh]; simp [heightC, hc, h0]
    clear hc h0 hh
    go_enter Tryd.func30, Tryd.ntmps30
    go_wp2_with (go_at_call 52; refine (dim_is _ _ c HC.out).mono ?_; rintro e w' ⟨rfl, rfl⟩)
    go_ret2
    exact ⟨rfl, rfl⟩
end Go.Proofs.YtkekldebklghoaaDoor
