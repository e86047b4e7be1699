/-
  THE CELLS LAYER: Copy of the program and of the reference.
-/
import Derived.Test.YtkekldebklghoaaDoorCellsSet
namespace Go.Proofs.YtkekldebklghoaaDoor
open Go.RowKit
set_option linter.unusedVariables false

def copyE (d i from_ : Int) : Int := if dimC d ≠ 0 then dimC d else if from_ < 0 ∨ d ≤ from_ then 5 else putE d i
def copyR (d i from_ : Int) : List Cl := if copyE d i from_ = 0 then putR d i (oneAt from_.toNat) else []

theorem tmod_nat (x : Int) : ∃ j : Nat, j < 64 ∧ (IntKind.u64.wrap x).tmod 64 = (j : Int) := by
  have h : 0 ≤ IntKind.u64.wrap x := by simp [IntKind.wrap, IntKind.signed, IntKind.bits]; omega
  rw [Int.tmod_eq_emod_of_nonneg h]
  generalize IntKind.u64.wrap x = y at h
  exact ⟨(y % 64).toNat, by omega, by omega⟩
set_option maxHeartbeats 2000000 in
theorem copy_any (d i from_ : Int) (w : World) (hf : (Lit.int .i64 from_).wf = true) (e : Int) (he : copyE d i from_ = e) (r : List Cl) (hr : copyR d i from_ = r) :
    Calls Tryd.prog 33 #[.int .i64 d, .int .i64 i, .int .i64 from_] w (CellsRet r e w) := by
  by_cases hd : dimC d = 0
  · obtain ⟨n, rfl, hn⟩ := dim_nat hd
    have HD := Lib.hid hd
    by_cases hi : from_ < 0 ∨ (n : Int) ≤ from_
    · obtain rfl : 5 = e := by rw [← he]; simp [copyE, hd, hi]
      obtain rfl : [] = r := by rw [← hr]; simp [copyR, he]
      clear hd he hr
      rcases Int.lt_or_le from_ 0 with hi0 | hi0
      · clear hi
        go_enter Tryd.func33, Tryd.ntmps33
        go_wp2_with (go_at_call 50; refine (checkDim_is _ _ 0 HD.out).mono ?_; rintro e w' ⟨rfl, rfl⟩)
        go_ret2
        exact cellsRet_nil 5 (Below.refl _ _)
      · have hi1 : (n : Int) ≤ from_ := by omega
        clear hi
        go_enter Tryd.func33, Tryd.ntmps33
        go_wp2_with (go_at_call 50; refine (checkDim_is _ _ 0 HD.out).mono ?_; rintro e w' ⟨rfl, rfl⟩)
        go_ret2
        exact cellsRet_nil 5 (Below.refl _ _)
    · obtain ⟨k, rfl⟩ : ∃ k : Nat, from_ = k := ⟨from_.toNat, by omega⟩
      have h8 : ¬ n ≤ k := by omega
      have h7 : ¬ ((k : Int) < 0) := by omega
      have HE : Hid (putE n i = e) := by show _ = _; rw [← he]; simp [copyE, hd, h8, h7]
      have HR : Hid (putR n i (oneAt k) = r) := by
        show _ = _; rw [← hr]
        by_cases h9 : putE n i = 0
        · simp [copyR, copyE, hd, h8, h9, h7]
        · simp [copyR, copyE, hd, h8, h9, putR, h7]
      have hk0 : ¬ ((k : Int) < 0) := by omega
      have hk1 : (k : Int) < n := by omega
      have HW := Lib.hid (pow_u64 (k := k) (by omega))
      have hmod : (k : Int) % 64 = k := by omega
      have hmod2 : k % 64 = k := by omega
      have g1 : k < 64 := by omega
      clear hd he hr hi
      go_enter Tryd.func33, Tryd.ntmps33
      go_wp2_with (go_at_call 50; refine (checkDim_is _ _ 0 HD.out).mono ?_; rintro e w' ⟨rfl, rfl⟩)
      rw [HW.out]
      refine (with_any _ _ (oneAt k) _ e HE.out r HR.out).mono ?_
      rintro x w2 ⟨a, cap, rfl, h1, h2, h3⟩
      go_wp2
      go_ret2
      exact ⟨a, cap, rfl, h1, h2, h3⟩
  · have HD := Lib.hid (show dimC d = e by rw [← he]; simp [copyE, hd])
    have h0 : e ≠ 0 := by rw [← HD.out]; exact hd
    have hne : (e != 0) = true := by simpa using h0
    have hnf : (e == 0) = false := by simpa using h0
    have HE : Hid (putE d i = e) := by show _ = _; rw [← HD.out]; simp [putE, hd]
    have hr2 : [] = r := by rw [← hr]; simp [copyR, he, h0]
    have HR : Hid (∀ c, putR d i c = r) := fun c => by rw [← hr2]; simp [putR, HE.out, h0]
    clear hd he h0 hr hr2
    obtain ⟨j, hj, hq⟩ := tmod_nat from_
    have HQ := Lib.hid hq
    have HW := Lib.hid (pow_u64 hj)
    have hj2 : (j : Int) < 64 := by omega
    go_enter Tryd.func33, Tryd.ntmps33
    go_wp2_with (go_at_call 50; refine (checkDim_is _ _ e HD.out).mono ?_; rintro e w' ⟨rfl, rfl⟩)
    try rw [HQ.out]
    go_wp2_with fail
    rw [HW.out]
    refine (with_any _ _ (oneAt j) _ e HE.out r (HR.out _)).mono ?_
    rintro x w2 ⟨a, cap, rfl, h1, h2, h3⟩
    go_wp2
    go_ret2
    exact ⟨a, cap, rfl, h1, h2, h3⟩

set_option maxHeartbeats 2000000 in
theorem copyRef_any (d i from_ : Int) (w : World) (hf : (Lit.int .i64 from_).wf = true) (e : Int) (he : copyE d i from_ = e) (r : List Cl) (hr : copyR d i from_ = r) :
    Calls Tryd.prog 34 #[.int .i64 d, .int .i64 i, .int .i64 from_] w (CellsRet r e w) := by
  by_cases hd : dimC d = 0
  · obtain ⟨n, rfl, hn⟩ := dim_nat hd
    have HD := Lib.hid hd
    by_cases hi : from_ < 0 ∨ (n : Int) ≤ from_
    · obtain rfl : 5 = e := by rw [← he]; simp [copyE, hd, hi]
      obtain rfl : [] = r := by rw [← hr]; simp [copyR, he]
      clear hd he hr
      rcases Int.lt_or_le from_ 0 with hi0 | hi0
      · clear hi
        go_enter Tryd.func34, Tryd.ntmps34
        go_wp2_with (go_at_call 52; refine (dim_is _ _ 0 HD.out).mono ?_; rintro e w' ⟨rfl, rfl⟩)
        go_ret2
        exact cellsRet_nil 5 (Below.refl _ _)
      · have hi1 : (n : Int) ≤ from_ := by omega
        clear hi
        go_enter Tryd.func34, Tryd.ntmps34
        go_wp2_with (go_at_call 52; refine (dim_is _ _ 0 HD.out).mono ?_; rintro e w' ⟨rfl, rfl⟩)
        go_ret2
        exact cellsRet_nil 5 (Below.refl _ _)
    · obtain ⟨k, rfl⟩ : ∃ k : Nat, from_ = k := ⟨from_.toNat, by omega⟩
      have h8 : ¬ n ≤ k := by omega
      have h7 : ¬ ((k : Int) < 0) := by omega
      have HE : Hid (putE n i = e) := by show _ = _; rw [← he]; simp [copyE, hd, h8, h7]
      have HR : Hid (putR n i (oneAt k) = r) := by
        show _ = _; rw [← hr]
        by_cases h9 : putE n i = 0
        · simp [copyR, copyE, hd, h8, h9, h7]
        · simp [copyR, copyE, hd, h8, h9, putR, h7]
      have hk0 : ¬ ((k : Int) < 0) := by omega
      have hk1 : (k : Int) < n := by omega
      have HW := Lib.hid (pow_u64 (k := k) (by omega))
      have g1 : k < 64 := by omega
      clear hd he hr hi
      go_enter Tryd.func34, Tryd.ntmps34
      go_wp2_with (go_at_call 52; refine (dim_is _ _ 0 HD.out).mono ?_; rintro e w' ⟨rfl, rfl⟩)
      rw [HW.out]
      refine (put_any _ _ (oneAt k) _ e HE.out r HR.out).mono ?_
      rintro x w2 ⟨a, cap, rfl, h1, h2, h3⟩
      go_wp2
      go_ret2
      exact ⟨a, cap, rfl, h1, h2, h3⟩
  · have HD := Lib.hid (show dimC d = e by rw [← he]; simp [copyE, hd])
    have h0 : e ≠ 0 := by rw [← HD.out]; exact hd
    have hne : (e != 0) = true := by simpa using h0
    obtain rfl : [] = r := by rw [← hr]; simp [copyR, he, h0]
    clear hd he h0 hr
    go_enter Tryd.func34, Tryd.ntmps34
    go_wp2_with (go_at_call 52; refine (dim_is _ _ e HD.out).mono ?_; rintro e w' ⟨rfl, rfl⟩)
    go_ret2
    exact cellsRet_nil e (Below.refl _ _)
end Go.Proofs.YtkekldebklghoaaDoor
