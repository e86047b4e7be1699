/-
  THE CELLS LAYER: the laws' helpers three, both, then.
-/
import Derived.Test.YtkekldebklghoaaDoorCellsVal
namespace Go.Proofs.YtkekldebklghoaaDoor
open Go.RowKit
set_option linter.unusedVariables false

theorem chkRef_is (d : Int) (a : Option Addr) (cap : Nat) (cs : List Cl) (w : World) (hm : cs.length ≤ maxLen) (hrow : CRow w a cs) (hbits : Bits cs) (c : Int) (hc : chkC d cs = c) :
    Calls Tryd.prog 17 #[.int .i64 d, .slice a cs.length cap] w fun e w' => e = .returned (.int .i64 c) ∧ Below w.heap.size w w' := by
  subst hc; exact checkRef_any d a cap cs w hm hrow hbits

def threeB' (d : Int) (xs ys zs : List Cl) : Bool := chkC d xs == 0 && (chkC d ys == 0 && chkC d zs == 0)
set_option maxHeartbeats 2000000 in
theorem three_any (d : Int) (a b c : Option Addr) (ca cb cc : Nat) (xs ys zs : List Cl) (w : World) (hma : xs.length ≤ maxLen) (hmb : ys.length ≤ maxLen) (hmc : zs.length ≤ maxLen) (hra : CRow w a xs) (hrb : CRow w b ys) (hrc : CRow w c zs) (hba : Bits xs) (hbb : Bits ys) (hbc : Bits zs) (t : Bool) (ht : threeB' d xs ys zs = t) :
    Calls Tryd.prog 37 #[.int .i64 d, .slice a xs.length ca, .slice b ys.length cb, .slice c zs.length cc] w fun e w' => e = .returned (.bool t) ∧ Below w.heap.size w w' := by
  have HMA := Lib.hid hma; have HMB := Lib.hid hmb; have HMC := Lib.hid hmc; have HRA := Lib.hid hra; have HRB := Lib.hid hrb; have HRC := Lib.hid hrc; have HBA := Lib.hid hba; have HBB := Lib.hid hbb; have HBC := Lib.hid hbc
  clear hma hmb hmc hra hrb hrc hba hbb hbc
  obtain ⟨x, hx⟩ : ∃ x, chkC d xs = x := ⟨_, rfl⟩
  obtain ⟨y, hy⟩ : ∃ y, chkC d ys = y := ⟨_, rfl⟩
  obtain ⟨z, hz⟩ : ∃ z, chkC d zs = z := ⟨_, rfl⟩
  have HX := Lib.hid hx; have HY := Lib.hid hy; have HZ := Lib.hid hz
  have ht2 : (x == 0 && (y == 0 && z == 0)) = t := by rw [← ht]; unfold threeB'; rw [hx, hy, hz]
  clear hx hy hz ht
  cases e1 : x == 0
  · obtain rfl : false = t := by rw [← ht2, e1]; rfl
    clear ht2
    go_enter Tryd.func37, Tryd.ntmps37
    go_wp2_with fail
    refine (chkRef_is d a ca xs _ HMA.out HRA.out HBA.out x HX.out).mono ?_
    rintro e w1 ⟨rfl, hb1⟩
    go_wp2
    go_ret
    exact ⟨rfl, hb1⟩
  cases e2 : y == 0
  · obtain rfl : false = t := by rw [← ht2, e1, e2]; rfl
    clear ht2
    go_enter Tryd.func37, Tryd.ntmps37
    go_wp2_with fail
    refine (chkRef_is d a ca xs _ HMA.out HRA.out HBA.out x HX.out).mono ?_
    rintro e w1 ⟨rfl, hb1⟩
    go_wp2_with fail
    refine (chkRef_is d b cb ys _ HMB.out (HRB.out.below hb1) HBB.out y HY.out).mono ?_
    rintro e w2 ⟨rfl, hb2⟩
    go_wp2
    go_ret
    exact ⟨rfl, hb1.trans (hb2.mono hb1.size)⟩
  · obtain rfl : (z == 0) = t := by rw [← ht2, e1, e2]; rfl
    clear ht2
    go_enter Tryd.func37, Tryd.ntmps37
    go_wp2_with fail
    refine (chkRef_is d a ca xs _ HMA.out HRA.out HBA.out x HX.out).mono ?_
    rintro e w1 ⟨rfl, hb1⟩
    go_wp2_with fail
    refine (chkRef_is d b cb ys _ HMB.out (HRB.out.below hb1) HBB.out y HY.out).mono ?_
    rintro e w2 ⟨rfl, hb2⟩
    have hB2 := hb1.trans (hb2.mono hb1.size)
    go_wp2_with fail
    refine (chkRef_is d c cc zs _ HMC.out (HRC.out.below hB2) HBC.out z HZ.out).mono ?_
    rintro e w3 ⟨rfl, hb3⟩
    go_wp2
    go_ret
    exact ⟨rfl, hB2.trans (hb3.mono hB2.size)⟩
theorem three_yes {d : Int} {xs ys zs : List Cl} (h : threeB' d xs ys zs = true) : ∃ n : Nat, d = n ∧ Val n xs ∧ Val n ys ∧ Val n zs := by
  unfold threeB' at h
  simp only [Bool.and_eq_true, beq_iff_eq] at h
  obtain ⟨h1, h2, h3⟩ := h
  obtain ⟨n, rfl, v1⟩ := val_of h1
  obtain ⟨n2, e2, v2⟩ := val_of h2
  obtain ⟨n3, e3, v3⟩ := val_of h3
  obtain rfl : n = n2 := by omega
  obtain rfl : n = n3 := by omega
  exact ⟨n, rfl, v1, v2, v3⟩

/-- What a helper hands back: a row. -/
def RowRet (cs : List Cl) (w : World) (e : Ending) (w' : World) : Prop := ∃ a cap, e = .returned (.slice a cs.length cap) ∧ CRow w' a cs ∧ Below w.heap.size w w'
theorem bothL_is {n : Nat} {a b : Option Addr} {ca cb : Nat} {xs ys : List Cl} {w : World} (hx : Val n xs) (hy : Val n ys) (hra : CRow w a xs) (hrb : CRow w b ys) :
    Calls Tryd.prog 38 #[.int .i64 n, .slice a xs.length ca, .slice b ys.length cb] w (RowRet (bothC xs ys) w) := by
  have HX := Lib.hid hx; have HY := Lib.hid hy; have HRA := Lib.hid hra; have HRB := Lib.hid hrb
  have HR := Lib.hid (show bothR n xs ys = bothC xs ys by rw [bothR, if_pos (hx.chk2 hy)])
  clear hx hy hra hrb
  go_enter Tryd.func38, Tryd.ntmps38
  go_wp2_with fail
  refine (bothP_any n a b ca cb xs ys _ HX.out.max HY.out.max HRA.out HRB.out HX.out.bits HY.out.bits 0 (HX.out.chk2 HY.out)).mono ?_
  rw [HR.out]
  rintro e w1 ⟨a1, c1, rfl, hr1, hf1, hb1⟩
  have H1 := Lib.hid hr1
  clear hr1 hf1
  go_wp2
  go_ret
  exact ⟨a1, c1, rfl, H1.out, hb1⟩
theorem thenL_is {n : Nat} {a b : Option Addr} {ca cb : Nat} {xs ys : List Cl} {w : World} (ht : Tabs w) (hx : Val n xs) (hy : Val n ys) (hra : CRow w a xs) (hrb : CRow w b ys) :
    Calls Tryd.prog 39 #[.int .i64 n, .slice a xs.length ca, .slice b ys.length cb] w (RowRet (thenC xs ys) w) := by
  have HT := Lib.hid ht
  have HX := Lib.hid hx; have HY := Lib.hid hy; have HRA := Lib.hid hra; have HRB := Lib.hid hrb
  have HR := Lib.hid (show thenR n xs ys = thenC xs ys by rw [thenR, if_pos (hx.chk2 hy)])
  clear ht hx hy hra hrb
  go_enter Tryd.func39, Tryd.ntmps39
  go_wp2_with fail
  refine (then_any n a b ca cb xs ys _ HT.out HX.out.max HY.out.max HRA.out HRB.out HX.out.bits HY.out.bits 0 (HX.out.chk2 HY.out)).mono ?_
  rw [HR.out]
  rintro e w1 ⟨a1, c1, rfl, hr1, hf1, hb1⟩
  have H1 := Lib.hid hr1
  clear hr1 hf1
  go_wp2
  go_ret
  exact ⟨a1, c1, rfl, H1.out, hb1⟩
theorem sameL_is {n : Nat} {a b : Option Addr} {ca cb : Nat} {xs ys : List Cl} {w : World} (hx : Val n xs) (hy : Val n ys) (hra : CRow w a xs) (hrb : CRow w b ys) (h : xs = ys) :
    Calls Tryd.prog 19 #[.slice a xs.length ca, .slice b ys.length cb] w fun e w' => e = .returned (.bool true) ∧ Below w.heap.size w w' :=
  sameRef_any a b ca cb xs ys w hx.max hy.max hra hrb true (by rw [h]; exact same_refl _)
end Go.Proofs.YtkekldebklghoaaDoor
