/-
  THE CELLS LAYER: the law CellsOver's walk. (Written by wip/algebra.py.)
-/
import Derived.Test.YtkekldebklghoaaDoorCellsHelp
namespace Go.Proofs.YtkekldebklghoaaDoor
open Go.RowKit
set_option linter.unusedVariables false

set_option maxRecDepth 100000 in
set_option maxHeartbeats 4000000 in
theorem cellsOver_walk (d : Int) (a : Option Addr) (la ca : Nat) (xs : List Cl) (b : Option Addr) (lb cb : Nat) (ys : List Cl) (c : Option Addr) (lc cc : Nat) (zs : List Cl) (w : World) (hd : (Lit.int .i64 d).wf = true) (ha : IsCells w a la ca xs) (hb : IsCells w b lb cb ys) (hc : IsCells w c lc cc zs) (ht : Tabs w) :
    Calls Tryd.prog 8 #[.int .i64 d, .slice a la ca, .slice b lb cb, .slice c lc cc] w fun e w' => e = .returned (.bool true) ∧ Below w.heap.size w w' := by
  obtain ⟨rfl, hma, hra, hba⟩ := ha
  obtain ⟨rfl, hmb, hrb, hbb⟩ := hb
  obtain ⟨rfl, hmc, hrc, hbc⟩ := hc
  have HT := Lib.hid ht
  have HMA := Lib.hid hma; have HMB := Lib.hid hmb; have HMC := Lib.hid hmc; have HRA := Lib.hid hra; have HRB := Lib.hid hrb; have HRC := Lib.hid hrc; have HBA := Lib.hid hba; have HBB := Lib.hid hbb; have HBC := Lib.hid hbc
  clear ht hd hma hmb hmc hra hrb hrc hba hbb hbc
  obtain ⟨t, ht⟩ : ∃ t, threeB' d xs ys zs = t := ⟨_, rfl⟩
  have HTH := Lib.hid ht
  clear ht
  cases t
  · go_enter Tryd.func8, Tryd.ntmps8
    go_wp2_with fail
    refine (awake_any _ HT.out).mono ?_
    rintro e w1 ⟨rfl, hB1⟩
    go_wp2_with fail
    refine (three_any d a b c ca cb cc xs ys zs _ HMA.out HMB.out HMC.out (HRA.out.below hB1) (HRB.out.below hB1) (HRC.out.below hB1) HBA.out HBB.out HBC.out false HTH.out).mono ?_
    rintro e w2 ⟨rfl, hb2⟩
    go_wp2
    go_ret
    exact ⟨rfl, hB1.trans (hb2.mono hB1.size)⟩
  · obtain ⟨n, rfl, vx, vy, vz⟩ := three_yes HTH.out
    have VX := Lib.hid vx; have VY := Lib.hid vy; have VZ := Lib.hid vz
    have hle := vx.le
    clear vx vy vz
    go_enter Tryd.func8, Tryd.ntmps8
    go_wp2_with fail
    refine (awake_any _ HT.out).mono ?_
    rintro e w1 ⟨rfl, hB1⟩
    go_wp2_with fail
    refine (three_any n a b c ca cb cc xs ys zs _ HMA.out HMB.out HMC.out (HRA.out.below hB1) (HRB.out.below hB1) (HRC.out.below hB1) HBA.out HBB.out HBC.out true HTH.out).mono ?_
    rintro e w2 ⟨rfl, hb2⟩
    have hB2 := hB1.trans (hb2.mono hB1.size)
    go_wp2_with fail
    refine (bothL_is (a := b) (b := c) (ca := cb) (cb := cc) VY.out VZ.out (HRB.out.below hB2) (HRC.out.below hB2)).mono ?_
    rintro e w3 ⟨a3, c3, rfl, hr3, hb3⟩
    have HR3 := Lib.hid hr3
    clear hr3
    have V3 := Lib.hid (val_both VY.out VZ.out)
    have hB3 := hB2.trans (hb3.mono hB2.size)
    go_wp2_with fail
    refine (thenL_is (a := a) (b := a3) (ca := ca) (cb := c3) (HT.out.below hB3) VX.out V3.out (HRA.out.below hB3) HR3.out).mono ?_
    rintro e w4 ⟨a4, c4, rfl, hr4, hb4⟩
    have HR4 := Lib.hid hr4
    clear hr4
    have V4 := Lib.hid (val_then VX.out V3.out)
    have hB4 := hB3.trans (hb4.mono hB3.size)
    have T3_4 := hb4
    go_wp2_with fail
    refine (thenL_is (a := a) (b := b) (ca := ca) (cb := cb) (HT.out.below hB4) VX.out VY.out (HRA.out.below hB4) (HRB.out.below hB4)).mono ?_
    rintro e w5 ⟨a5, c5, rfl, hr5, hb5⟩
    have HR5 := Lib.hid hr5
    clear hr5
    have V5 := Lib.hid (val_then VX.out VY.out)
    have hB5 := hB4.trans (hb5.mono hB4.size)
    have T4_5 := hb5
    go_wp2_with fail
    refine (thenL_is (a := a) (b := c) (ca := ca) (cb := cc) (HT.out.below hB5) VX.out VZ.out (HRA.out.below hB5) (HRC.out.below hB5)).mono ?_
    rintro e w6 ⟨a6, c6, rfl, hr6, hb6⟩
    have HR6 := Lib.hid hr6
    clear hr6
    have V6 := Lib.hid (val_then VX.out VZ.out)
    have hB6 := hB5.trans (hb6.mono hB5.size)
    have T4_6 := T4_5.trans (hb6.mono T4_5.size)
    have T5_6 := hb6
    go_wp2_with fail
    refine (bothL_is (a := a5) (b := a6) (ca := c5) (cb := c6) V5.out V6.out (HR5.out.below T5_6) HR6.out).mono ?_
    rintro e w7 ⟨a7, c7, rfl, hr7, hb7⟩
    have HR7 := Lib.hid hr7
    clear hr7
    have V7 := Lib.hid (val_both V5.out V6.out)
    have hB7 := hB6.trans (hb7.mono hB6.size)
    have T4_7 := T4_6.trans (hb7.mono T4_6.size)
    have T5_7 := T5_6.trans (hb7.mono T5_6.size)
    have T6_7 := hb7
    go_wp2_with fail
    refine (sameL_is (a := a4) (b := a7) (ca := c4) (cb := c7) V4.out V7.out (HR4.out.below T4_7) HR7.out (then_both VX.out VY.out VZ.out)).mono ?_
    rintro e w8 ⟨rfl, hb8⟩
    have hB8 := hB7.trans (hb8.mono hB7.size)
    go_wp2_with fail
    refine (bothL_is (a := a) (b := b) (ca := ca) (cb := cb) VX.out VY.out (HRA.out.below hB8) (HRB.out.below hB8)).mono ?_
    rintro e w9 ⟨a9, c9, rfl, hr9, hb9⟩
    have HR9 := Lib.hid hr9
    clear hr9
    have V9 := Lib.hid (val_both VX.out VY.out)
    have hB9 := hB8.trans (hb9.mono hB8.size)
    go_wp2_with fail
    refine (thenL_is (a := a9) (b := c) (ca := c9) (cb := cc) (HT.out.below hB9) V9.out VZ.out HR9.out (HRC.out.below hB9)).mono ?_
    rintro e w10 ⟨a10, c10, rfl, hr10, hb10⟩
    have HR10 := Lib.hid hr10
    clear hr10
    have V10 := Lib.hid (val_then V9.out VZ.out)
    have hB10 := hB9.trans (hb10.mono hB9.size)
    have T9_10 := hb10
    go_wp2_with fail
    refine (thenL_is (a := a) (b := c) (ca := ca) (cb := cc) (HT.out.below hB10) VX.out VZ.out (HRA.out.below hB10) (HRC.out.below hB10)).mono ?_
    rintro e w11 ⟨a11, c11, rfl, hr11, hb11⟩
    have HR11 := Lib.hid hr11
    clear hr11
    have V11 := Lib.hid (val_then VX.out VZ.out)
    have hB11 := hB10.trans (hb11.mono hB10.size)
    have T10_11 := hb11
    go_wp2_with fail
    refine (thenL_is (a := b) (b := c) (ca := cb) (cb := cc) (HT.out.below hB11) VY.out VZ.out (HRB.out.below hB11) (HRC.out.below hB11)).mono ?_
    rintro e w12 ⟨a12, c12, rfl, hr12, hb12⟩
    have HR12 := Lib.hid hr12
    clear hr12
    have V12 := Lib.hid (val_then VY.out VZ.out)
    have hB12 := hB11.trans (hb12.mono hB11.size)
    have T10_12 := T10_11.trans (hb12.mono T10_11.size)
    have T11_12 := hb12
    go_wp2_with fail
    refine (bothL_is (a := a11) (b := a12) (ca := c11) (cb := c12) V11.out V12.out (HR11.out.below T11_12) HR12.out).mono ?_
    rintro e w13 ⟨a13, c13, rfl, hr13, hb13⟩
    have HR13 := Lib.hid hr13
    clear hr13
    have V13 := Lib.hid (val_both V11.out V12.out)
    have hB13 := hB12.trans (hb13.mono hB12.size)
    have T10_13 := T10_12.trans (hb13.mono T10_12.size)
    have T11_13 := T11_12.trans (hb13.mono T11_12.size)
    have T12_13 := hb13
    go_wp2_with fail
    refine (sameL_is (a := a10) (b := a13) (ca := c10) (cb := c13) V10.out V13.out (HR10.out.below T10_13) HR13.out (both_then VX.out VY.out VZ.out)).mono ?_
    rintro e w14 ⟨rfl, hb14⟩
    have hB14 := hB13.trans (hb14.mono hB13.size)
    go_wp2
    go_ret
    exact ⟨by simp, hB14⟩
end Go.Proofs.YtkekldebklghoaaDoor
