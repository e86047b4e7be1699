/-
  THE CELLS LAYER: the law CellsAlgebra's walk. (Written by wip/algebra.py.)
-/
import Derived.Test.YtkekldebklghoaaDoorCellsHelp
namespace Go.Proofs.YtkekldebklghoaaDoor
open Go.RowKit
set_option linter.unusedVariables false

set_option maxRecDepth 100000 in
set_option maxHeartbeats 4000000 in
theorem cellsAlgebra_walk (d : Int) (a : Option Addr) (la ca : Nat) (xs : List Cl) (b : Option Addr) (lb cb : Nat) (ys : List Cl) (c : Option Addr) (lc cc : Nat) (zs : List Cl) (w : World) (hd : (Lit.int .i64 d).wf = true) (ha : IsCells w a la ca xs) (hb : IsCells w b lb cb ys) (hc : IsCells w c lc cc zs) (ht : Tabs w) :
    Calls Tryd.prog 7 #[.int .i64 d, .slice a la ca, .slice b lb cb, .slice c lc cc] w fun e w' => e = .returned (.bool true) ∧ Below w.heap.size w w' := by
  obtain ⟨rfl, hma, hra, hba⟩ := ha
  obtain ⟨rfl, hmb, hrb, hbb⟩ := hb
  obtain ⟨rfl, hmc, hrc, hbc⟩ := hc
  have HT := Lib.hid ht
  have HMA := Lib.hid hma; have HMB := Lib.hid hmb; have HMC := Lib.hid hmc; have HRA := Lib.hid hra; have HRB := Lib.hid hrb; have HRC := Lib.hid hrc; have HBA := Lib.hid hba; have HBB := Lib.hid hbb; have HBC := Lib.hid hbc
  clear ht hd hma hmb hmc hra hrb hrc hba hbb hbc
  obtain ⟨t, ht⟩ : ∃ t, threeB' d xs ys zs = t := ⟨_, rfl⟩
  have HTH := Lib.hid ht
  clear ht
  cases t
  · go_enter Tryd.func7, Tryd.ntmps7
    go_wp2_with fail
    refine (awake_any _ HT.out).mono ?_
    rintro e w1 ⟨rfl, hB1⟩
    go_wp2_with fail
    refine (three_any d a b c ca cb cc xs ys zs _ HMA.out HMB.out HMC.out (HRA.out.below hB1) (HRB.out.below hB1) (HRC.out.below hB1) HBA.out HBB.out HBC.out false HTH.out).mono ?_
    rintro e w2 ⟨rfl, hb2⟩
    go_wp2
    go_ret
    exact ⟨rfl, hB1.trans (hb2.mono hB1.size)⟩
  · obtain ⟨n, rfl, vx, vy, vz⟩ := three_yes HTH.out
    have VX := Lib.hid vx; have VY := Lib.hid vy; have VZ := Lib.hid vz
    have hle := vx.le
    clear vx vy vz
    go_enter Tryd.func7, Tryd.ntmps7
    go_wp2_with fail
    refine (awake_any _ HT.out).mono ?_
    rintro e w1 ⟨rfl, hB1⟩
    go_wp2_with fail
    refine (three_any n a b c ca cb cc xs ys zs _ HMA.out HMB.out HMC.out (HRA.out.below hB1) (HRB.out.below hB1) (HRC.out.below hB1) HBA.out HBB.out HBC.out true HTH.out).mono ?_
    rintro e w2 ⟨rfl, hb2⟩
    have hB2 := hB1.trans (hb2.mono hB1.size)
    go_wp2_with fail
    have HD0 := Lib.hid (show dimC n = 0 by unfold dimC; rw [if_neg (by omega)])
    have HU := Lib.hid (show unitR n = unitC n by rw [unitR, if_pos HD0.out]; rfl)
    refine (one_any n _ 0 HD0.out).mono ?_
    rw [HU.out]
    rintro e w3 ⟨a3, c3, rfl, hr3, hf3, hb3⟩
    have HR3 := Lib.hid hr3
    clear hr3 hf3
    have V3 := Lib.hid (val_unit hle)
    have hB3 := hB2.trans (hb3.mono hB2.size)
    go_wp2_with fail
    refine (bothL_is (a := a) (b := a) (ca := ca) (cb := ca) VX.out VX.out (HRA.out.below hB3) (HRA.out.below hB3)).mono ?_
    rintro e w4 ⟨a4, c4, rfl, hr4, hb4⟩
    have HR4 := Lib.hid hr4
    clear hr4
    have V4 := Lib.hid (val_both VX.out VX.out)
    have hB4 := hB3.trans (hb4.mono hB3.size)
    have T3_4 := hb4
    go_wp2_with fail
    refine (sameL_is (a := a4) (b := a) (ca := c4) (cb := ca) V4.out VX.out HR4.out (HRA.out.below hB4) (both_self VX.out)).mono ?_
    rintro e w5 ⟨rfl, hb5⟩
    have hB5 := hB4.trans (hb5.mono hB4.size)
    have T3_5 := T3_4.trans (hb5.mono T3_4.size)
    go_wp2_with fail
    refine (bothL_is (a := a) (b := b) (ca := ca) (cb := cb) VX.out VY.out (HRA.out.below hB5) (HRB.out.below hB5)).mono ?_
    rintro e w6 ⟨a6, c6, rfl, hr6, hb6⟩
    have HR6 := Lib.hid hr6
    clear hr6
    have V6 := Lib.hid (val_both VX.out VY.out)
    have hB6 := hB5.trans (hb6.mono hB5.size)
    have T3_6 := T3_5.trans (hb6.mono T3_5.size)
    go_wp2_with fail
    refine (bothL_is (a := b) (b := a) (ca := cb) (cb := ca) VY.out VX.out (HRB.out.below hB6) (HRA.out.below hB6)).mono ?_
    rintro e w7 ⟨a7, c7, rfl, hr7, hb7⟩
    have HR7 := Lib.hid hr7
    clear hr7
    have V7 := Lib.hid (val_both VY.out VX.out)
    have hB7 := hB6.trans (hb7.mono hB6.size)
    have T3_7 := T3_6.trans (hb7.mono T3_6.size)
    have T6_7 := hb7
    go_wp2_with fail
    refine (sameL_is (a := a6) (b := a7) (ca := c6) (cb := c7) V6.out V7.out (HR6.out.below T6_7) HR7.out (both_comm VX.out VY.out)).mono ?_
    rintro e w8 ⟨rfl, hb8⟩
    have hB8 := hB7.trans (hb8.mono hB7.size)
    have T3_8 := T3_7.trans (hb8.mono T3_7.size)
    go_wp2_with fail
    refine (bothL_is (a := a) (b := b) (ca := ca) (cb := cb) VX.out VY.out (HRA.out.below hB8) (HRB.out.below hB8)).mono ?_
    rintro e w9 ⟨a9, c9, rfl, hr9, hb9⟩
    have HR9 := Lib.hid hr9
    clear hr9
    have V9 := Lib.hid (val_both VX.out VY.out)
    have hB9 := hB8.trans (hb9.mono hB8.size)
    have T3_9 := T3_8.trans (hb9.mono T3_8.size)
    go_wp2_with fail
    refine (bothL_is (a := a9) (b := c) (ca := c9) (cb := cc) V9.out VZ.out HR9.out (HRC.out.below hB9)).mono ?_
    rintro e w10 ⟨a10, c10, rfl, hr10, hb10⟩
    have HR10 := Lib.hid hr10
    clear hr10
    have V10 := Lib.hid (val_both V9.out VZ.out)
    have hB10 := hB9.trans (hb10.mono hB9.size)
    have T3_10 := T3_9.trans (hb10.mono T3_9.size)
    have T9_10 := hb10
    go_wp2_with fail
    refine (bothL_is (a := b) (b := c) (ca := cb) (cb := cc) VY.out VZ.out (HRB.out.below hB10) (HRC.out.below hB10)).mono ?_
    rintro e w11 ⟨a11, c11, rfl, hr11, hb11⟩
    have HR11 := Lib.hid hr11
    clear hr11
    have V11 := Lib.hid (val_both VY.out VZ.out)
    have hB11 := hB10.trans (hb11.mono hB10.size)
    have T3_11 := T3_10.trans (hb11.mono T3_10.size)
    have T10_11 := hb11
    go_wp2_with fail
    refine (bothL_is (a := a) (b := a11) (ca := ca) (cb := c11) VX.out V11.out (HRA.out.below hB11) HR11.out).mono ?_
    rintro e w12 ⟨a12, c12, rfl, hr12, hb12⟩
    have HR12 := Lib.hid hr12
    clear hr12
    have V12 := Lib.hid (val_both VX.out V11.out)
    have hB12 := hB11.trans (hb12.mono hB11.size)
    have T3_12 := T3_11.trans (hb12.mono T3_11.size)
    have T10_12 := T10_11.trans (hb12.mono T10_11.size)
    have T11_12 := hb12
    go_wp2_with fail
    refine (sameL_is (a := a10) (b := a12) (ca := c10) (cb := c12) V10.out V12.out (HR10.out.below T10_12) HR12.out (both_assoc VX.out VY.out VZ.out)).mono ?_
    rintro e w13 ⟨rfl, hb13⟩
    have hB13 := hB12.trans (hb13.mono hB12.size)
    have T3_13 := T3_12.trans (hb13.mono T3_12.size)
    go_wp2_with fail
    refine (thenL_is (a := a) (b := b) (ca := ca) (cb := cb) (HT.out.below hB13) VX.out VY.out (HRA.out.below hB13) (HRB.out.below hB13)).mono ?_
    rintro e w14 ⟨a14, c14, rfl, hr14, hb14⟩
    have HR14 := Lib.hid hr14
    clear hr14
    have V14 := Lib.hid (val_then VX.out VY.out)
    have hB14 := hB13.trans (hb14.mono hB13.size)
    have T3_14 := T3_13.trans (hb14.mono T3_13.size)
    go_wp2_with fail
    refine (thenL_is (a := a14) (b := c) (ca := c14) (cb := cc) (HT.out.below hB14) V14.out VZ.out HR14.out (HRC.out.below hB14)).mono ?_
    rintro e w15 ⟨a15, c15, rfl, hr15, hb15⟩
    have HR15 := Lib.hid hr15
    clear hr15
    have V15 := Lib.hid (val_then V14.out VZ.out)
    have hB15 := hB14.trans (hb15.mono hB14.size)
    have T3_15 := T3_14.trans (hb15.mono T3_14.size)
    have T14_15 := hb15
    go_wp2_with fail
    refine (thenL_is (a := b) (b := c) (ca := cb) (cb := cc) (HT.out.below hB15) VY.out VZ.out (HRB.out.below hB15) (HRC.out.below hB15)).mono ?_
    rintro e w16 ⟨a16, c16, rfl, hr16, hb16⟩
    have HR16 := Lib.hid hr16
    clear hr16
    have V16 := Lib.hid (val_then VY.out VZ.out)
    have hB16 := hB15.trans (hb16.mono hB15.size)
    have T3_16 := T3_15.trans (hb16.mono T3_15.size)
    have T15_16 := hb16
    go_wp2_with fail
    refine (thenL_is (a := a) (b := a16) (ca := ca) (cb := c16) (HT.out.below hB16) VX.out V16.out (HRA.out.below hB16) HR16.out).mono ?_
    rintro e w17 ⟨a17, c17, rfl, hr17, hb17⟩
    have HR17 := Lib.hid hr17
    clear hr17
    have V17 := Lib.hid (val_then VX.out V16.out)
    have hB17 := hB16.trans (hb17.mono hB16.size)
    have T3_17 := T3_16.trans (hb17.mono T3_16.size)
    have T15_17 := T15_16.trans (hb17.mono T15_16.size)
    have T16_17 := hb17
    go_wp2_with fail
    refine (sameL_is (a := a15) (b := a17) (ca := c15) (cb := c17) V15.out V17.out (HR15.out.below T15_17) HR17.out (then_assoc VX.out.oks VY.out.oks VZ.out.oks)).mono ?_
    rintro e w18 ⟨rfl, hb18⟩
    have hB18 := hB17.trans (hb18.mono hB17.size)
    have T3_18 := T3_17.trans (hb18.mono T3_17.size)
    go_wp2_with fail
    refine (thenL_is (a := a3) (b := a) (ca := c3) (cb := ca) (HT.out.below hB18) V3.out VX.out (HR3.out.below T3_18) (HRA.out.below hB18)).mono ?_
    rintro e w19 ⟨a19, c19, rfl, hr19, hb19⟩
    have HR19 := Lib.hid hr19
    clear hr19
    have V19 := Lib.hid (val_then V3.out VX.out)
    have hB19 := hB18.trans (hb19.mono hB18.size)
    have T3_19 := T3_18.trans (hb19.mono T3_18.size)
    go_wp2_with fail
    refine (sameL_is (a := a19) (b := a) (ca := c19) (cb := ca) V19.out VX.out HR19.out (HRA.out.below hB19) (unit_then VX.out)).mono ?_
    rintro e w20 ⟨rfl, hb20⟩
    have hB20 := hB19.trans (hb20.mono hB19.size)
    have T3_20 := T3_19.trans (hb20.mono T3_19.size)
    go_wp2_with fail
    refine (thenL_is (a := a) (b := a3) (ca := ca) (cb := c3) (HT.out.below hB20) VX.out V3.out (HRA.out.below hB20) (HR3.out.below T3_20)).mono ?_
    rintro e w21 ⟨a21, c21, rfl, hr21, hb21⟩
    have HR21 := Lib.hid hr21
    clear hr21
    have V21 := Lib.hid (val_then VX.out V3.out)
    have hB21 := hB20.trans (hb21.mono hB20.size)
    have T3_21 := T3_20.trans (hb21.mono T3_20.size)
    go_wp2_with fail
    refine (sameL_is (a := a21) (b := a) (ca := c21) (cb := ca) V21.out VX.out HR21.out (HRA.out.below hB21) (then_unit VX.out)).mono ?_
    rintro e w22 ⟨rfl, hb22⟩
    have hB22 := hB21.trans (hb22.mono hB21.size)
    have T3_22 := T3_21.trans (hb22.mono T3_21.size)
    go_wp2
    go_ret
    exact ⟨by simp, hB22⟩
end Go.Proofs.YtkekldebklghoaaDoor
