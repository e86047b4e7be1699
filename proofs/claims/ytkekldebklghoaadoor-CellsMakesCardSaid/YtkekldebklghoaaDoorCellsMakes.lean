/-
  THE CELLS LAYER: the law CellsMakes' walk.
-/
import Derived.Test.YtkekldebklghoaaDoorCellsLaws
namespace Go.Proofs.YtkekldebklghoaaDoor
open Go.RowKit
set_option linter.unusedVariables false

set_option maxRecDepth 100000 in
set_option maxHeartbeats 2000000 in
theorem cellsMakes_walk (d i f k : Int) (w : World) (hd : (Lit.int .i64 d).wf = true) (hi : (Lit.int .i64 i).wf = true) (hf : (Lit.int .i64 f).wf = true) (hk : (Lit.int .i64 k).wf = true) (ht : Tabs w) :
    Calls Tryd.prog 6 #[.int .i64 d, .int .i64 i, .int .i64 f, .int .i64 k] w fun e w' => e = .returned (.bool true) ∧ Below w.heap.size w w' := by
  have HT := Lib.hid ht
  have HF := Lib.hid hf
  obtain ⟨c, hc⟩ : ∃ c, dimC d = c := ⟨_, rfl⟩
  obtain ⟨h, hh⟩ : ∃ h, heightC d = h := ⟨_, rfl⟩
  obtain ⟨pe, hpe⟩ : ∃ e, putE d i = e := ⟨_, rfl⟩
  obtain ⟨ce, hce⟩ : ∃ e, copyE d i f = e := ⟨_, rfl⟩
  have HC := Lib.hid hc; have HH := Lib.hid hh; have HPE := Lib.hid hpe; have HCE := Lib.hid hce
  have MU := Lib.hid (unitR_max d (dim_le d))
  have MS := Lib.hid (putR_max d i ⟨0, 1, k⟩)
  have MA := Lib.hid (putR_max d i ⟨0, 2, 0⟩)
  have MC := Lib.hid (copyR_max d i f)
  clear ht hd hi hf hk hc hh hpe hce
  go_enter Tryd.func6, Tryd.ntmps6
  go_wp2_with fail
  refine (one_any d _ c HC.out).mono ?_
  rintro e w1 ⟨a1, c1, rfl, hr1, hf1, hb1⟩
  have HR1 := Lib.hid hr1
  clear hr1 hf1
  go_wp2_with fail
  refine (oneRef_any d _ c HC.out).mono ?_
  rintro e w2 ⟨a2, c2, rfl, hr2, hf2, hb2⟩
  have HR2 := Lib.hid hr2
  clear hr2 hf2
  have hB2 := hb1.trans (hb2.mono hb1.size)
  go_wp2_with (first | (go_at_call 29; refine (height_any d _ c HC.out h HH.out).mono ?_; rintro e w' ⟨rfl, rfl⟩) | (go_at_call 30; refine (heightRef_any d _ c HC.out h HH.out).mono ?_; rintro e w' ⟨rfl, rfl⟩) | (go_at_call 19; refine (sameRef_any a1 a2 c1 c2 _ _ _ MU.out MU.out (HR1.out.below hb2) HR2.out true (same_refl _)).mono ?_; rintro e w5 ⟨rfl, hb5⟩; have hB5 := hB2.trans (hb5.mono hB2.size)) | (go_at_call 20; refine (awake_any _ (HT.out.below hB5)).mono ?_; rintro e w6 ⟨rfl, hb6⟩; have hB6 := hB5.trans (hb6.mono hB5.size)))
  go_wp2_with fail
  refine (set_any d i k _ pe HPE.out _ rfl).mono ?_
  rintro e w7 ⟨a3, c3, rfl, hr3, hf3, hb7⟩
  have HR3 := Lib.hid hr3
  clear hr3 hf3
  have hB7 := hB6.trans (hb7.mono hB6.size)
  go_wp2_with fail
  refine (setRef_any d i k _ pe HPE.out _ rfl).mono ?_
  rintro e w8 ⟨a4, c4, rfl, hr4, hf4, hb8⟩
  have HR4 := Lib.hid hr4
  clear hr4 hf4
  have hB8 := hB7.trans (hb8.mono hB7.size)
  go_wp2_with fail
  refine (copy_any d i f _ HF.out ce HCE.out _ rfl).mono ?_
  rintro e w9 ⟨a5, c5, rfl, hr5, hf5, hb9⟩
  have HR5 := Lib.hid hr5
  clear hr5 hf5
  have hB9 := hB8.trans (hb9.mono hB8.size)
  go_wp2_with fail
  refine (copyRef_any d i f _ HF.out ce HCE.out _ rfl).mono ?_
  rintro e w10 ⟨a6, c6, rfl, hr6, hf6, hb10⟩
  have HR6 := Lib.hid hr6
  clear hr6 hf6
  have hB10 := hB9.trans (hb10.mono hB9.size)
  go_wp2_with fail
  refine (any_any d i _ pe HPE.out _ rfl).mono ?_
  rintro e w11 ⟨a7, c7, rfl, hr7, hf7, hb11⟩
  have HR7 := Lib.hid hr7
  clear hr7 hf7
  have hB11 := hB10.trans (hb11.mono hB10.size)
  go_wp2_with fail
  refine (anyRef_any d i _ pe HPE.out _ rfl).mono ?_
  rintro e w12 ⟨a8, c8, rfl, hr8, hf8, hb12⟩
  have HR8 := Lib.hid hr8
  clear hr8 hf8
  have hB12 := hB11.trans (hb12.mono hB11.size)
  have S3 := Lib.hid (HR3.out.below (hb8.trans (((hb9.trans ((hb10.trans ((hb11.trans (hb12.mono hb11.size)).mono hb10.size)).mono hb9.size))).mono hb8.size)))
  have S4 := Lib.hid (HR4.out.below (hb9.trans ((hb10.trans ((hb11.trans (hb12.mono hb11.size)).mono hb10.size)).mono hb9.size)))
  have S5 := Lib.hid (HR5.out.below (hb10.trans ((hb11.trans (hb12.mono hb11.size)).mono hb10.size)))
  have S6 := Lib.hid (HR6.out.below (hb11.trans (hb12.mono hb11.size)))
  have S7 := Lib.hid (HR7.out.below hb12)
  go_wp2_with fail
  refine (sameRef_any a3 a4 c3 c4 _ _ _ MS.out MS.out S3.out S4.out true (same_refl _)).mono ?_
  rintro e w13 ⟨rfl, hb13⟩
  have hB13 := hB12.trans (hb13.mono hB12.size)
  go_wp2_with fail
  refine (sameRef_any a5 a6 c5 c6 _ _ _ MC.out MC.out (S5.out.below hb13) (S6.out.below hb13) true (same_refl _)).mono ?_
  rintro e w14 ⟨rfl, hb14⟩
  have hB14 := hB13.trans (hb14.mono hB13.size)
  have hX := hb13.trans (hb14.mono hb13.size)
  go_wp2_with fail
  refine (sameRef_any a7 a8 c7 c8 _ _ _ MA.out MA.out (S7.out.below hX) (HR8.out.below hX) true (same_refl _)).mono ?_
  rintro e w15 ⟨rfl, hb15⟩
  have hB15 := hB14.trans (hb15.mono hB14.size)
  go_wp2
  go_ret
  exact ⟨by simp, hB15⟩
end Go.Proofs.YtkekldebklghoaaDoor
