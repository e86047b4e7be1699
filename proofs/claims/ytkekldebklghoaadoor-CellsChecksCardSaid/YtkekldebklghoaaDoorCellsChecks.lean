/-
  THE CELLS LAYER: the law CellsChecks' walk.
-/
import Derived.Test.YtkekldebklghoaaDoorCellsTexts3
namespace Go.Proofs.YtkekldebklghoaaDoor
open Go.RowKit
set_option linter.unusedVariables false

theorem sameP_any (a b : Option Addr) (capa capb : Nat) (xs ys : List Cl) (w : World) (hm : xs.length ≤ maxLen) (hmb : ys.length ≤ maxLen) (hra : CRow w a xs) (hrb : CRow w b ys) (s : Bool) (hs : sameC xs ys = s) :
    Calls Tryd.prog 18 #[.slice a xs.length capa, .slice b ys.length capb] w fun e w' => e = .returned (.bool s) ∧ Below w.heap.size w w' := by
  have HM := Lib.hid hm; have HMB := Lib.hid hmb; have HRA := Lib.hid hra; have HRB := Lib.hid hrb; have HS := Lib.hid hs
  clear hm hmb hra hrb hs
  go_enter Tryd.func18, Tryd.ntmps18
  go_wp2_with fail
  refine (equal_any a b capa capb xs ys _ HM.out HMB.out HRA.out HRB.out s HS.out).mono ?_
  rintro e w1 ⟨rfl, hb1⟩
  go_wp2
  go_ret
  exact ⟨rfl, hb1⟩

set_option maxRecDepth 100000 in
set_option maxHeartbeats 2000000 in
theorem cellsChecks_walk (d : Int) (a : Option Addr) (la ca : Nat) (xs : List Cl) (b : Option Addr) (lb cb : Nat) (ys : List Cl) (w : World) (hd : (Lit.int .i64 d).wf = true) (ha : IsCells w a la ca xs) (hb : IsCells w b lb cb ys) (hfit : Fits xs) (ht : Tabs w) :
    Calls Tryd.prog 3 #[.int .i64 d, .slice a la ca, .slice b lb cb] w fun e w' => e = .returned (.bool true) ∧ Below w.heap.size w w' := by
  obtain ⟨rfl, hma, hra, hba⟩ := ha
  obtain ⟨rfl, hmb, hrb, hbb⟩ := hb
  have HT := Lib.hid ht; have HF := Lib.hid hfit
  have HMA := Lib.hid hma; have HMB := Lib.hid hmb; have HRA := Lib.hid hra; have HRB := Lib.hid hrb; have HBA := Lib.hid hba; have HBB := Lib.hid hbb
  obtain ⟨c, hc⟩ : ∃ c, chkC d xs = c := ⟨_, rfl⟩
  obtain ⟨t, htt⟩ : ∃ t, textR d xs = t := ⟨_, rfl⟩
  obtain ⟨s, hs⟩ : ∃ s, sameC xs ys = s := ⟨_, rfl⟩
  have HC := Lib.hid hc; have HTT := Lib.hid htt; have HS := Lib.hid hs
  clear ht hfit hma hmb hra hrb hba hbb hc htt hs hd
  go_enter Tryd.func3, Tryd.ntmps3
  go_wp2_with fail
  refine (textP_any d a ca xs _ HT.out HMA.out HRA.out HBA.out HF.out c HC.out t HTT.out).mono ?_
  rintro e w1 ⟨rfl, hB1⟩
  go_wp2_with fail
  refine (textRef_any d a ca xs _ (HT.out.below hB1) HMA.out (HRA.out.below hB1) HBA.out HF.out c HC.out t HTT.out).mono ?_
  rintro e w2 ⟨rfl, hb2⟩
  have hB2 := hB1.trans (hb2.mono hB1.size)
  go_wp2_with fail
  refine (check_any d a ca xs _ HMA.out (HRA.out.below hB2) HBA.out).mono ?_
  rintro e w3 ⟨rfl, hb3⟩
  rw [HC.out]
  have hB3 := hB2.trans (hb3.mono hB2.size)
  go_wp2_with fail
  refine (chkRef_is d a ca xs _ HMA.out (HRA.out.below hB3) HBA.out c HC.out).mono ?_
  rintro e w4 ⟨rfl, hb4⟩
  have hB4 := hB3.trans (hb4.mono hB3.size)
  go_wp2_with fail
  refine (sameP_any a b ca cb xs ys _ HMA.out HMB.out (HRA.out.below hB4) (HRB.out.below hB4) s HS.out).mono ?_
  rintro e w5 ⟨rfl, hb5⟩
  have hB5 := hB4.trans (hb5.mono hB4.size)
  go_wp2_with fail
  refine (sameRef_any a b ca cb xs ys _ HMA.out HMB.out (HRA.out.below hB5) (HRB.out.below hB5) s HS.out).mono ?_
  rintro e w6 ⟨rfl, hb6⟩
  have hB6 := hB5.trans (hb6.mono hB5.size)
  go_wp2_with fail
  refine (sameP_any a a ca ca xs xs _ HMA.out HMA.out (HRA.out.below hB6) (HRA.out.below hB6) true (same_refl _)).mono ?_
  rintro e w7 ⟨rfl, hb7⟩
  have hB7 := hB6.trans (hb7.mono hB6.size)
  go_wp2_with fail
  refine (awake_any _ (HT.out.below hB7)).mono ?_
  rintro e w8 ⟨rfl, hb8⟩
  go_wp2
  go_ret
  exact ⟨by simp, hB7.trans (hb8.mono hB7.size)⟩
end Go.Proofs.YtkekldebklghoaaDoor
