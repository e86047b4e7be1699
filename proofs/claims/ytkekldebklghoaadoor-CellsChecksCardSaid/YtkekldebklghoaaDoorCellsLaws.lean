/-
  THE CELLS LAYER: the laws' walks: CellsBoth, CellsThen, CellsMakes.
-/
import Derived.Test.YtkekldebklghoaaDoorCellsAwake
import Derived.Test.YtkekldebklghoaaDoorCellsBelow
namespace Go.Proofs.YtkekldebklghoaaDoor
open Go.RowKit
set_option linter.unusedVariables false

/-- A slice of cells that is handed in. -/
structure IsCells (w : World) (a : Option Addr) (len cap : Nat) (xs : List Cl) : Prop where
  len : len = xs.length
  max : xs.length ≤ maxLen
  row : CRow w a xs
  bits : Bits xs
theorem same_refl (xs : List Cl) : sameC xs xs = true := sameC_iff.2 rfl
theorem bothR_max {d : Int} {xs ys : List Cl} (h : xs.length ≤ maxLen) : (bothR d xs ys).length ≤ maxLen := by
  unfold bothR
  split
  · simp [bothC]; omega
  · simp
theorem thenR_max {d : Int} {xs ys : List Cl} (h : ys.length ≤ maxLen) : (thenR d xs ys).length ≤ maxLen := by
  unfold thenR
  split
  · simp [thenC]; omega
  · simp
theorem unitR_max (d : Int) (h : dimC d = 0 → d ≤ 64) : (unitR d).length ≤ maxLen := by
  unfold unitR
  split
  · rename_i h2; have := h h2; simp [unit_length]; unfold maxLen; omega
  · simp
theorem dim_le (d : Int) (h : dimC d = 0) : d ≤ 64 := by obtain ⟨n, rfl, hn⟩ := dim_nat h; omega
theorem putR_max (d i : Int) (c : Cl) : (putR d i c).length ≤ maxLen := by
  unfold putR
  split
  · rename_i h2
    have h3 : dimC d = 0 := by
      unfold putE at h2
      by_cases h4 : dimC d = 0
      · exact h4
      · rw [if_pos h4] at h2; exact absurd h2 h4
    have := dim_le d h3
    simp [unit_length]; unfold maxLen; omega
  · simp
theorem copyR_max (d i f : Int) : (copyR d i f).length ≤ maxLen := by
  unfold copyR
  split
  · exact putR_max _ _ _
  · simp

set_option maxRecDepth 100000 in
set_option maxHeartbeats 2000000 in
theorem cellsBoth_walk (d : Int) (a : Option Addr) (la ca : Nat) (xs : List Cl) (b : Option Addr) (lb cb : Nat) (ys : List Cl) (w : World) (hd : (Lit.int .i64 d).wf = true) (ha : IsCells w a la ca xs) (hb : IsCells w b lb cb ys) (ht : Tabs w) :
    Calls Tryd.prog 4 #[.int .i64 d, .slice a la ca, .slice b lb cb] w fun e w' => e = .returned (.bool true) ∧ Below w.heap.size w w' := by
  obtain ⟨rfl, hma, hra, hba⟩ := ha
  obtain ⟨rfl, hmb, hrb, hbb⟩ := hb
  have HT := Lib.hid ht
  have HMA := Lib.hid hma; have HMB := Lib.hid hmb; have HRA := Lib.hid hra; have HRB := Lib.hid hrb; have HBA := Lib.hid hba; have HBB := Lib.hid hbb
  obtain ⟨c, hc⟩ : ∃ c, chk2C d xs ys = c := ⟨_, rfl⟩
  obtain ⟨s, hs⟩ : ∃ s, belowR d xs ys = s := ⟨_, rfl⟩
  have HC := Lib.hid hc; have HS := Lib.hid hs
  have HM := Lib.hid (bothR_max (d := d) (ys := ys) hma)
  clear ht hma hmb hra hrb hba hbb hc hs
  go_enter Tryd.func4, Tryd.ntmps4
  go_wp2_with fail
  refine (bothP_any d a b ca cb xs ys _ HMA.out HMB.out HRA.out HRB.out HBA.out HBB.out c HC.out).mono ?_
  rintro e w1 ⟨a1, c1, rfl, hr1, hf1, hb1⟩
  have HR1 := Lib.hid hr1
  clear hr1 hf1
  go_wp2_with fail
  refine (bothRef_any d a b ca cb xs ys _ HMA.out HMB.out (HRA.out.below hb1) (HRB.out.below hb1) HBA.out HBB.out c HC.out).mono ?_
  rintro e w2 ⟨a2, c2, rfl, hr2, hf2, hb2⟩
  have HR2 := Lib.hid hr2
  clear hr2 hf2
  have hB2 := hb1.trans (hb2.mono hb1.size)
  go_wp2_with fail
  refine (belowP_any d a b ca cb xs ys _ HMA.out HMB.out (HRA.out.below hB2) (HRB.out.below hB2) HBA.out HBB.out c HC.out s HS.out).mono ?_
  rintro e w3 ⟨rfl, hb3⟩
  have hB3 := hB2.trans (hb3.mono hB2.size)
  go_wp2_with fail
  refine (belowRef_any d a b ca cb xs ys _ HMA.out HMB.out (HRA.out.below hB3) (HRB.out.below hB3) HBA.out HBB.out c HC.out s HS.out).mono ?_
  rintro e w4 ⟨rfl, hb4⟩
  have hB4 := hB3.trans (hb4.mono hB3.size)
  have h24 := hb3.trans (hb4.mono hb3.size)
  have h14 := hb2.trans (h24.mono hb2.size)
  go_wp2_with (first | (go_at_call 19; refine (sameRef_any a1 a2 c1 c2 _ _ _ HM.out HM.out (HR1.out.below h14) (HR2.out.below h24) true (same_refl _)).mono ?_; rintro e w5 ⟨rfl, hb5⟩; have hB5 := hB4.trans (hb5.mono hB4.size)) | (go_at_call 20; refine (awake_any _ (HT.out.below hB5)).mono ?_; rintro e w6 ⟨rfl, hb6⟩; have hB6 := hB5.trans (hb6.mono hB5.size)))
  go_ret
  exact ⟨by simp, hB6⟩

set_option maxRecDepth 100000 in
set_option maxHeartbeats 2000000 in
theorem cellsThen_walk (d : Int) (a : Option Addr) (la ca : Nat) (xs : List Cl) (b : Option Addr) (lb cb : Nat) (ys : List Cl) (w : World) (hd : (Lit.int .i64 d).wf = true) (ha : IsCells w a la ca xs) (hb : IsCells w b lb cb ys) (ht : Tabs w) :
    Calls Tryd.prog 5 #[.int .i64 d, .slice a la ca, .slice b lb cb] w fun e w' => e = .returned (.bool true) ∧ Below w.heap.size w w' := by
  obtain ⟨rfl, hma, hra, hba⟩ := ha
  obtain ⟨rfl, hmb, hrb, hbb⟩ := hb
  have HT := Lib.hid ht
  have HMA := Lib.hid hma; have HMB := Lib.hid hmb; have HRA := Lib.hid hra; have HRB := Lib.hid hrb; have HBA := Lib.hid hba; have HBB := Lib.hid hbb
  obtain ⟨c, hc⟩ : ∃ c, chk2C d xs ys = c := ⟨_, rfl⟩
  have HC := Lib.hid hc
  have HM := Lib.hid (thenR_max (d := d) (xs := xs) hmb)
  clear ht hma hmb hra hrb hba hbb hc
  go_enter Tryd.func5, Tryd.ntmps5
  go_wp2_with fail
  refine (then_any d a b ca cb xs ys _ HT.out HMA.out HMB.out HRA.out HRB.out HBA.out HBB.out c HC.out).mono ?_
  rintro e w1 ⟨a1, c1, rfl, hr1, hf1, hb1⟩
  have HR1 := Lib.hid hr1
  clear hr1 hf1
  go_wp2_with fail
  refine (thenRef_any d a b ca cb xs ys _ HMA.out HMB.out (HRA.out.below hb1) (HRB.out.below hb1) HBA.out HBB.out c HC.out).mono ?_
  rintro e w2 ⟨a2, c2, rfl, hr2, hf2, hb2⟩
  have HR2 := Lib.hid hr2
  clear hr2 hf2
  have hB2 := hb1.trans (hb2.mono hb1.size)
  go_wp2_with (first | (go_at_call 19; refine (sameRef_any a1 a2 c1 c2 _ _ _ HM.out HM.out (HR1.out.below hb2) HR2.out true (same_refl _)).mono ?_; rintro e w5 ⟨rfl, hb5⟩; have hB5 := hB2.trans (hb5.mono hB2.size)) | (go_at_call 20; refine (awake_any _ (HT.out.below hB5)).mono ?_; rintro e w6 ⟨rfl, hb6⟩; have hB6 := hB5.trans (hb6.mono hB5.size)))
  go_ret
  exact ⟨by simp, hB6⟩
end Go.Proofs.YtkekldebklghoaaDoor
