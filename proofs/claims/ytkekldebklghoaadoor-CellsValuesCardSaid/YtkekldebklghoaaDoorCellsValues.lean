/-
  THE CELLS LAYER: the law CellsValues's walk. (Written by wip/algebra.py.)
-/
import Derived.Test.YtkekldebklghoaaDoorCellsHelp
namespace Go.Proofs.YtkekldebklghoaaDoor
open Go.RowKit
set_option linter.unusedVariables false

/-- Are all values? -/
def valB (xs : List Cl) : Bool := xs.all fun c => c.f == 0
theorem valB_at {xs : List Cl} (h : valB xs = true) {i : Nat} {c : Cl} (hi : xs[i]? = some c) : c.f = 0 := by
  have := List.all_eq_true.1 h c (List.mem_of_getElem? hi)
  simpa using this
theorem valB_then {n : Nat} {xs zs : List Cl} (hx : Val n xs) (h : valB xs = true) : valB (thenC xs zs) = true := by
  have key : ∀ (c : Cl) m, (ofTo xs c m).f = 0 := by
    intro c m
    induction m with
    | zero => rfl
    | succ m ih =>
      rw [ofTo_succ, ofStep]
      split
      · split
        · rename_i a ha
          show (if _ = 2 then 0 else _ ||| _) = 0
          rw [ih, valB_at h ha]; simp
        · exact ih
      · exact ih
  unfold valB thenC
  rw [List.all_map, List.all_eq_true]
  intro c hc
  simp [ofC, key]
theorem below_then {n : Nat} {xs ys zs : List Cl} (hx : Val n xs) (hy : Val n ys) (hz : Val n zs) (h : belowR n xs ys = true) : belowR n (thenC xs zs) (thenC ys zs) = true := by
  unfold belowR at h ⊢
  rw [if_pos (hx.chk2 hy)] at h
  rw [if_pos ((val_then hx hz).chk2 (val_then hy hz)), sameC_iff, ← both_then hx hy hz, sameC_iff.1 h]

theorem values_any (a : Option Addr) (cap : Nat) (xs : List Cl) (w : World) (hm : xs.length ≤ maxLen) (hra : CRow w a xs) (hba : Bits xs) (t : Bool) (ht : valB xs = t) :
    Calls Tryd.prog 40 #[.slice a xs.length cap] w fun e w' => e = .returned (.bool t) ∧ w = w' := by
  unfold maxLen at hm
  have HRA := Lib.hid hra; have HB := Lib.hid hba; have HTT := Lib.hid ht
  clear hra hba ht
  go_enter Tryd.func40, Tryd.ntmps40
  go_wp2_with fail
  go_loopw [3] (fun i wr => ∃ k : Nat, k ≤ xs.length ∧ i = .int .i64 k ∧ Hid (valB (xs.take k) = true) ∧ w = wr) (fun i _ => xs.length - (intOf i).toNat)
  case atStart => exact ⟨0, Nat.zero_le _, rfl, rfl, rfl⟩
  case round =>
    obtain ⟨k, hk, rfl, HV, rfl⟩ := hrel
    by_cases hlt : k < xs.length
    · obtain ⟨bb, offb, y, rfl, hy, hbb, b0, b1, b2⟩ := HRA.out.at_ hlt
      have g0 : (0 : Int) ≤ (k : Int) := by omega
      have g1 : (k : Int) < (xs.length : Int) := by omega
      by_cases h0 : y.f = 0
      · have hne : ((y.f : Int) != 0) = false := by simp [h0]
        have hn2 : (y.f : Int) = 0 := by omega
        have HV2 := Lib.hid (take_all_succ (p := fun c : Cl => c.f == 0) hy HV.out (by simp [h0]))
        clear hy h0
        go_wp2
        go_roundw
        case rel => exact ⟨k + 1, by omega, by go_num, HV2, trivial⟩
        case measure => simp [intOf]; omega
      · have hne : ((y.f : Int) != 0) = true := by simp; omega
        have HF : Hid (t = false) := by show _ = _; rw [← HTT.out]; exact all_false hy (by simpa using h0)
        clear hy h0
        go_wp2
        go_ret
        exact ⟨by rw [HF.out]; rfl, rfl⟩
    · have HF : Hid (t = true) := by
        show _ = _
        rw [← HTT.out]
        have := HV.out
        rw [List.take_of_length_le (by omega)] at this
        exact this
      go_wp2
      go_ret
      exact ⟨by rw [HF.out]; rfl, rfl⟩

set_option maxRecDepth 100000 in
set_option maxHeartbeats 1000000 in
theorem cellsValues_walk (d : Int) (a : Option Addr) (la ca : Nat) (xs : List Cl) (b : Option Addr) (lb cb : Nat) (ys : List Cl) (c : Option Addr) (lc cc : Nat) (zs : List Cl) (w : World) (hd : (Lit.int .i64 d).wf = true) (ha : IsCells w a la ca xs) (hb : IsCells w b lb cb ys) (hc : IsCells w c lc cc zs) (ht : Tabs w) :
    Calls Tryd.prog 9 #[.int .i64 d, .slice a la ca, .slice b lb cb, .slice c lc cc] w fun e w' => e = .returned (.bool true) ∧ Below w.heap.size w w' := by
  obtain ⟨rfl, hma, hra, hba⟩ := ha
  obtain ⟨rfl, hmb, hrb, hbb⟩ := hb
  obtain ⟨rfl, hmc, hrc, hbc⟩ := hc
  have HT := Lib.hid ht
  have HMA := Lib.hid hma; have HMB := Lib.hid hmb; have HMC := Lib.hid hmc; have HRA := Lib.hid hra; have HRB := Lib.hid hrb; have HRC := Lib.hid hrc; have HBA := Lib.hid hba; have HBB := Lib.hid hbb; have HBC := Lib.hid hbc
  clear ht hd hma hmb hmc hra hrb hrc hba hbb hbc
  obtain ⟨t, ht⟩ : ∃ t, threeB' d xs ys zs = t := ⟨_, rfl⟩
  have HTH := Lib.hid ht
  clear ht
  cases t
  · go_enter Tryd.func9, Tryd.ntmps9
    go_wp2_with fail
    refine (awake_any _ HT.out).mono ?_
    rintro e w1 ⟨rfl, hB1⟩
    go_wp2_with fail
    refine (three_any d a b c ca cb cc xs ys zs _ HMA.out HMB.out HMC.out (HRA.out.below hB1) (HRB.out.below hB1) (HRC.out.below hB1) HBA.out HBB.out HBC.out false HTH.out).mono ?_
    rintro e w2 ⟨rfl, hb2⟩
    go_wp2
    go_ret
    exact ⟨rfl, hB1.trans (hb2.mono hB1.size)⟩
  · obtain ⟨n, rfl, vx, vy, vz⟩ := three_yes HTH.out
    have VX := Lib.hid vx; have VY := Lib.hid vy; have VZ := Lib.hid vz
    have hle := vx.le
    clear vx vy vz
    go_enter Tryd.func9, Tryd.ntmps9
    go_wp2_with fail
    refine (awake_any _ HT.out).mono ?_
    rintro e w1 ⟨rfl, hB1⟩
    go_wp2_with fail
    refine (three_any n a b c ca cb cc xs ys zs _ HMA.out HMB.out HMC.out (HRA.out.below hB1) (HRB.out.below hB1) (HRC.out.below hB1) HBA.out HBB.out HBC.out true HTH.out).mono ?_
    rintro e w2 ⟨rfl, hb2⟩
    have hB2 := hB1.trans (hb2.mono hB1.size)
    go_wp2_with fail
    refine (thenL_is (a := a) (b := c) (ca := ca) (cb := cc) (HT.out.below hB2) VX.out VZ.out (HRA.out.below hB2) (HRC.out.below hB2)).mono ?_
    rintro e w3 ⟨a3, c3, rfl, hr3, hb3⟩
    have HR3 := Lib.hid hr3
    clear hr3
    have V3 := Lib.hid (val_then VX.out VZ.out)
    have hB3 := hB2.trans (hb3.mono hB2.size)
    go_wp2_with fail
    refine (thenL_is (a := b) (b := c) (ca := cb) (cb := cc) (HT.out.below hB3) VY.out VZ.out (HRB.out.below hB3) (HRC.out.below hB3)).mono ?_
    rintro e w4 ⟨a4, c4, rfl, hr4, hb4⟩
    have HR4 := Lib.hid hr4
    clear hr4
    have V4 := Lib.hid (val_then VY.out VZ.out)
    have hB4 := hB3.trans (hb4.mono hB3.size)
    have T3_4 := hb4
    have HL1 : Hid (((thenC xs zs).length : Int) = n) := by show _ = _; rw [V3.out.len]
    have HL2 : Hid (((thenC ys zs).length : Int) = n) := by show _ = _; rw [V4.out.len]
    have hl1 : (((thenC xs zs).length : Int) != (n : Int)) = false := by rw [HL1.out]; simp
    have hl2 : (((thenC ys zs).length : Int) != (n : Int)) = false := by rw [HL2.out]; simp
    obtain ⟨va, hva⟩ : ∃ v, valB xs = v := ⟨_, rfl⟩
    have HVA := Lib.hid hva
    obtain ⟨p, hp⟩ : ∃ p, belowR n xs ys = p := ⟨_, rfl⟩
    obtain ⟨q, hq⟩ : ∃ q, belowR n (thenC xs zs) (thenC ys zs) = q := ⟨_, rfl⟩
    have HP := Lib.hid hp
    have HQ := Lib.hid hq
    have HPQ : Hid (p = true → q = true) := fun h => by rw [← HQ.out]; exact below_then VX.out VY.out VZ.out (by rw [HP.out, h])
    clear hva hp hq
    have KX := Lib.hid (HR3.out.below T3_4)
    have KY := Lib.hid HR4.out
    have KA := Lib.hid (HRA.out.below hB4)
    have KB := Lib.hid (HRB.out.below hB4)
    cases va
    · go_wp2_with fail
      refine (values_any a ca xs _ HMA.out KA.out HBA.out false HVA.out).mono ?_
      rintro e w' ⟨rfl, rfl⟩
      go_wp2_with fail
      refine (belowP_any n a b ca cb xs ys _ HMA.out HMB.out KA.out KB.out HBA.out HBB.out 0 (VX.out.chk2 VY.out) p HP.out).mono ?_
      rintro e wp ⟨rfl, hbp⟩
      have hBp := hB4.trans (hbp.mono hB4.size)
      go_wp2_with fail
      refine (belowP_any n a3 a4 c3 c4 _ _ _ V3.out.max V4.out.max (KX.out.below hbp) (KY.out.below hbp) V3.out.bits V4.out.bits 0 (V3.out.chk2 V4.out) q HQ.out).mono ?_
      rintro e wq ⟨rfl, hbq⟩
      have hBq := hBp.trans (hbq.mono hBp.size)
      cases p
      · go_wp2
        go_ret
        exact ⟨by rfl, hBq⟩
      · obtain rfl : q = true := HPQ.out rfl
        go_wp2
        go_ret
        exact ⟨by rfl, hBq⟩
    · go_wp2_with fail
      refine (values_any a ca xs _ HMA.out KA.out HBA.out true HVA.out).mono ?_
      rintro e w' ⟨rfl, rfl⟩
      go_wp2_with fail
      refine (values_any a3 c3 _ _ V3.out.max KX.out V3.out.bits true (valB_then VX.out HVA.out)).mono ?_
      rintro e w' ⟨rfl, rfl⟩
      go_wp2_with fail
      refine (belowP_any n a b ca cb xs ys _ HMA.out HMB.out KA.out KB.out HBA.out HBB.out 0 (VX.out.chk2 VY.out) p HP.out).mono ?_
      rintro e wp ⟨rfl, hbp⟩
      have hBp := hB4.trans (hbp.mono hB4.size)
      go_wp2_with fail
      refine (belowP_any n a3 a4 c3 c4 _ _ _ V3.out.max V4.out.max (KX.out.below hbp) (KY.out.below hbp) V3.out.bits V4.out.bits 0 (V3.out.chk2 V4.out) q HQ.out).mono ?_
      rintro e wq ⟨rfl, hbq⟩
      have hBq := hBp.trans (hbq.mono hBp.size)
      cases p
      · go_wp2
        go_ret
        exact ⟨by rfl, hBq⟩
      · obtain rfl : q = true := HPQ.out rfl
        go_wp2
        go_ret
        exact ⟨by rfl, hBq⟩
end Go.Proofs.YtkekldebklghoaaDoor
