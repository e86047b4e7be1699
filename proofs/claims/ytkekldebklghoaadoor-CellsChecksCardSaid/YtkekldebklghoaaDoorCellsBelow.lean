/-
  THE CELLS LAYER: Below of the program and of the reference.
-/
import Derived.Test.YtkekldebklghoaaDoorCellsSame
namespace Go.Proofs.YtkekldebklghoaaDoor
open Go.RowKit
set_option linter.unusedVariables false

theorem rbi {b d : Bool} {k : IntKind} {a c : Int} (h : b = d) (h2 : a = c) : Ending.returned (.tuple #[.bool b, .int k a]) = .returned (.tuple #[.bool d, .int k c]) := by rw [h, h2]
def belowR (d : Int) (xs ys : List Cl) : Bool := if chk2C d xs ys = 0 then sameC (bothC xs ys) ys else false
theorem bothC_at {xs ys : List Cl} {i : Nat} {x y : Cl} (hx : xs[i]? = some x) (hy : ys[i]? = some y) : (bothC xs ys)[i]? = some (join x y) := by simp [bothC, List.getElem?_zipWith, hx, hy]

set_option maxRecDepth 100000 in
set_option maxHeartbeats 2000000 in
theorem belowP_any (d : Int) (a b : Option Addr) (capa capb : Nat) (xs ys : List Cl) (w : World) (hma : xs.length ≤ maxLen) (hmb : ys.length ≤ maxLen) (hra : CRow w a xs) (hrb : CRow w b ys) (hba : Bits xs) (hbb : Bits ys) (c : Int) (hc : chk2C d xs ys = c) (s : Bool) (hs : belowR d xs ys = s) :
    Calls Tryd.prog 23 #[.int .i64 d, .slice a xs.length capa, .slice b ys.length capb] w fun e w' => e = .returned (.tuple #[.bool s, .int .i64 c]) ∧ Below w.heap.size w w' := by
  have HMA := Lib.hid hma; have HMB := Lib.hid hmb; have HRA := Lib.hid hra; have HRB := Lib.hid hrb; have HBA := Lib.hid hba; have HBB := Lib.hid hbb
  have HC := Lib.hid hc
  clear hma hmb hra hrb hba hbb
  by_cases h0 : c = 0
  · subst h0
    obtain ⟨k1, k2, k3, k4⟩ := both_ok hc HBA.out HBB.out
    have K3 := Lib.hid k3; have K4 := Lib.hid k4
    have HS := Lib.hid (show sameC (bothC xs ys) ys = s by simpa [belowR, hc] using hs)
    have HL := Lib.hid (show (bothC xs ys).length = ys.length by simp [bothC, k2])
    have g1 : ys.length ≤ xs.length := by omega
    have g2 : xs.length ≤ ys.length := by omega
    have g5 : ys.length ≤ 64 := by omega
    clear hc k2 k3 k4 hs
    go_enter Tryd.func23, Tryd.ntmps23
    go_wp2_with fail
    refine (checkBoth_any _ a b capa capb xs ys _ HMA.out HMB.out HRA.out HRB.out HBA.out HBB.out 0 HC.out).mono ?_
    rintro e w1 ⟨rfl, hb1⟩
    go_wp2_with fail
    go_loopw [20] (fun i wr => ∃ k : Nat, k ≤ ys.length ∧ i = .int .i64 k ∧ Hid (∀ (j : Nat) x y, j < k → (bothC xs ys)[j]? = some x → ys[j]? = some y → x = y) ∧ Below w.heap.size w wr) (fun i _ => ys.length - (intOf i).toNat)
    case atStart => exact ⟨0, Nat.zero_le _, rfl, (fun j x y h => by omega), hb1⟩
    case round =>
      obtain ⟨k, hk, rfl, HE, hb⟩ := hrel
      by_cases hlt : k < ys.length
      · obtain ⟨ba, offa, x, rfl, hx, hba, a0, a1, a2⟩ := (HRA.out.below hb).at_ (show k < xs.length by omega)
        obtain ⟨bb, offb, y, rfl, hy, hbb, b0, b1, b2⟩ := (HRB.out.below hb).at_ hlt
        have g0 : (0 : Int) ≤ (k : Int) := by omega
        have g3 : (k : Int) < (xs.length : Int) := by omega
        have g4 : (k : Int) < (ys.length : Int) := by omega
        obtain ⟨z, hz⟩ : ∃ z, join x y = z := ⟨_, rfl⟩
        have OX := Lib.hid (K3.out k x hx)
        have OY := Lib.hid (K4.out k y hy)
        have HJ := Lib.hid hz
        have hbz := bothC_at hx hy
        rw [hz] at hbz
        cases hzy : sameCl z y
        · have hq : ∀ W, (binOp .neq 51 (.agg #[.int .u64 (z.f : Int), .int .i64 z.k, .int .i64 z.v]) (.agg #[.int .u64 (y.f : Int), .int .i64 y.k, .int .i64 y.v])).run Tryd.prog W = .ok (.bool true) W := fun W => neq_is z y false hzy W
          have HT : Hid (s = false) := HS.out.symm.trans (sameC_take HL.out (by rw [HL.out]; exact hlt) hbz hy hzy)
          clear hx hy hz hzy hbz
          go_wp2_with fail
          go_region_with (go_at_call 59; refine (joined_is x y z OX.out OY.out HJ.out _).mono ?_; rintro e w3 ⟨rfl, hb3⟩; have e0 := (hb3.cell (p := ⟨wr.heap.size, 0, none⟩) (by simp)).trans (show _ = some (.int .u64 (y.f : Int)) by simp [go_sem]); have e1 := (hb3.cell (p := ⟨wr.heap.size, 1, none⟩) (by simp)).trans (show _ = some (.int .i64 y.k) by simp [go_sem]); have e2 := (hb3.cell (p := ⟨wr.heap.size, 2, none⟩) (by simp)).trans (show _ = some (.int .i64 y.v) by simp [go_sem]))
          all_goals
            have hB3 : Below w.heap.size w w3 := hb.trans (Below.trans (by repeat (first | exact Below.refl _ _ | refine Below.drew ?_ | refine Below.alloc ?_ hb.size _)) (hb3.mono (by have := hb.size; simp; omega)))
            clear e0 e1 e2 hb3
            go_wp2
            go_ret2
            exact ⟨rbi HT.out.symm rfl, hB3⟩
        · have hq : ∀ W, (binOp .neq 51 (.agg #[.int .u64 (z.f : Int), .int .i64 z.k, .int .i64 z.v]) (.agg #[.int .u64 (y.f : Int), .int .i64 y.k, .int .i64 y.v])).run Tryd.prog W = .ok (.bool false) W := fun W => neq_is z y true hzy W
          have HE2 : Hid (∀ (j : Nat) x y, j < k + 1 → (bothC xs ys)[j]? = some x → ys[j]? = some y → x = y) := by
            intro j x' y' hj h1 h2
            by_cases e : j = k
            · subst e
              rw [hbz] at h1; rw [hy] at h2
              cases h1; cases h2
              exact sameCl_eq.1 hzy
            · exact HE.out j x' y' (by omega) h1 h2
          clear hx hy hz hzy hbz
          go_wp2_with fail
          go_region_with (go_at_call 59; refine (joined_is x y z OX.out OY.out HJ.out _).mono ?_; rintro e w3 ⟨rfl, hb3⟩; have e0 := (hb3.cell (p := ⟨wr.heap.size, 0, none⟩) (by simp)).trans (show _ = some (.int .u64 (y.f : Int)) by simp [go_sem]); have e1 := (hb3.cell (p := ⟨wr.heap.size, 1, none⟩) (by simp)).trans (show _ = some (.int .i64 y.k) by simp [go_sem]); have e2 := (hb3.cell (p := ⟨wr.heap.size, 2, none⟩) (by simp)).trans (show _ = some (.int .i64 y.v) by simp [go_sem]))
          all_goals
            have hB3 : Below w.heap.size w w3 := hb.trans (Below.trans (by repeat (first | exact Below.refl _ _ | refine Below.drew ?_ | refine Below.alloc ?_ hb.size _)) (hb3.mono (by have := hb.size; simp; omega)))
            clear e0 e1 e2 hb3
            go_wp2
            go_roundw
            case rel => exact ⟨k + 1, by omega, by go_num, HE2, hB3⟩
            case measure => simp [intOf]; omega
      · have HT : Hid (s = true) := by
          show s = true
          rw [← HS.out, sameC_iff]
          apply List.ext_getElem?
          intro i
          by_cases hi : i < ys.length
          · have h1 := List.getElem?_eq_getElem (show i < (bothC xs ys).length by rw [HL.out]; exact hi)
            have h2 := List.getElem?_eq_getElem hi
            rw [h1, h2, HE.out i _ _ (by omega) h1 h2]
          · rw [List.getElem?_eq_none (by rw [HL.out]; omega), List.getElem?_eq_none (by omega)]
        go_wp2
        go_ret2
        exact ⟨rbi HT.out.symm rfl, hb⟩
  · have HT : Hid (s = false) := hs.symm.trans (by simp [belowR, hc, h0])
    have hne : (c != 0) = true := by simpa using h0
    clear hc h0 hs
    go_enter Tryd.func23, Tryd.ntmps23
    go_wp2_with fail
    refine (checkBoth_any _ a b capa capb xs ys _ HMA.out HMB.out HRA.out HRB.out HBA.out HBB.out c HC.out).mono ?_
    rintro e w1 ⟨rfl, hb1⟩
    go_wp2
    go_ret2
    exact ⟨rbi HT.out.symm rfl, hb1⟩

theorem belowRef_any (d : Int) (a b : Option Addr) (capa capb : Nat) (xs ys : List Cl) (w : World) (hma : xs.length ≤ maxLen) (hmb : ys.length ≤ maxLen) (hra : CRow w a xs) (hrb : CRow w b ys) (hba : Bits xs) (hbb : Bits ys) (c : Int) (hc : chk2C d xs ys = c) (s : Bool) (hs : belowR d xs ys = s) :
    Calls Tryd.prog 24 #[.int .i64 d, .slice a xs.length capa, .slice b ys.length capb] w fun e w' => e = .returned (.tuple #[.bool s, .int .i64 c]) ∧ Below w.heap.size w w' := by
  have HMA := Lib.hid hma; have HMB := Lib.hid hmb; have HRA := Lib.hid hra; have HRB := Lib.hid hrb; have HBA := Lib.hid hba; have HBB := Lib.hid hbb
  have HC := Lib.hid hc
  have HMX : Hid ((bothR d xs ys).length ≤ maxLen) := by
    have h : (bothR d xs ys).length ≤ xs.length := by unfold bothR; split <;> simp [bothC]; omega
    exact Nat.le_trans h hma
  clear hma hmb hra hrb hba hbb
  by_cases h0 : c = 0
  · subst h0
    have HS := Lib.hid (show sameC (bothR d xs ys) ys = s by simpa [belowR, bothR, hc] using hs)
    clear hc hs
    go_enter Tryd.func24, Tryd.ntmps24
    go_wp2_with fail
    refine (bothRef_any _ a b capa capb xs ys _ HMA.out HMB.out HRA.out HRB.out HBA.out HBB.out 0 HC.out).mono ?_
    rintro e w1 ⟨a2, cap2, rfl, hr2, hf2, hb1⟩
    have HR2 := Lib.hid hr2
    clear hr2 hf2
    go_wp2_with fail
    refine (sameRef_any a2 b cap2 capb (bothR d xs ys) ys _ HMX.out HMB.out HR2.out (HRB.out.below hb1) s HS.out).mono ?_
    rintro e w2 ⟨rfl, hb2⟩
    go_wp2
    go_ret2
    exact ⟨rfl, hb1.trans (hb2.mono hb1.size)⟩
  · have HT : Hid (s = false) := hs.symm.trans (by simp [belowR, hc, h0])
    have hne : (c != 0) = true := by simpa using h0
    clear hc h0 hs
    go_enter Tryd.func24, Tryd.ntmps24
    go_wp2_with fail
    refine (bothRef_any _ a b capa capb xs ys _ HMA.out HMB.out HRA.out HRB.out HBA.out HBB.out c HC.out).mono ?_
    rintro e w1 ⟨a2, cap2, rfl, hr2, hf2, hb1⟩
    clear hr2 hf2
    go_wp2
    go_ret2
    exact ⟨rbi HT.out.symm rfl, hb1⟩
end Go.Proofs.YtkekldebklghoaaDoor
