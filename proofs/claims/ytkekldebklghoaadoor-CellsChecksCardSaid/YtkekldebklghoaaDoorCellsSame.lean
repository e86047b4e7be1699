/-
  THE CELLS LAYER: Same of the reference, and slices.Equal.
-/
import Derived.Test.YtkekldebklghoaaDoorCellsEq
namespace Go.Proofs.YtkekldebklghoaaDoor
open Go.RowKit
set_option linter.unusedVariables false

set_option maxRecDepth 100000 in
set_option maxHeartbeats 2000000 in
theorem sameRef_any (a b : Option Addr) (capa capb : Nat) (xs ys : List Cl) (w : World) (hm : xs.length ≤ maxLen) (hmb : ys.length ≤ maxLen) (hra : CRow w a xs) (hrb : CRow w b ys) (s : Bool) (hs : sameC xs ys = s) :
    Calls Tryd.prog 19 #[.slice a xs.length capa, .slice b ys.length capb] w fun e w' => e = .returned (.bool s) ∧ Below w.heap.size w w' := by
  unfold maxLen at hm hmb
  have HRA := Lib.hid hra; have HRB := Lib.hid hrb; have HS := Lib.hid hs
  clear hra hrb hs
  by_cases hl : xs.length = ys.length
  · have g1 : xs.length ≤ ys.length := by omega
    have g2 : ys.length ≤ xs.length := by omega
    have hne : ((xs.length : Int) != (ys.length : Int)) = false := by simp; omega
    have HL := Lib.hid hl
    clear hl
    go_enter Tryd.func19, Tryd.ntmps19
    go_wp2
    go_loopw [5] (fun i wr => ∃ k : Nat, k ≤ xs.length ∧ i = .int .i64 k ∧ Hid (∀ (j : Nat) x y, j < k → xs[j]? = some x → ys[j]? = some y → x = y) ∧ Below w.heap.size w wr) (fun i _ => xs.length - (intOf i).toNat)
    case atStart => exact ⟨0, Nat.zero_le _, rfl, (fun j x y h => by omega), Below.refl _ _⟩
    case round =>
      obtain ⟨k, hk, rfl, HE, hb⟩ := hrel
      by_cases hlt : k < xs.length
      · obtain ⟨ba, offa, x, rfl, hx, hba, a0, a1, a2⟩ := (HRA.out.below hb).at_ hlt
        obtain ⟨bb, offb, y, rfl, hy, hbb, b0, b1, b2⟩ := (HRB.out.below hb).at_ (show k < ys.length by omega)
        have g0 : (0 : Int) ≤ (k : Int) := by omega
        have g3 : (k : Int) < (xs.length : Int) := by omega
        have g4 : (k : Int) < (ys.length : Int) := by omega
        cases hxy : sameCl x y
        · have hq : ∀ W, (binOp .neq 51 (.agg #[.int .u64 (x.f : Int), .int .i64 x.k, .int .i64 x.v]) (.agg #[.int .u64 (y.f : Int), .int .i64 y.k, .int .i64 y.v])).run Tryd.prog W = .ok (.bool true) W := fun W => neq_is x y false hxy W
          have HT : Hid (s = false) := HS.out.symm.trans (sameC_take HL.out hlt hx hy hxy)
          clear hx hy hxy
          go_wp2
          go_quiet (fail)
          go_wp2
          go_ret
          exact ⟨rbool HT.out.symm, below_drewN hb _⟩
        · have hq : ∀ W, (binOp .neq 51 (.agg #[.int .u64 (x.f : Int), .int .i64 x.k, .int .i64 x.v]) (.agg #[.int .u64 (y.f : Int), .int .i64 y.k, .int .i64 y.v])).run Tryd.prog W = .ok (.bool false) W := fun W => neq_is x y true hxy W
          have HE2 : Hid (∀ (j : Nat) x y, j < k + 1 → xs[j]? = some x → ys[j]? = some y → x = y) := by
            intro j x' y' hj h1 h2
            by_cases e : j = k
            · subst e
              rw [hx] at h1; rw [hy] at h2
              cases h1; cases h2
              exact sameCl_eq.1 hxy
            · exact HE.out j x' y' (by omega) h1 h2
          clear hx hy hxy
          go_wp2
          go_quiet (fail)
          go_wp2
          go_roundw
          case rel => exact ⟨k + 1, by omega, by go_num, HE2, below_drewN hb _⟩
          case measure => simp [intOf]; omega
      · have HT : Hid (s = true) := by
          show s = true
          rw [← HS.out, sameC_iff]
          apply List.ext_getElem?
          intro i
          by_cases hi : i < xs.length
          · have h1 := List.getElem?_eq_getElem hi
            have h2 := List.getElem?_eq_getElem (show i < ys.length by omega)
            rw [h1, h2, HE.out i _ _ (by omega) h1 h2]
          · rw [List.getElem?_eq_none (by omega), List.getElem?_eq_none (by omega)]
        go_wp2
        go_ret
        exact ⟨rbool HT.out.symm, hb⟩
  · have HT : Hid (s = false) := by
      show s = false
      rw [← HS.out]; simp [sameC, hl]
    have hne : ((xs.length : Int) != (ys.length : Int)) = true := by simp; omega
    clear hl
    go_enter Tryd.func19, Tryd.ntmps19
    go_wp2
    go_ret
    exact ⟨rbool HT.out.symm, Below.refl _ _⟩
set_option maxRecDepth 100000 in
set_option maxHeartbeats 2000000 in
theorem equal_any (a b : Option Addr) (capa capb : Nat) (xs ys : List Cl) (w : World) (hm : xs.length ≤ maxLen) (hmb : ys.length ≤ maxLen) (hra : CRow w a xs) (hrb : CRow w b ys) (s : Bool) (hs : sameC xs ys = s) :
    Calls Tryd.prog 54 #[.slice a xs.length capa, .slice b ys.length capb] w fun e w' => e = .returned (.bool s) ∧ Below w.heap.size w w' := by
  unfold maxLen at hm hmb
  have HRA := Lib.hid hra; have HRB := Lib.hid hrb; have HS := Lib.hid hs
  clear hra hrb hs
  by_cases hl : xs.length = ys.length
  · have g1 : xs.length ≤ ys.length := by omega
    have g2 : ys.length ≤ xs.length := by omega
    have hne : ((xs.length : Int) != (ys.length : Int)) = false := by simp; omega
    have HL := Lib.hid hl
    clear hl
    go_enter Tryd.func54, Tryd.ntmps54
    go_wp2
    go_loopw [13] (fun i wr => ∃ k : Nat, k ≤ xs.length ∧ i = .int .i64 k ∧ Hid (∀ (j : Nat) x y, j < k → xs[j]? = some x → ys[j]? = some y → x = y) ∧ Below w.heap.size w wr) (fun i _ => xs.length - (intOf i).toNat)
    case atStart => exact ⟨0, Nat.zero_le _, rfl, (fun j x y h => by omega), Below.refl _ _⟩
    case round =>
      obtain ⟨k, hk, rfl, HE, hb⟩ := hrel
      by_cases hlt : k < xs.length
      · obtain ⟨ba, offa, x, rfl, hx, hba, a0, a1, a2⟩ := (HRA.out.below hb).at_ hlt
        obtain ⟨bb, offb, y, rfl, hy, hbb, b0, b1, b2⟩ := (HRB.out.below hb).at_ (show k < ys.length by omega)
        have g0 : (0 : Int) ≤ (k : Int) := by omega
        have g3 : (k : Int) < (xs.length : Int) := by omega
        have g4 : (k : Int) < (ys.length : Int) := by omega
        cases hxy : sameCl x y
        · have hq : ∀ W, (binOp .neq 51 (.agg #[.int .u64 (x.f : Int), .int .i64 x.k, .int .i64 x.v]) (.agg #[.int .u64 (y.f : Int), .int .i64 y.k, .int .i64 y.v])).run Tryd.prog W = .ok (.bool true) W := fun W => neq_is x y false hxy W
          have HT : Hid (s = false) := HS.out.symm.trans (sameC_take HL.out hlt hx hy hxy)
          clear hx hy hxy
          go_wp2
          go_quiet (fail)
          go_wp2
          go_ret
          exact ⟨rbool HT.out.symm, below_drewN hb _⟩
        · have hq : ∀ W, (binOp .neq 51 (.agg #[.int .u64 (x.f : Int), .int .i64 x.k, .int .i64 x.v]) (.agg #[.int .u64 (y.f : Int), .int .i64 y.k, .int .i64 y.v])).run Tryd.prog W = .ok (.bool false) W := fun W => neq_is x y true hxy W
          have HE2 : Hid (∀ (j : Nat) x y, j < k + 1 → xs[j]? = some x → ys[j]? = some y → x = y) := by
            intro j x' y' hj h1 h2
            by_cases e : j = k
            · subst e
              rw [hx] at h1; rw [hy] at h2
              cases h1; cases h2
              exact sameCl_eq.1 hxy
            · exact HE.out j x' y' (by omega) h1 h2
          clear hx hy hxy
          go_wp2
          go_quiet (fail)
          go_wp2
          go_roundw
          case rel => exact ⟨k + 1, by omega, by go_num, HE2, below_drewN hb _⟩
          case measure => simp [intOf]; omega
      · have HT : Hid (s = true) := by
          show s = true
          rw [← HS.out, sameC_iff]
          apply List.ext_getElem?
          intro i
          by_cases hi : i < xs.length
          · have h1 := List.getElem?_eq_getElem hi
            have h2 := List.getElem?_eq_getElem (show i < ys.length by omega)
            rw [h1, h2, HE.out i _ _ (by omega) h1 h2]
          · rw [List.getElem?_eq_none (by omega), List.getElem?_eq_none (by omega)]
        go_wp2
        go_ret
        exact ⟨rbool HT.out.symm, hb⟩
  · have HT : Hid (s = false) := by
      show s = false
      rw [← HS.out]; simp [sameC, hl]
    have hne : ((xs.length : Int) != (ys.length : Int)) = true := by simp; omega
    clear hl
    go_enter Tryd.func54, Tryd.ntmps54
    go_wp2
    go_ret
    exact ⟨rbool HT.out.symm, Below.refl _ _⟩
end Go.Proofs.YtkekldebklghoaaDoor
