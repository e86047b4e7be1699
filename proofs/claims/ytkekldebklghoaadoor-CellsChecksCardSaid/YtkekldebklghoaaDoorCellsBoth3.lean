/-
  THE CELLS LAYER: Both, Same, Below of the program and of the reference.
-/
import Derived.Test.YtkekldebklghoaaDoorCellsBoth2
namespace Go.Proofs.YtkekldebklghoaaDoor
open Go.RowKit
set_option linter.unusedVariables false

theorem both_ok {d : Int} {xs ys : List Cl} (h : chk2C d xs ys = 0) (hx : Bits xs) (hy : Bits ys) :
    xs.length ≤ 64 ∧ ys.length = xs.length ∧ (∀ (i : Nat) c, xs[i]? = some c → c.ok) ∧ (∀ (i : Nat) c, ys[i]? = some c → c.ok) := by
  obtain ⟨k1, k2⟩ := chk2C_zero h
  obtain ⟨d0, d1, la, oka⟩ := chkC_zero k1
  obtain ⟨_, _, lb, okb⟩ := chkC_zero k2
  exact ⟨by omega, by omega, fun i c hi => ok_get hx oka hi, fun i c hi => ok_get hy okb hi⟩

theorem bothP_any (d : Int) (a b : Option Addr) (capa capb : Nat) (xs ys : List Cl) (w : World) (hma : xs.length ≤ maxLen) (hmb : ys.length ≤ maxLen) (hra : CRow w a xs) (hrb : CRow w b ys) (hba : Bits xs) (hbb : Bits ys) (c : Int) (hc : chk2C d xs ys = c) :
    Calls Tryd.prog 21 #[.int .i64 d, .slice a xs.length capa, .slice b ys.length capb] w (CellsRet (bothR d xs ys) c w) := by
  have HMA := Lib.hid hma; have HMB := Lib.hid hmb; have HRA := Lib.hid hra; have HRB := Lib.hid hrb; have HBA := Lib.hid hba; have HBB := Lib.hid hbb
  have HC := Lib.hid hc
  clear hma hmb hra hrb hba hbb
  by_cases h0 : c = 0
  · subst h0
    obtain ⟨k1, k2, k3, k4⟩ := both_ok hc HBA.out HBB.out
    have K2 := Lib.hid k2; have K3 := Lib.hid k3; have K4 := Lib.hid k4
    have HR := Lib.hid (show bothR d xs ys = bothC xs ys by simp [bothR, hc])
    clear hc k2 k3 k4
    go_enter Tryd.func21, Tryd.ntmps21
    go_wp2_with fail
    refine (checkBoth_any _ a b capa capb xs ys _ HMA.out HMB.out HRA.out HRB.out HBA.out HBB.out 0 HC.out).mono ?_
    rintro e w1 ⟨rfl, hb1⟩
    go_wp2_with fail
    refine (both_any a b capa capb xs ys _ k1 K2.out (HRA.out.below hb1) (HRB.out.below hb1) K3.out K4.out).mono ?_
    rintro e w2 ⟨v, rfl, hown, hb2⟩
    have HO := Lib.hid hown
    clear hown
    go_wp2
    go_ret2
    rw [HR.out]
    obtain ⟨_, a2, cap2, rfl, hr2, hf2⟩ := crow_of_own HO.out
    exact ⟨a2, cap2, rfl, hr2, fun ad e => ⟨Nat.le_trans hb1.size (hf2 ad e).1, (hf2 ad e).2.2⟩, hb1.trans (hb2.mono hb1.size)⟩
  · have HR := Lib.hid (show bothR d xs ys = [] by simp [bothR, hc, h0])
    have hne : (c != 0) = true := by simpa using h0
    clear hc h0
    go_enter Tryd.func21, Tryd.ntmps21
    go_wp2_with fail
    refine (checkBoth_any _ a b capa capb xs ys _ HMA.out HMB.out HRA.out HRB.out HBA.out HBB.out c HC.out).mono ?_
    rintro e w1 ⟨rfl, hb1⟩
    go_wp2
    go_ret2
    rw [HR.out]
    exact cellsRet_nil c hb1

/-! Same -/
def sameCl (x y : Cl) : Bool := decide (x.f = y.f) && decide (x.k = y.k) && decide (x.v = y.v)
theorem sameCl_eq {x y : Cl} : sameCl x y = true ↔ x = y := by
  obtain ⟨f, k, v⟩ := x; obtain ⟨f2, k2, v2⟩ := y
  simp [sameCl, and_assoc]
def sameC (xs ys : List Cl) : Bool := if xs.length = ys.length then (List.range xs.length).all fun i => match xs[i]?, ys[i]? with | some x, some y => sameCl x y | _, _ => true else false
theorem sameC_iff {xs ys : List Cl} : sameC xs ys = true ↔ xs = ys := by
  unfold sameC
  split
  · rename_i hl
    rw [List.all_eq_true]
    constructor
    · intro h
      apply List.ext_getElem? 
      intro i
      by_cases hi : i < xs.length
      · have := h i (List.mem_range.2 hi)
        rw [List.getElem?_eq_getElem hi, List.getElem?_eq_getElem (hl ▸ hi)] at this ⊢
        simp only at this
        rw [sameCl_eq.1 this]
      · rw [List.getElem?_eq_none (by omega), List.getElem?_eq_none (by omega)]
    · rintro rfl i hi
      have hi := List.mem_range.1 hi
      rw [List.getElem?_eq_getElem hi]
      exact sameCl_eq.2 rfl
  · rename_i hl
    simp
    intro e; exact hl (by rw [e])
theorem sameC_take {xs ys : List Cl} {k : Nat} {x y : Cl} (hl : xs.length = ys.length) (hk : k < xs.length) (hx : xs[k]? = some x) (hy : ys[k]? = some y) (h : sameCl x y = false) : sameC xs ys = false := by
  cases hs : sameC xs ys
  · rfl
  · rw [sameC_iff] at hs
    subst hs
    rw [hx] at hy
    cases hy
    rw [sameCl_eq.2 rfl] at h; cases h
end Go.Proofs.YtkekldebklghoaaDoor
