/-
  THE CELLS LAYER: Then of the reference.
-/
import Derived.Test.YtkekldebklghoaaDoorCellsOfRow
import Derived.Deep.AppendLies
namespace Go.Proofs.YtkekldebklghoaaDoor
open Go.RowKit
set_option linter.unusedVariables false

def thenC (xs ys : List Cl) : List Cl := ys.map (ofC xs)
def thenR (d : Int) (xs ys : List Cl) : List Cl := if chk2C d xs ys = 0 then thenC xs ys else []
theorem then_length {xs ys : List Cl} {n : Nat} (h2 : ys.length = n) : (thenC xs ys).length = n := by simp [thenC, h2]
theorem then_snoc {xs ys : List Cl} {k : Nat} {y : Cl} (hy : ys[k]? = some y) : (thenC xs ys).take (k + 1) = (thenC xs ys).take k ++ [ofC xs y] := by
  have h : (thenC xs ys)[k]? = some (ofC xs y) := by simp [thenC, hy]
  obtain ⟨hk, e⟩ := List.getElem?_eq_some_iff.1 h
  rw [List.take_succ_eq_append_getElem hk, e]
theorem three_below {w w' : World} {B q : Nat} {o2 : Nat} {u0 u1 u2 : Value} (hb : Below B w w') (hq : q < B)
    (h : w.cell? ⟨q, o2, none⟩ = some u0 ∧ w.cell? ⟨q, o2 + 1, none⟩ = some u1 ∧ w.cell? ⟨q, o2 + 2, none⟩ = some u2) :
    w'.cell? ⟨q, o2, none⟩ = some u0 ∧ w'.cell? ⟨q, o2 + 1, none⟩ = some u1 ∧ w'.cell? ⟨q, o2 + 2, none⟩ = some u2 := by
  obtain ⟨b0, b1, b2⟩ := h
  exact ⟨(hb.cell (p := ⟨q, _, none⟩) hq).trans b0, (hb.cell (p := ⟨q, _, none⟩) hq).trans b1, (hb.cell (p := ⟨q, _, none⟩) hq).trans b2⟩

set_option maxRecDepth 100000 in
set_option maxHeartbeats 2000000 in
theorem thenRef_any (d : Int) (a b : Option Addr) (capa capb : Nat) (xs ys : List Cl) (w : World) (hma : xs.length ≤ maxLen) (hmb : ys.length ≤ maxLen) (hra : CRow w a xs) (hrb : CRow w b ys) (hba : Bits xs) (hbb : Bits ys) (c : Int) (hc : chk2C d xs ys = c) :
    Calls Tryd.prog 26 #[.int .i64 d, .slice a xs.length capa, .slice b ys.length capb] w (CellsRet (thenR d xs ys) c w) := by
  have HMA := Lib.hid hma; have HMB := Lib.hid hmb; have HRA := Lib.hid hra; have HRB := Lib.hid hrb; have HBA := Lib.hid hba; have HBB := Lib.hid hbb
  have HC := Lib.hid hc
  clear hma hmb hra hrb hba hbb
  by_cases h0 : c = 0
  · subst h0
    obtain ⟨k1, k2⟩ := chk2C_zero hc
    obtain ⟨d0, d1, la, oka⟩ := chkC_zero k1
    obtain ⟨_, _, lb, okb⟩ := chkC_zero k2
    obtain ⟨n, rfl⟩ : ∃ n : Nat, d = n := ⟨d.toNat, by omega⟩
    have hla : xs.length = n := by omega
    have hlb : ys.length = n := by omega
    have HR := Lib.hid (show thenR n xs ys = thenC xs ys by simp [thenR, hc])
    have HN := Lib.hid (then_length (xs := xs) hlb)
    have OKA := Lib.hid oka; have OKB := Lib.hid okb
    have ga1 : n ≤ xs.length := by omega
    have gb1 : n ≤ ys.length := by omega
    have ga2 : xs.length ≤ n := by omega
    have gb2 : ys.length ≤ n := by omega
    have hn : n ≤ 64 := by omega
    obtain ⟨i0, hi, hz0, hz1, hz2⟩ := info_parts infoC
    clear hc k1 k2 d0 d1 la oka lb okb hla hlb
    go_enter Tryd.func26, Tryd.ntmps26
    go_wp2_with fail
    refine (checks_any _ a b capa capb xs ys _ HMA.out HMB.out HRA.out HRB.out HBA.out HBB.out 0 HC.out).mono ?_
    rintro e w1 ⟨rfl, hb1⟩
    go_wp2_with fail
    go_loopw [9, 10] (fun l i wr => ∃ k : Nat, k ≤ n ∧ i = .int .i64 k ∧ Hid (wr.ownsRow w.heap.size 51 3 l k (flat ((thenC xs ys).take k))) ∧ Below w.heap.size w wr) (fun _ i _ => n - (intOf i).toNat)
    case atStart => exact ⟨0, Nat.zero_le _, rfl, World.ownsRow_nil w1 w.heap.size _ 3, hb1⟩
    case round =>
      obtain ⟨k, hk, rfl, HO, hb⟩ := hrel
      by_cases hlt : k < n
      · obtain ⟨bb, offb, y, rfl, hy, hbb, b0, b1, b2⟩ := HRB.out.at_ (show k < ys.length by omega)
        have HF : Hid (_ ∧ _ ∧ _) := ⟨b0, b1, b2⟩
        clear b0 b1 b2
        obtain ⟨b0, b1, b2⟩ := three_below hb hbb HF.out
        have OY := Lib.hid (ok_get HBB.out OKB.out hy)
        have OAL : Hid (∀ (i : Nat) x, xs[i]? = some x → x.ok) := fun i x hi => ok_get HBA.out OKA.out hi
        obtain ⟨z, hz⟩ : ∃ z, ofC xs y = z := ⟨_, rfl⟩
        have HZ := Lib.hid (then_snoc (xs := xs) hy)
        rw [hz] at HZ
        have HJ := Lib.hid hz
        clear hy hz
        have g0 : (0 : Int) ≤ (k : Int) := by omega
        have g2 : (k : Int) < (ys.length : Int) := by omega
        go_wp2_with (first | (go_at_call 61; refine (ofRef_any a capa xs y _ (by omega) (HRA.out.below hb) OAL.out OY.out z HJ.out).mono ?_; rintro e w3 ⟨rfl, hb3⟩; have hB3 : Below w.heap.size w w3 := hb.trans (hb3.mono hb.size); have hown : Hid (w3.ownsRow w.heap.size 51 3 u9 k (flat ((thenC xs ys).take k))) := own_below (w := wr) HO.out hb3) | (at_builtin; go_loud (refine wpList_append_own _ rfl (.tmp 23) (.tmp 30) 22 rfl w.heap.size 51 i0 _ 3 24 Tryd.underlying22 hi hz0 hz1 hz2 rfl (by decide) u9 k (flat ((thenC xs ys).take k)) rfl (hown.out.alloc _) ⟨w3.heap.size, 0, none⟩ 1 1 [.int .u64 (z.f : Int), .int .i64 z.k, .int .i64 z.v] rfl rfl (World.news_of_block (cs := #[.int .u64 (z.f : Int), .int .i64 z.k, .int .i64 z.v]) (t := 51) (fr := (0, 0)) (heap_alloc_new w3 _)) (by simp [Value.oneCell']) (by unfold maxLen; omega) (by omega) (by have := hB3.size; simp; omega) ?_; intro v' w5 hown1 hgrow hnil; have hB4 : Below w.heap.size w w5 := (hB3.alloc hB3.size _).grown hgrow (by have := hB3.size; simp; omega) (fun j e => (hown.out.lt j e).1))))
        have HO2 : Hid (w5.ownsRow w.heap.size 51 3 v' (k + 1) (flat ((thenC xs ys).take (k + 1)))) := by rw [HZ.out, flat_snoc]; exact hown1
        clear hown1
        go_roundw
        case rel => exact ⟨k + 1, by omega, by go_num, HO2, hB4⟩
        case measure => simp [intOf]; omega
      · obtain rfl : n = k := by omega
        have HE : Hid (wr.ownsRow w.heap.size 51 3 u9 n (flat (thenR n xs ys))) := by
          have := HO.out
          rw [List.take_of_length_le (by rw [HN.out]; exact Nat.le_refl _)] at this
          rw [HR.out]; exact this
        go_wp2
        go_ret2
        exact cellsRet_own HE.out hb 0
  · have HR := Lib.hid (show thenR d xs ys = [] by simp [thenR, hc, h0])
    have hne : (c != 0) = true := by simpa using h0
    clear hc h0
    go_enter Tryd.func26, Tryd.ntmps26
    go_wp2_with fail
    refine (checks_any _ a b capa capb xs ys _ HMA.out HMB.out HRA.out HRB.out HBA.out HBB.out c HC.out).mono ?_
    rintro e w1 ⟨rfl, hb1⟩
    go_wp2
    go_ret2
    rw [HR.out]
    exact cellsRet_nil c hb1
end Go.Proofs.YtkekldebklghoaaDoor
