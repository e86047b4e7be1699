import Derived.Test.YtjcminoaiieckaaGreatDoorRows
import Derived.Lib.LaidTab
import Derived.Lib.ItoaNum
import Derived.Lib.TrailingZeros
import Derived.Stop.LaidErr
import Derived.WalkSmall
import Derived.LaidMore
import Derived.WalkKit
import Derived.Shelf.Spec.TrailingZeros
import Derived.Test.YtjcminoaiieckaaGreatDoorProg
import Derived.Laws.BitsAllLaws
import Derived.Laws.Bits64
import Derived.Lib.Hide
import Derived.Deep.QuietTactic
import Derived.BigQuiet
import Derived.RegionTactic
import Derived.BigRegion
import Derived.Deep.RegionHeld3
import Derived.ChangeAlike
import Derived.RangeFuncNested
import Derived.RangeFuncBound
import Derived.RangeFuncCalls
import Derived.RangeFuncLeaves
import Derived.Shelf.Abstract
import Derived.Shelf.RegionOpen
import Derived.OwnWalkIn
import Derived.TacticsInMore
import Derived.LoopNIn
import Derived.LoopIn
import Derived.Maps.AppendAt
import Derived.Deep.AppendLies
import Derived.Laws.Bits128
import Derived.Below
import Derived.Shelf.Strings.Builder1
import Derived.Shelf.Strings.Builder2
import Derived.Shelf.Strings.OnBuilder
import Derived.Shelf.Strconv.Itoa0
import Derived.Shelf.Strconv.Itoa1
import Derived.Shelf.LaysM
import Derived.Shelf.Strconv.Itoa2
import Derived.Shelf.Strconv.Itoa3
import Derived.Shelf.Strconv.Itoa4
import Derived.Shelf.Strings.Search1
import Derived.Shelf.Strings.Search2
import Derived.Shelf.Strings.Search3
import Derived.Shelf.Strings.Cut
import Derived.Shelf.Strings.Count
import Derived.Shelf.Strings.Shaped
import Derived.Shelf.Strconv.AppendUint10
import Derived.Shelf.Strconv.AppendInt10
import Derived.Shelf.Strconv.AppendIntPublic10
import Derived.Shelf.Unicode.DecodeSlow
import Derived.Lib.OthersKept
import Derived.Laws.IdiomStrings
import Derived.StillTailTactics
import Derived.Deep.RegionLaw
import Derived.Deep.DeepCutAuto
import Derived.Deep.CutRange
import Derived.Deep.RegionWith
import Derived.Laws.Bits64b
import Derived.Lib.SliceRun
import Derived.Laws.OwnMore
import Derived.OwnWalk
import Derived.WalkSpells
import Derived.Lib.Join
import Derived.Deep.DrawnRows
import Derived.Orders
import Derived.Deep.RegionHeld
import Derived.KernelRfl
import Derived.Laws.Rows
import Derived.Laws.AppendOwn
import Derived.Laws.Strings
import Derived.Laws.Small
import Derived.IntWalk
import Derived.Laws.Tables
import Derived.Laws.Concat
import Derived.Laws.MakeOwn
import Derived.Test.YtjcminoaiieckaaGreatDoorRingA
set_option linter.unusedVariables false
set_option linter.unusedSimpArgs false
set_option linter.unusedSectionVars false
set_option linter.unnecessarySimpa false
namespace Go.Proofs.YtjcminoaiieckaaGreatDoor
open Go.RowKit
set_option linter.unusedVariables false
theorem flat_cells {w : World} {b off : Nat} {cs : List Cl} (h : ∀ i c, cs[i]? = some c → w.cell? ⟨b, off + i * 3, none⟩ = some (.int .u64 (c.f : Int)) ∧ w.cell? ⟨b, off + i * 3 + 1, none⟩ = some (.int .i64 c.k) ∧ w.cell? ⟨b, off + i * 3 + 2, none⟩ = some (.int .i64 c.v)) :
    ∀ j u, (flat cs)[j]? = some u → w.cell? ((⟨b, off, none⟩ : Addr).add j) = some u := by
  intro j u hj
  have hlt : j < cs.length * 3 := by rw [← flat_length]; exact (List.getElem?_eq_some_iff.1 hj).1
  obtain ⟨i, r, hr, rfl⟩ : ∃ i r, r < 3 ∧ j = i * 3 + r := ⟨j / 3, j % 3, by omega, by omega⟩
  have hi : i < cs.length := by omega
  obtain ⟨h0, h1, h2⟩ := h i cs[i] (List.getElem?_eq_getElem hi)
  obtain ⟨f0, f1, f2⟩ := flat_at (List.getElem?_eq_getElem hi)
  have e : ((⟨b, off, none⟩ : Addr).add (i * 3 + r)) = ⟨b, off + (i * 3 + r), none⟩ := by
    simp only [Addr.add]; split <;> simp_all
  rw [e]
  match r, hr with
  | 0, _ => rw [Nat.add_zero] at hj ⊢; rw [f0] at hj; rw [h0]; exact hj
  | 1, _ => rw [f1] at hj; rw [← Nat.add_assoc, h1]; exact hj
  | 2, _ => rw [f2] at hj; rw [← Nat.add_assoc, h2]; exact hj
theorem crow_news {w : World} {ad : Addr} {cs : List Cl} (h : CRow w (some ad) cs) : ∀ j u, (flat cs)[j]? = some u → w.cell? (ad.add j) = some u := by
  rcases h with h | ⟨b, off, e, hc⟩
  · subst h; intro j u hj; simp [flat] at hj
  · cases e; exact flat_cells hc
theorem flat_one (cs : List Cl) : ∀ u ∈ flat cs, u.oneCell' = true := by
  intro u hu
  simp only [flat, List.mem_flatMap, vals] at hu
  obtain ⟨c, _, hu⟩ := hu
  simp at hu
  rcases hu with rfl | rfl | rfl <;> rfl

set_option maxRecDepth 100000 in
set_option maxHeartbeats 1000000 in
theorem clone_any (a : Option Addr) (cap : Nat) (cs : List Cl) (w : World) (hm : cs.length ≤ 64) (hrow : CRow w a cs) :
    Calls Tryz.prog 83 #[.slice a cs.length cap] w (CellsRet1 cs w) := by
  obtain ⟨i0, hi, hz0, hz1, hz2⟩ := info_parts infoC
  have q22 : ∀ (w : World) (a : Option Addr) (n c n' c' : Nat), (binOp .eql 30 (.slice a n c) (.slice none n' c')).run Tryz.prog w = .ok (.bool a.isNone) w := fun w a n c n' c' => Lib.run_eql_slice_nil w _ _ a n c n' c' Tryz.underlying30
  cases a with
  | none =>
    have hcs : cs = [] := by
      rcases hrow with h | ⟨b, off, e, _⟩
      · exact h
      · cases e
    subst hcs
    clear hrow
    go_enter Tryz.func83, Tryz.ntmps83
    go_wp2
    go_ret
    exact ⟨_, rfl, World.ownsRow_nil _ _ _ _, Below.refl _ _⟩
  | some ad =>
    have HN := Lib.hid (fun (o : Obj) => crow_news (hrow.below ((Below.refl _ w).alloc (Nat.le_refl _) o)))
    have hown : (w.alloc (.cells #[] 73)).ownsRow w.heap.size 73 3 (.slice (some ⟨w.heap.size, 0, none⟩) 0 0) 0 [] := World.ownsRow_lit w #[] 0 (Nat.le_refl _) (by simp) rfl
    have HO := Lib.hid hown
    clear hrow hown
    go_enter Tryz.func83, Tryz.ntmps83
    go_wp2_with (at_builtin; refine wpList_append_own _ rfl (.tmp 5) (.tmp 6) 30 rfl w.heap.size 73 i0 _ 3 24 Tryz.underlying30 hi hz0 hz1 hz2 rfl (by decide) _ _ _ rfl HO.out ad cs.length cap (flat cs) rfl (flat_length cs) (HN.out _) (flat_one cs) (by unfold maxLen; omega) (by omega) (by simp) ?_; intro v' w2 hown2 hgrow hnil)
    go_ret
    refine ⟨v', rfl, by simpa using hown2, ?_⟩
    exact ((Below.refl _ _).alloc (Nat.le_refl _) _).grown hgrow (by simp) (fun j e => by cases e; exact Nat.le_refl _)

theorem own_store3 {w : World} {base g n cap k : Nat} {E : Nat} {cs : List Cl} (h : w.ownsRow base E 3 (.slice (some ⟨g, 0, none⟩) n cap) n (flat cs)) (hk : k < cs.length) (z : Cl) :
    (((w.setCell ⟨g, k * 3, none⟩ (.int .u64 (z.f : Int))).setCell ⟨g, k * 3 + 1, none⟩ (.int .i64 z.k)).setCell ⟨g, k * 3 + 2, none⟩ (.int .i64 z.v)).ownsRow base E 3 (.slice (some ⟨g, 0, none⟩) n cap) n (flat (cs.set k z)) := by
  rw [← flat_set cs k z hk]
  exact ((((h.stored (k * 3) _).1.stored (k * 3 + 1) _).1.stored (k * 3 + 2) _).1)
theorem mix_step {xs ys : List Cl} {k : Nat} {x y z : Cl} (hx : xs[k]? = some x) (hy : ys[k]? = some y) (hz : join x y = z) : (((bothC xs ys).take k ++ xs.drop k).set k z) = (bothC xs ys).take (k + 1) ++ xs.drop (k + 1) := by
  obtain ⟨hk, ex⟩ := List.getElem?_eq_some_iff.1 hx
  obtain ⟨hk2, ey⟩ := List.getElem?_eq_some_iff.1 hy
  have hl : ((bothC xs ys).take k).length = k := by simp [bothC]; omega
  rw [zip_snoc hx hy, hz, List.set_append_right _ _ (by omega), hl, Nat.sub_self, List.drop_eq_getElem_cons hk, List.set_cons_zero, List.append_assoc]
  rfl
theorem mix_at {xs ys : List Cl} {k : Nat} {x y : Cl} (hx : xs[k]? = some x) (hy : ys[k]? = some y) : ((bothC xs ys).take k ++ xs.drop k)[k]? = some x := by
  obtain ⟨hk, ex⟩ := List.getElem?_eq_some_iff.1 hx
  obtain ⟨hk2, ey⟩ := List.getElem?_eq_some_iff.1 hy
  have hl : ((bothC xs ys).take k).length = k := by simp [bothC]; omega
  rw [List.getElem?_append_right (by omega), hl, Nat.sub_self, List.getElem?_drop, Nat.add_zero, hx]
theorem mix_len {xs ys : List Cl} {k : Nat} (hl : ys.length = xs.length) (hk : k ≤ xs.length) : ((bothC xs ys).take k ++ xs.drop k).length = xs.length := by simp [bothC]; omega

set_option maxRecDepth 100000 in
set_option maxHeartbeats 2000000 in
theorem both_any (a b : Option Addr) (capa capb : Nat) (xs ys : List Cl) (w : World) (hm : xs.length ≤ 64) (hl : ys.length = xs.length) (hra : CRow w a xs) (hrb : CRow w b ys) (hoa : ∀ (i : Nat) c, xs[i]? = some c → c.ok) (hob : ∀ (i : Nat) c, ys[i]? = some c → c.ok) :
    Calls Tryz.prog 116 #[.slice a xs.length capa, .slice b ys.length capb] w (CellsRet1 (bothC xs ys) w) := by
  have HRA := Lib.hid hra; have HRB := Lib.hid hrb; have HOA := Lib.hid hoa; have HOB := Lib.hid hob; have HL := Lib.hid hl
  have g1 : ys.length ≤ xs.length := by omega
  have g2 : xs.length ≤ ys.length := by omega
  clear hra hrb hoa hob hl
  go_enter Tryz.func116, Tryz.ntmps116
  go_wp2_with fail
  refine (clone_any a capa xs _ hm HRA.out).mono ?_
  rintro e w1 ⟨v, rfl, hown1, hb1⟩
  have HO1 := Lib.hid hown1
  clear hown1
  go_wp2_with fail
  go_loopw [12] (fun i wr => ∃ k : Nat, k ≤ xs.length ∧ i = .int .i64 k ∧ Hid (wr.ownsRow w.heap.size 73 3 v xs.length (flat ((bothC xs ys).take k ++ xs.drop k))) ∧ Below w.heap.size w wr) (fun i _ => xs.length - (intOf i).toNat)
  case atStart => exact ⟨0, Nat.zero_le _, rfl, HO1.out, hb1⟩
  case round =>
    obtain ⟨k, hk, rfl, HO, hb⟩ := hrel
    by_cases hlt : k < xs.length
    · obtain ⟨bb, offb, y, rfl, hy, hbb, b0, b1, b2⟩ := HRB.out.at_ (show k < ys.length by omega)
      obtain ⟨x, hx⟩ : ∃ x, xs[k]? = some x := ⟨_, List.getElem?_eq_getElem hlt⟩
      have c0 := (hb.cell (p := ⟨bb, offb + k * 3, none⟩) hbb).trans b0
      have c1 := (hb.cell (p := ⟨bb, offb + k * 3 + 1, none⟩) hbb).trans b1
      have c2 := (hb.cell (p := ⟨bb, offb + k * 3 + 2, none⟩) hbb).trans b2
      clear b0 b1 b2
      obtain ⟨z, hz⟩ : ∃ z, join x y = z := ⟨_, rfl⟩
      have OX := Lib.hid (HOA.out k x hx)
      have OY := Lib.hid (HOB.out k y hy)
      have HJ := Lib.hid hz
      have HM := Lib.hid (mix_step hx hy hz)
      have HA := Lib.hid (mix_at hx hy)
      have HLEN := Lib.hid (mix_len HL.out hk)
      clear hx hy hz
      obtain ⟨g, capg, hv, hbg, hgl⟩ := HO.out.form (show 0 < xs.length by omega)
      subst hv
      obtain ⟨f0, f1, f2⟩ := flat_at HA.out
      have d0 := (HO.out.cellAt (k * 3) (by omega)).trans f0
      have d1 := (HO.out.cellAt (k * 3 + 1) (by omega)).trans f1
      have d2 := (HO.out.cellAt (k * 3 + 2) (by omega)).trans f2
      have F0 := Lib.hid f0; have F1 := Lib.hid f1; have F2 := Lib.hid f2
      clear f0 f1 f2
      have g0 : (0 : Int) ≤ (k : Int) := by omega
      have g3 : (k : Int) < (xs.length : Int) := by omega
      have g4 : (k : Int) < (ys.length : Int) := by omega
      go_wp2_with fail
      go_region_with (go_at_call 142; refine (joined_is x y z OX.out OY.out HJ.out _).mono ?_; rintro e w3 ⟨rfl, hb3⟩; have hB3 : Below wr.heap.size wr w3 := Below.trans (by repeat (first | exact Below.refl _ _ | refine Below.drew ?_ | refine Below.alloc ?_ (Nat.le_refl _) _)) (hb3.mono (by simp)); have o3 := own_below HO.out hB3; have e0 := (o3.cellAt (k * 3) (by omega)).trans F0.out; have e1 := (o3.cellAt (k * 3 + 1) (by omega)).trans F1.out; have e2 := (o3.cellAt (k * 3 + 2) (by omega)).trans F2.out; have q0 := o3.frozenAt (k * 3); have q1 := o3.frozenAt (k * 3 + 1); have q2 := o3.frozenAt (k * 3 + 2); have O3 := Lib.hid o3; clear o3)
      all_goals
        have HS := Lib.hid (own_store3 O3.out (by rw [HLEN.out]; exact hlt) z)
        rw [HM.out] at HS
        have HB : Hid (Below w.heap.size w (((w3.setCell ⟨g, k * 3, none⟩ (.int .u64 (z.f : Int))).setCell ⟨g, k * 3 + 1, none⟩ (.int .i64 z.k)).setCell ⟨g, k * 3 + 2, none⟩ (.int .i64 z.v))) := (((hb.trans (hB3.mono hb.size)).setCell (p := ⟨g, k * 3, none⟩) hbg _).setCell (p := ⟨g, k * 3 + 1, none⟩) hbg _).setCell (p := ⟨g, k * 3 + 2, none⟩) hbg _
        clear e0 e1 e2 q0 q1 q2 O3
        go_wp2
        go_roundw
        case rel => exact ⟨k + 1, by omega, by go_num, HS, HB.out⟩
        case measure => simp [intOf]; omega
    · obtain rfl : k = xs.length := by omega
      have HE : Hid (wr.ownsRow w.heap.size 73 3 v (bothC xs ys).length (flat (bothC xs ys))) := by
        have h := HO.out
        have hlen : (bothC xs ys).length = xs.length := by simp [bothC, HL.out]
        rw [List.take_of_length_le (by omega), List.drop_of_length_le (Nat.le_refl _), List.append_nil] at h
        rw [hlen]; exact h
      go_wp2
      go_ret
      exact ⟨v, rfl, HE.out, hb⟩
end Go.Proofs.YtjcminoaiieckaaGreatDoor
namespace Go.Proofs.YtjcminoaiieckaaGreatDoor
open Go.RowKit
set_option linter.unusedVariables false
theorem both_ok {d : Int} {xs ys : List Cl} (h : chk2C d xs ys = 0) (hx : Bits xs) (hy : Bits ys) :
    xs.length ≤ 64 ∧ ys.length = xs.length ∧ (∀ (i : Nat) c, xs[i]? = some c → c.ok) ∧ (∀ (i : Nat) c, ys[i]? = some c → c.ok) := by
  obtain ⟨k1, k2⟩ := chk2C_zero h
  obtain ⟨d0, d1, la, oka⟩ := chkC_zero k1
  obtain ⟨_, _, lb, okb⟩ := chkC_zero k2
  exact ⟨by omega, by omega, fun i c hi => ok_get hx oka hi, fun i c hi => ok_get hy okb hi⟩

theorem bothP_any (d : Int) (a b : Option Addr) (capa capb : Nat) (xs ys : List Cl) (w : World) (hma : xs.length ≤ maxLen) (hmb : ys.length ≤ maxLen) (hra : CRow w a xs) (hrb : CRow w b ys) (hba : Bits xs) (hbb : Bits ys) (c : Int) (hc : chk2C d xs ys = c) :
    Calls Tryz.prog 79 #[.int .i64 d, .slice a xs.length capa, .slice b ys.length capb] w (CellsRet (bothR d xs ys) c w) := by
  have HMA := Lib.hid hma; have HMB := Lib.hid hmb; have HRA := Lib.hid hra; have HRB := Lib.hid hrb; have HBA := Lib.hid hba; have HBB := Lib.hid hbb
  have HC := Lib.hid hc
  clear hma hmb hra hrb hba hbb
  by_cases h0 : c = 0
  · subst h0
    obtain ⟨k1, k2, k3, k4⟩ := both_ok hc HBA.out HBB.out
    have K2 := Lib.hid k2; have K3 := Lib.hid k3; have K4 := Lib.hid k4
    have HR := Lib.hid (show bothR d xs ys = bothC xs ys by simp [bothR, hc])
    clear hc k2 k3 k4
    go_enter Tryz.func79, Tryz.ntmps79
    go_wp2_with fail
    refine (checkBoth_any _ a b capa capb xs ys _ HMA.out HMB.out HRA.out HRB.out HBA.out HBB.out 0 HC.out).mono ?_
    rintro e w1 ⟨rfl, hb1⟩
    go_wp2_with fail
    refine (both_any a b capa capb xs ys _ k1 K2.out (HRA.out.below hb1) (HRB.out.below hb1) K3.out K4.out).mono ?_
    rintro e w2 ⟨v, rfl, hown, hb2⟩
    have HO := Lib.hid hown
    clear hown
    go_wp2
    go_ret2
    rw [HR.out]
    obtain ⟨_, a2, cap2, rfl, hr2, hf2⟩ := crow_of_own HO.out
    exact ⟨a2, cap2, rfl, hr2, fun ad e => ⟨Nat.le_trans hb1.size (hf2 ad e).1, (hf2 ad e).2.2⟩, hb1.trans (hb2.mono hb1.size)⟩
  · have HR := Lib.hid (show bothR d xs ys = [] by simp [bothR, hc, h0])
    have hne : (c != 0) = true := by simpa using h0
    clear hc h0
    go_enter Tryz.func79, Tryz.ntmps79
    go_wp2_with fail
    refine (checkBoth_any _ a b capa capb xs ys _ HMA.out HMB.out HRA.out HRB.out HBA.out HBB.out c HC.out).mono ?_
    rintro e w1 ⟨rfl, hb1⟩
    go_wp2
    go_ret2
    rw [HR.out]
    exact cellsRet_nil c hb1

def sameCl (x y : Cl) : Bool := decide (x.f = y.f) && decide (x.k = y.k) && decide (x.v = y.v)
end Go.Proofs.YtjcminoaiieckaaGreatDoor
namespace Go.Proofs.YtjcminoaiieckaaGreatDoor
open Go.RowKit
set_option linter.unusedVariables false
theorem run_neq_cell (f f2 : Nat) (k k2 v v2 : Int) (w : World) :
    (binOp .neq 73 (.agg #[.int .u64 (f : Int), .int .i64 k, .int .i64 v]) (.agg #[.int .u64 (f2 : Int), .int .i64 k2, .int .i64 v2])).run Tryz.prog w = .ok (.bool (!sameCl ⟨f, k, v⟩ ⟨f2, k2, v2⟩)) w := by
  by_cases h1 : f = f2
  · subst h1
    by_cases h2 : k = k2
    · subst h2
      by_cases h3 : v = v2
      · subst h3
        simp [sameCl, go_sem]
      · have h3' : (v == v2) = false := by simp [h3]
        simp [sameCl, go_sem, h3]
    · simp [sameCl, go_sem, h2]
  · simp [sameCl, go_sem, h1]
    intro h; omega
theorem neq_is (x y : Cl) (s : Bool) (h : sameCl x y = s) (w : World) : (binOp .neq 73 x.val y.val).run Tryz.prog w = .ok (.bool (!s)) w := by
  subst h; exact run_neq_cell _ _ _ _ _ _ w
end Go.Proofs.YtjcminoaiieckaaGreatDoor
namespace Go.Proofs.YtjcminoaiieckaaGreatDoor
open Go.RowKit
set_option linter.unusedVariables false
def ofStep (row : List Cl) (c : Cl) (out : Cl) (i : Nat) : Cl := if c.f.testBit i then (match row[i]? with | some a => join out a | none => out) else out
def ofTo (row : List Cl) (c : Cl) (n : Nat) : Cl := (List.range n).foldl (ofStep row c) ⟨0, c.k, c.v⟩
def ofC (row : List Cl) (c : Cl) : Cl := ofTo row c row.length
theorem ofTo_succ (row : List Cl) (c : Cl) (n : Nat) : ofTo row c (n + 1) = ofStep row c (ofTo row c n) n := by
  simp [ofTo, List.range_succ]
theorem ofTo_yes {row : List Cl} {c x : Cl} {n : Nat} (hb : c.f.testBit n = true) (hx : row[n]? = some x) : ofTo row c (n + 1) = join (ofTo row c n) x := by
  rw [ofTo_succ, ofStep, if_pos hb, hx]
theorem ofTo_no {row : List Cl} {c : Cl} {n : Nat} (hb : c.f.testBit n = false) : ofTo row c (n + 1) = ofTo row c n := by
  rw [ofTo_succ, ofStep, if_neg (by rw [hb]; simp)]
theorem ofTo_skip {row : List Cl} {c : Cl} {k : Nat} : ∀ {n : Nat}, k ≤ n → (∀ i, k ≤ i → i < n → c.f.testBit i = false) → ofTo row c n = ofTo row c k
  | 0, h, _ => by
    obtain rfl : k = 0 := by omega
    rfl
  | n + 1, h, hb => by
    by_cases e : k = n + 1
    · subst e; rfl
    · rw [ofTo_no (hb n (by omega) (by omega))]
      exact ofTo_skip (by omega) (fun i h1 h2 => hb i h1 (by omega))
theorem kindOk_zero {f : Nat} {k v : Int} (h : kindOk f k v = true) : kindOk 0 k v = true := by
  unfold kindOk at *
  split
  · rw [if_pos (by assumption)] at h; exact h
  · rw [if_neg (by assumption)] at h
    split
    · rfl
    · rw [if_neg (by assumption)] at h
      split
      · rw [if_pos (by assumption)] at h; simp at h ⊢; exact h.1
      · rw [if_neg (by assumption)] at h; cases h
theorem join_ok {a b : Cl} (ha : a.ok) (hb : b.ok) : (join a b).ok := by
  obtain ⟨f, k, v⟩ := a
  obtain ⟨f2, k2, v2⟩ := b
  obtain ⟨hf, hk⟩ := ha
  obtain ⟨hf2, hk2⟩ := hb
  simp only at hf hk hf2 hk2
  have hor : f ||| f2 < 18446744073709551616 := Nat.or_lt_two_pow (n := 64) hf hf2
  refine ⟨?_, ?_⟩
  · show (if joinK k v k2 v2 = 2 then 0 else f ||| f2) < _
    split <;> omega
  · show kindOk (if joinK k v k2 v2 = 2 then 0 else f ||| f2) (joinK k v k2 v2) (joinV k v k2 v2) = true
    rcases kind_cases hk with ⟨rfl, rfl⟩ | rfl | ⟨rfl, rfl⟩ <;> rcases kind_cases hk2 with ⟨rfl, rfl⟩ | rfl | ⟨rfl, rfl⟩
    all_goals (try (simp [joinK, joinV, kindOk]; done))
    by_cases hv : v = v2 <;> simp [joinK, joinV, kindOk, hv]
theorem ofTo_ok {row : List Cl} {c : Cl} (hc : c.ok) (hr : ∀ (i : Nat) x, row[i]? = some x → x.ok) : ∀ n, (ofTo row c n).ok
  | 0 => ⟨by simp [ofTo], kindOk_zero hc.2⟩
  | n + 1 => by
    rw [ofTo_succ, ofStep]
    split
    · split
      · rename_i a h; exact join_ok (ofTo_ok hc hr n) (hr n a h)
      · exact ofTo_ok hc hr n
    · exact ofTo_ok hc hr n

theorem three_cells {w : World} {B : Nat} {a b c : Value} {T : Nat} (h : w.heap[B]? = some (.cells #[a, b, c] T (0, 0))) :
    w.cell? ⟨B, 0, none⟩ = some a ∧ w.cell? ⟨B, 1, none⟩ = some b ∧ w.cell? ⟨B, 2, none⟩ = some c ∧ (∀ j, w.frozen? ⟨B, j, none⟩ = false) := by
  refine ⟨by simp [World.cell?, h], by simp [World.cell?, h], by simp [World.cell?, h], fun j => by simp [World.frozen?, h]⟩
theorem three_set {w : World} {B : Nat} {a b c a' b' c' : Value} {T : Nat} (h : w.heap[B]? = some (.cells #[a, b, c] T (0, 0))) :
    (((w.setCell ⟨B, 0, none⟩ a').setCell ⟨B, 1, none⟩ b').setCell ⟨B, 2, none⟩ c').heap[B]? = some (.cells #[a', b', c'] T (0, 0)) := by
  simp [World.setCell, Array.getElem?_modify, h]
theorem three_other {w : World} {B D : Nat} {o : Option Obj} {a' b' c' : Value} (hne : D ≠ B) (h : w.heap[D]? = o) :
    (((w.setCell ⟨B, 0, none⟩ a').setCell ⟨B, 1, none⟩ b').setCell ⟨B, 2, none⟩ c').heap[D]? = o := by
  rw [Below.heap_setCell _ _ _ _ hne, Below.heap_setCell _ _ _ _ hne, Below.heap_setCell _ _ _ _ hne, h]
theorem block_lt {w : World} {B : Nat} {o : Obj} (h : w.heap[B]? = some o) : B < w.heap.size := (Array.getElem?_eq_some_iff.1 h).1
theorem block_stays {w w' : World} {B : Nat} {o : Obj} (h : w.heap[B]? = some o) (hb : Below w.heap.size w w') : w'.heap[B]? = some o := (hb.block B (block_lt h)).trans h
end Go.Proofs.YtjcminoaiieckaaGreatDoor
namespace Go.Proofs.YtjcminoaiieckaaGreatDoor
open Go.RowKit
set_option linter.unusedVariables false
theorem and_cast (a b : Nat) (ha : a < 18446744073709551616) (hb : b < 18446744073709551616) : bits .and .u64 (a : Int) (b : Int) = ((a &&& b : Nat) : Int) := bits_and_u64_nat a b ha hb

set_option maxRecDepth 100000 in
set_option maxHeartbeats 2000000 in
theorem ofRow_any (a : Option Addr) (cap : Nat) (row : List Cl) (c : Cl) (w : World) (ht : Tabs w) (hm : row.length ≤ 64) (hra : CRow w a row) (hok : ∀ (i : Nat) x, row[i]? = some x → x.ok) (hc : c.ok) (hin : ∀ i, c.f.testBit i = true → i < row.length) (z : Cl) (hz : ofC row c = z) :
    Calls Tryz.prog 121 #[c.val, .slice a row.length cap] w fun e w' => e = .returned z.val ∧ Below w.heap.size w w' := by
  have HT := Lib.hid ht
  have HRA := Lib.hid hra; have HOK := Lib.hid hok; have HC := Lib.hid hc; have HZ := Lib.hid hz; have HIN := Lib.hid hin
  have hf := hc.1
  clear hra hok hc hz ht hin
  go_enter Tryz.func121, Tryz.ntmps121
  go_wp2_with fail
  refine (value_any _ _ _ _).mono ?_
  rintro e w1 ⟨rfl, rfl⟩
  go_wp2_with fail
  go_loopw [6] (fun i wr => ∃ (k x : Nat) (o : Cl), k ≤ row.length ∧ x < 18446744073709551616 ∧ i = .int .u64 x ∧ Hid (∀ i, x.testBit i = (c.f.testBit i && decide (k ≤ i))) ∧ Hid (ofTo row c k = o) ∧ Hid (wr.heap[w.heap.size + 1]? = some (.cells #[.int .u64 0, .int .i64 0, .int .i64 0] 73 (0, 0))) ∧ Hid (wr.heap[w.heap.size + 1 + 1 + 1 + 1]? = some (.cells #[.int .u64 (o.f : Int), .int .i64 o.k, .int .i64 o.v] 73 (0, 0))) ∧ Below w.heap.size w wr) (fun i _ => (intOf i).toNat)
  case atStart =>
    refine ⟨0, c.f, ⟨0, c.k, c.v⟩, Nat.zero_le _, hf, rfl, (fun i => by simp), rfl, ?_, ?_, ((((((Below.refl _ _).alloc (Nat.le_refl _) _).alloc (by simp) _).alloc (by simp; omega) _).alloc (by simp; omega) _).alloc (by simp; omega) _)⟩
    · show _ = _
      rw [heap_alloc_old _ _ (by simp), heap_alloc_old _ _ (by simp), heap_alloc_old _ _ (by simp), show w.heap.size + 1 = (w.alloc (.cells #[.int .u64 (c.f : Int), .int .i64 c.k, .int .i64 c.v] 73)).heap.size by simp, heap_alloc_new]
    · show _ = _
      rw [show w.heap.size + 1 + 1 + 1 + 1 = ((((w.alloc (.cells #[.int .u64 (c.f : Int), .int .i64 c.k, .int .i64 c.v] 73)).alloc (.cells #[.int .u64 0, .int .i64 0, .int .i64 0] 73)).alloc (.cells #[.int .u64 0, .int .i64 c.k, .int .i64 c.v] 73)).alloc (.cells #[.int .u64 0, .int .i64 c.k, .int .i64 c.v] 73)).heap.size by simp, heap_alloc_new]
      rfl
  case round =>
    obtain ⟨k, x, o, hk, hx64, rfl, HX, HO, B1, B2, hb⟩ := hrel
    obtain ⟨o0, o1, o2, of⟩ := three_cells B2.out
    have o4 := of 0; have o5 := of 1; have o6 := of 2
    clear of
    by_cases hx0 : x = 0
    · have hall : ∀ i, k ≤ i → i < row.length → c.f.testBit i = false := fun i h1 _ => by
        have := HX.out i
        rw [hx0, Nat.zero_testBit] at this
        simp [h1] at this
        exact this
      have HE : Hid (o = z) := by show o = z; rw [← HO.out, ← HZ.out]; exact (ofTo_skip hk hall).symm
      have hx00 : (x : Int) = 0 := by omega
      subst hx0
      obtain ⟨d0, d1, d2, df⟩ := three_cells B1.out
      have d4 := df 0; have d5 := df 1; have d6 := df 2
      clear df hx00 hall
      go_wp2
      refine bodyPost_ret (v := .agg #[.int .u64 (o.f : Int), .int .i64 o.k, .int .i64 o.v]) ?_ rfl ⟨by rw [HE.out], ?_⟩
      · simp [results, Tryz.results121, go_sem, d0, d1, d2]
      · exact (((hb.setCell (p := ⟨w.heap.size + 1, 0, none⟩) (by simp) _).setCell (p := ⟨w.heap.size + 1, 1, none⟩) (by simp) _).setCell (p := ⟨w.heap.size + 1, 2, none⟩) (by simp) _)
    · obtain ⟨j, hj⟩ : ∃ j, Lib.ctz 64 x = j := ⟨_, rfl⟩
      have hbx : x.testBit j = true := by rw [← hj]; exact low_bit hx0 hx64
      have hbc : c.f.testBit j = true ∧ k ≤ j := by
        have := HX.out j
        rw [hbx] at this
        simpa using this.symm
      have hjr : j < row.length := HIN.out j hbc.1
      have hskip : ofTo row c j = o := by
        rw [ofTo_skip hbc.2 (fun i h1 h2 => ?_)]
        · exact HO.out
        · have h3 := HX.out i
          rw [low_none hx0 hx64 (by omega)] at h3
          simp [h1] at h3
          exact h3
      obtain ⟨ba, offa, y, rfl, hy, hba, a0, a1, a2⟩ := (HRA.out.below hb).at_ hjr
      obtain ⟨t, htt⟩ : ∃ t, join o y = t := ⟨_, rfl⟩
      have HN : Hid (ofTo row c (j + 1) = t) := (ofTo_yes hbc.1 hy).trans (by rw [hskip, htt])
      have OO : Hid o.ok := by rw [← HO.out]; exact ofTo_ok HC.out HOK.out k
      have OY := Lib.hid (HOK.out j y hy)
      have HTT := Lib.hid htt
      have HJ := Lib.hid hj
      have HX2 : Hid (∀ i, (x &&& (x - 1)).testBit i = (c.f.testBit i && decide (j + 1 ≤ i))) := by
        intro i
        rw [clear_low hx0 hx64, hj]
        by_cases h1 : i < j
        · rw [low_none hx0 hx64 (by omega)]
          have e9 : ¬ (j + 1 ≤ i) := by omega
          simp [e9]
        · rw [HX.out i]
          by_cases h2 : i = j
          · subst h2; simp
          · have e1 : k ≤ i := by omega
            have e2 : j + 1 ≤ i := by omega
            simp [e1, e2, h2]
      have hlt2 : x &&& (x - 1) < x := clear_lt hx0
      have hxp : (1 : Int) ≤ (x : Int) := by omega
      have hand : bits .and .u64 (x : Int) ((x : Int) - 1) = ((x &&& (x - 1) : Nat) : Int) := by
        rw [← and_cast x (x - 1) hx64 (by omega)]
        congr 1
        omega
      obtain ⟨x', hx'⟩ : ∃ x', x' = x &&& (x - 1) := ⟨_, rfl⟩
      rw [← hx'] at HX2 hlt2 hand
      have hne : ((x : Int) != 0) = true := by simp; omega
      have hx9 : (x : Int) ≤ 18446744073709551615 := by omega
      have g0 : (0 : Int) ≤ (j : Int) := by omega
      have g3 : (j : Int) < (row.length : Int) := by omega
      have HX' := Lib.hid hx'
      have HNE := Lib.hid hx0
      have HBC := Lib.hid hbc
      clear hbx hbc hskip hy htt hj hx' hx0
      go_wp2_with fail
      go_region_with (first | (go_at_call 145; refine (ctz_calls x HNE.out hx64 _ (HT.out.below (by repeat (first | exact hb | refine Below.drew ?_)))).mono ?_; rintro e w4 ⟨rfl, rfl⟩; rw [HJ.out]) | (go_at_call 142; refine (joined_is o y t OO.out OY.out HTT.out _).mono ?_; rintro e w3 ⟨rfl, hb3⟩; have hB3 : Below wr.heap.size wr w3 := Below.trans (by repeat (first | exact Below.refl _ _ | refine Below.drew ?_)) hb3; have D1 := Lib.hid (block_stays B1.out hB3); have D2 := Lib.hid (block_stays B2.out hB3); obtain ⟨e0, e1, e2, ef⟩ := three_cells D2.out; have e4 := ef 0; have e5 := ef 1; have e6 := ef 2; clear ef))
      all_goals
        have N2 := Lib.hid (three_set (a' := .int .u64 (t.f : Int)) (b' := .int .i64 t.k) (c' := .int .i64 t.v) D2.out)
        have N1 := Lib.hid (three_other (B := w.heap.size + 1 + 1 + 1 + 1) (a' := .int .u64 (t.f : Int)) (b' := .int .i64 t.k) (c' := .int .i64 t.v) (by omega) D1.out)
        have NB := Lib.hid ((((hb.trans (hB3.mono hb.size)).setCell (p := ⟨w.heap.size + 1 + 1 + 1 + 1, 0, none⟩) (by simp; omega) (.int .u64 (t.f : Int))).setCell (p := ⟨w.heap.size + 1 + 1 + 1 + 1, 1, none⟩) (by simp; omega) (.int .i64 t.k)).setCell (p := ⟨w.heap.size + 1 + 1 + 1 + 1, 2, none⟩) (by simp; omega) (.int .i64 t.v))
        clear e0 e1 e2 e4 e5 e6 hb3
        go_wp2
        go_roundw
        case rel => exact ⟨j + 1, x', t, by omega, by omega, by first | rfl | rw [hand], HX2, HN, N1, N2, NB.out⟩
        case measure => simp [intOf]; omega
end Go.Proofs.YtjcminoaiieckaaGreatDoor
namespace Go.Proofs.YtjcminoaiieckaaGreatDoor
open Go.RowKit
set_option linter.unusedVariables false
def thenC (xs ys : List Cl) : List Cl := ys.map (ofC xs)
def thenR (d : Int) (xs ys : List Cl) : List Cl := if chk2C d xs ys = 0 then thenC xs ys else []
theorem then_length {xs ys : List Cl} {n : Nat} (h2 : ys.length = n) : (thenC xs ys).length = n := by simp [thenC, h2]
theorem three_below {w w' : World} {B q : Nat} {o2 : Nat} {u0 u1 u2 : Value} (hb : Below B w w') (hq : q < B)
    (h : w.cell? ⟨q, o2, none⟩ = some u0 ∧ w.cell? ⟨q, o2 + 1, none⟩ = some u1 ∧ w.cell? ⟨q, o2 + 2, none⟩ = some u2) :
    w'.cell? ⟨q, o2, none⟩ = some u0 ∧ w'.cell? ⟨q, o2 + 1, none⟩ = some u1 ∧ w'.cell? ⟨q, o2 + 2, none⟩ = some u2 := by
  obtain ⟨b0, b1, b2⟩ := h
  exact ⟨(hb.cell (p := ⟨q, _, none⟩) hq).trans b0, (hb.cell (p := ⟨q, _, none⟩) hq).trans b1, (hb.cell (p := ⟨q, _, none⟩) hq).trans b2⟩

end Go.Proofs.YtjcminoaiieckaaGreatDoor
namespace Go.Proofs.YtjcminoaiieckaaGreatDoor
open Go.RowKit
set_option linter.unusedVariables false
def z0 : Cl := ⟨0, 0, 0⟩
theorem made_flat (n : Nat) : (madeCells (Value.agg #[.int .u64 0, .int .i64 0, .int .i64 0]).cells (n * 3)).toList = flat (List.replicate n z0) := by
  have hc : (Value.agg #[.int .u64 0, .int .i64 0, .int .i64 0]).cells = #[.int .u64 0, .int .i64 0, .int .i64 0] := rfl
  rw [hc]
  apply List.ext_getElem?
  intro j
  by_cases hj : j < n * 3
  · have e : (List.replicate n z0)[j / 3]? = some z0 := by rw [List.getElem?_replicate, if_pos (by omega)]
    obtain ⟨f0, f1, f2⟩ := flat_at e
    have hr : j % 3 = 0 ∨ j % 3 = 1 ∨ j % 3 = 2 := by omega
    have hlt : j < (madeCells #[Value.int .u64 0, .int .i64 0, .int .i64 0] (n * 3)).toList.length := by simp [madeCells]; exact hj
    rcases hr with h | h | h
    · have ej : j = j / 3 * 3 := by omega
      rw [← ej] at f0
      rw [f0, List.getElem?_eq_getElem hlt]
      simp [madeCells, h, z0]
    · have ej : j = j / 3 * 3 + 1 := by omega
      rw [← ej] at f1
      rw [f1, List.getElem?_eq_getElem hlt]
      simp [madeCells, h, z0]
    · have ej : j = j / 3 * 3 + 2 := by omega
      rw [← ej] at f2
      rw [f2, List.getElem?_eq_getElem hlt]
      simp [madeCells, h, z0]
  · rw [List.getElem?_eq_none (by simp [madeCells]; omega), List.getElem?_eq_none (by rw [flat_length]; simp; omega)]

theorem fill_step {full : List Cl} {n k : Nat} {z : Cl} (hl : full.length = n) (hz : full[k]? = some z) : (full.take k ++ List.replicate (n - k) z0).set k z = full.take (k + 1) ++ List.replicate (n - (k + 1)) z0 := by
  obtain ⟨hk, ex⟩ := List.getElem?_eq_some_iff.1 hz
  have hl2 : (full.take k).length = k := by simp; omega
  rw [List.set_append_right _ _ (by omega), hl2, Nat.sub_self, show n - k = (n - (k + 1)) + 1 by omega, List.replicate_succ, List.set_cons_zero, List.take_succ_eq_append_getElem hk, List.append_assoc, ex]
  rfl
theorem fill_at {full : List Cl} {n k : Nat} (hl : full.length = n) (hk : k < n) : (full.take k ++ List.replicate (n - k) z0)[k]? = some z0 := by
  have hl2 : (full.take k).length = k := by simp; omega
  rw [List.getElem?_append_right (by omega), hl2, Nat.sub_self, List.getElem?_replicate, if_pos (by omega)]
theorem fill_len {full : List Cl} {n k : Nat} (hl : full.length = n) (hk : k ≤ n) : (full.take k ++ List.replicate (n - k) z0).length = n := by simp; omega
theorem okAt_in {n : Nat} {c : Cl} (hf : c.f < 18446744073709551616) (h : okAt n c = true) (i : Nat) (hb : c.f.testBit i = true) : i < n := by
  have h1 : inside n c.f = true := by
    unfold okAt cellOk at h
    cases hi : inside n c.f
    · rw [hi] at h; simp at h
    · rfl
  rcases Nat.lt_or_ge i n with hi | hi
  · exact hi
  · rcases Nat.lt_or_ge i 64 with h64 | h64
    · rw [(inside_bits n c.f hf).1 h1 i hi h64] at hb; cases hb
    · rw [Nat.testBit_lt_two_pow (Nat.lt_of_lt_of_le hf (Nat.le_trans (by decide : 18446744073709551616 ≤ 2 ^ 64) (Nat.pow_le_pow_right (by decide) h64)))] at hb; cases hb

set_option maxRecDepth 100000 in
set_option maxHeartbeats 2000000 in
theorem then_any (d : Int) (a b : Option Addr) (capa capb : Nat) (xs ys : List Cl) (w : World) (ht : Tabs w) (hma : xs.length ≤ maxLen) (hmb : ys.length ≤ maxLen) (hra : CRow w a xs) (hrb : CRow w b ys) (hba : Bits xs) (hbb : Bits ys) (c : Int) (hc : chk2C d xs ys = c) :
    Calls Tryz.prog 86 #[.int .i64 d, .slice a xs.length capa, .slice b ys.length capb] w (CellsRet (thenR d xs ys) c w) := by
  have HT := Lib.hid ht
  have HMA := Lib.hid hma; have HMB := Lib.hid hmb; have HRA := Lib.hid hra; have HRB := Lib.hid hrb; have HBA := Lib.hid hba; have HBB := Lib.hid hbb
  have HC := Lib.hid hc
  clear ht hma hmb hra hrb hba hbb
  by_cases h0 : c = 0
  · subst h0
    obtain ⟨k1, k2⟩ := chk2C_zero hc
    obtain ⟨d0, d1, la, oka⟩ := chkC_zero k1
    obtain ⟨_, _, lb, okb⟩ := chkC_zero k2
    obtain ⟨n, rfl⟩ : ∃ n : Nat, d = n := ⟨d.toNat, by omega⟩
    have hla : xs.length = n := by omega
    have hlb : ys.length = n := by omega
    have HR := Lib.hid (show thenR n xs ys = thenC xs ys by simp [thenR, hc])
    have HN := Lib.hid (then_length (xs := xs) hlb)
    have OKA := Lib.hid oka; have OKB := Lib.hid okb
    have ga1 : n ≤ xs.length := by omega
    have gb1 : n ≤ ys.length := by omega
    have ga2 : xs.length ≤ n := by omega
    have gb2 : ys.length ≤ n := by omega
    have hn : n ≤ 64 := by omega
    obtain ⟨i0, hi, hz0, hz1, hz2⟩ := info_parts infoC
    clear hc k1 k2 d0 d1 la oka lb okb hla hlb
    go_enter Tryz.func86, Tryz.ntmps86
    go_wp2_with fail
    refine (checkBoth_any _ a b capa capb xs ys _ HMA.out HMB.out HRA.out HRB.out HBA.out HBB.out 0 HC.out).mono ?_
    rintro e w1 ⟨rfl, hb1⟩
    go_wp2_with (at_make; refine wpList_make_full _ rfl (.tmp 18) (.tmp 18) 30 rfl w.heap.size 73 i0 _ 3 Tryz.underlying30 hi hz0 hz1 .i64 .i64 (n : Int) (n : Int) n rfl rfl rfl rfl (by rw [hz2]; omega) (by unfold maxLen; omega) hb1.size ?_; intro w2 hown2 hgrow2)
    have HO1 : Hid (w2.ownsRow w.heap.size 73 3 (.slice (some ⟨w1.heap.size, 0, none⟩) n n) n (flat ((thenC xs ys).take 0 ++ List.replicate (n - 0) z0))) := by
      rw [List.take_zero, List.nil_append, Nat.sub_zero, ← made_flat]; exact hown2
    have hb2 : Below w.heap.size w w2 := hb1.grown hgrow2 hb1.size (fun j e => by cases e)
    have hsz := hb1.size
    clear hown2
    go_wp2_with fail
    go_loopw [21] (fun i wr => ∃ k : Nat, k ≤ n ∧ i = .int .i64 k ∧ Hid (wr.ownsRow w.heap.size 73 3 (.slice (some ⟨w1.heap.size, 0, none⟩) n n) n (flat ((thenC xs ys).take k ++ List.replicate (n - k) z0))) ∧ Below w.heap.size w wr) (fun i _ => n - (intOf i).toNat)
    case atStart => exact ⟨0, Nat.zero_le _, rfl, HO1, hb2⟩
    case round =>
      obtain ⟨k, hk, rfl, HO, hb⟩ := hrel
      by_cases hlt : k < n
      · obtain ⟨bb, offb, y, rfl, hy, hbb, b0, b1, b2⟩ := HRB.out.at_ (show k < ys.length by omega)
        have HF : Hid (_ ∧ _ ∧ _) := ⟨b0, b1, b2⟩
        clear b0 b1 b2
        obtain ⟨b0, b1, b2⟩ := three_below hb hbb HF.out
        have OY := Lib.hid (ok_get HBB.out OKB.out hy)
        have OIN : Hid (∀ i, y.f.testBit i = true → i < xs.length) := fun i h => Nat.lt_of_lt_of_le (okAt_in OY.out.1 (List.all_eq_true.1 OKB.out y (List.mem_of_getElem? hy)) i h) (by omega)
        have OAL : Hid (∀ (i : Nat) x, xs[i]? = some x → x.ok) := fun i x hi => ok_get HBA.out OKA.out hi
        obtain ⟨z, hz⟩ : ∃ z, ofC xs y = z := ⟨_, rfl⟩
        have HZ := Lib.hid (fill_step (full := thenC xs ys) (n := n) (k := k) (z := z) HN.out (by rw [← hz]; simp [thenC, hy]))
        have HA := Lib.hid (fill_at (full := thenC xs ys) (n := n) HN.out hlt)
        have HLEN := Lib.hid (fill_len (full := thenC xs ys) (n := n) HN.out hk)
        have HJ := Lib.hid hz
        clear hy hz
        have g0 : (0 : Int) ≤ (k : Int) := by omega
        have g2 : (k : Int) < (ys.length : Int) := by omega
        have g3 : (k : Int) < (n : Int) := by omega
        go_wp2_with (go_at_call 121; refine (ofRow_any a capa xs y _ (HT.out.below hb) (by omega) (HRA.out.below hb) OAL.out OY.out OIN.out z HJ.out).mono ?_; rintro e w3 ⟨rfl, hb3⟩; have hB3 : Below wr.heap.size wr w3 := hb3; have o3 := own_below HO.out hB3; have f3 := flat_at HA.out; have e0 := (o3.cellAt (k * 3) (by omega)).trans f3.1; have e1 := (o3.cellAt (k * 3 + 1) (by omega)).trans f3.2.1; have e2 := (o3.cellAt (k * 3 + 2) (by omega)).trans f3.2.2; have q0 := o3.frozenAt (k * 3); have q1 := o3.frozenAt (k * 3 + 1); have q2 := o3.frozenAt (k * 3 + 2); have O3 := Lib.hid o3; clear o3 f3)
        have HS := Lib.hid (own_store3 O3.out (by rw [HLEN.out]; exact hlt) z)
        rw [HZ.out] at HS
        have HB : Hid (Below w.heap.size w (((w3.setCell ⟨w1.heap.size, k * 3, none⟩ (.int .u64 (z.f : Int))).setCell ⟨w1.heap.size, k * 3 + 1, none⟩ (.int .i64 z.k)).setCell ⟨w1.heap.size, k * 3 + 2, none⟩ (.int .i64 z.v))) := (((hb.trans (hB3.mono hb.size)).setCell (p := ⟨w1.heap.size, k * 3, none⟩) hsz _).setCell (p := ⟨w1.heap.size, k * 3 + 1, none⟩) hsz _).setCell (p := ⟨w1.heap.size, k * 3 + 2, none⟩) hsz _
        clear e0 e1 e2 q0 q1 q2 O3
        go_wp2
        go_roundw
        case rel => exact ⟨k + 1, by omega, by go_num, HS, HB.out⟩
        case measure => simp [intOf]; omega
      · obtain rfl : n = k := by omega
        have HE : Hid (wr.ownsRow w.heap.size 73 3 (.slice (some ⟨w1.heap.size, 0, none⟩) n n) n (flat (thenR n xs ys))) := by
          have := HO.out
          rw [List.take_of_length_le (by rw [HN.out]; exact Nat.le_refl _), Nat.sub_self, List.replicate_zero, List.append_nil] at this
          rw [HR.out]; exact this
        go_wp2
        go_ret2
        exact cellsRet_own HE.out hb 0
  · have HR := Lib.hid (show thenR d xs ys = [] by simp [thenR, hc, h0])
    have hne : (c != 0) = true := by simpa using h0
    clear hc h0
    go_enter Tryz.func86, Tryz.ntmps86
    go_wp2_with fail
    refine (checkBoth_any _ a b capa capb xs ys _ HMA.out HMB.out HRA.out HRB.out HBA.out HBB.out c HC.out).mono ?_
    rintro e w1 ⟨rfl, hb1⟩
    go_wp2
    go_ret2
    rw [HR.out]
    exact cellsRet_nil c hb1
end Go.Proofs.YtjcminoaiieckaaGreatDoor
namespace Go.Proofs.YtjcminoaiieckaaGreatDoor
open Go.RowKit
set_option linter.unusedVariables false
def oneAt (k : Nat) : Cl := ⟨2 ^ k, 0, 0⟩
def unitC (n : Nat) : List Cl := (List.range n).map oneAt
def unitR (d : Int) : List Cl := if dimC d = 0 then unitC d.toNat else []
theorem unit_length (n : Nat) : (unitC n).length = n := by simp [unitC]
theorem unit_at {n k : Nat} (hk : k < n) : (unitC n)[k]? = some (oneAt k) := by
  simp [unitC, List.getElem?_range hk]
theorem pow_u64 {k : Nat} (hk : k < 64) : IntKind.u64.wrap (2 ^ k : Int) = ((2 ^ k : Nat) : Int) := by
  have h : 2 ^ k < 18446744073709551616 := Nat.lt_of_lt_of_le (Nat.pow_lt_pow_right (by decide) hk) (by decide)
  have e : (2 ^ k : Int) = ((2 ^ k : Nat) : Int) := by simp
  rw [e]
  generalize 2 ^ k = q at h
  simp [IntKind.wrap, IntKind.signed, IntKind.bits]
  omega

end Go.Proofs.YtjcminoaiieckaaGreatDoor
namespace Go.Proofs.YtjcminoaiieckaaGreatDoor
open Go.RowKit
set_option linter.unusedVariables false
theorem flat_set1 : ∀ (cs : List Cl) (i : Nat) (f f' : Nat), cs[i]? = some ⟨f, 0, 0⟩ → (flat cs).set (i * 3) (.int .u64 (f' : Int)) = flat (cs.set i ⟨f', 0, 0⟩)
  | [], i, f, f', h => by simp at h
  | x :: r, 0, f, f', h => by
    simp at h; subst h
    simp [flat_cons, vals]
  | x :: r, i + 1, f, f', h => by
    have ih := flat_set1 r i f f' (by simpa using h)
    have e0 : (i + 1) * 3 = i * 3 + 3 := by omega
    rw [e0, flat_cons, List.set_cons_succ, flat_cons, ← ih]
    simp [vals]
theorem own_store1 {w : World} {base g n cap k : Nat} {E : Nat} {cs : List Cl} {f : Nat} (h : w.ownsRow base E 3 (.slice (some ⟨g, 0, none⟩) n cap) n (flat cs)) (hk : cs[k]? = some ⟨f, 0, 0⟩) (f' : Nat) :
    (w.setCell ⟨g, k * 3, none⟩ (.int .u64 (f' : Int))).ownsRow base E 3 (.slice (some ⟨g, 0, none⟩) n cap) n (flat (cs.set k ⟨f', 0, 0⟩)) := by
  rw [← flat_set1 cs k f f' hk]
  exact (h.stored (k * 3) _).1

set_option maxRecDepth 100000 in
set_option maxHeartbeats 2000000 in
theorem unit_any (n : Nat) (w : World) (hn : n ≤ 64) : Calls Tryz.prog 106 #[.int .i64 n] w (CellsRet1 (unitC n) w) := by
  obtain ⟨i0, hi, hz0, hz1, hz2⟩ := info_parts infoC
  have HN := Lib.hid (unit_length n)
  go_enter Tryz.func106, Tryz.ntmps106
  go_wp2_with (at_make; refine wpList_make_full _ rfl (.tmp 5) (.tmp 5) 30 rfl w.heap.size 73 i0 _ 3 Tryz.underlying30 hi hz0 hz1 .i64 .i64 (n : Int) (n : Int) n rfl rfl rfl rfl (by rw [hz2]; omega) (by unfold maxLen; omega) (Nat.le_refl _) ?_; intro w2 hown2 hgrow2)
  have HO1 : Hid (w2.ownsRow w.heap.size 73 3 (.slice (some ⟨w.heap.size, 0, none⟩) n n) n (flat ((unitC n).take 0 ++ List.replicate (n - 0) z0))) := by
    rw [List.take_zero, List.nil_append, Nat.sub_zero, ← made_flat]; exact hown2
  have hb2 : Below w.heap.size w w2 := (Below.refl _ _).grown hgrow2 (Nat.le_refl _) (fun j e => by cases e)
  clear hown2
  go_wp2_with fail
  go_loopw [8] (fun i wr => ∃ k : Nat, k ≤ n ∧ i = .int .i64 k ∧ Hid (wr.ownsRow w.heap.size 73 3 (.slice (some ⟨w.heap.size, 0, none⟩) n n) n (flat ((unitC n).take k ++ List.replicate (n - k) z0))) ∧ Below w.heap.size w wr) (fun i _ => n - (intOf i).toNat)
  case atStart => exact ⟨0, Nat.zero_le _, rfl, HO1, hb2⟩
  case round =>
    obtain ⟨k, hk, rfl, HO, hb⟩ := hrel
    by_cases hlt : k < n
    · have HZ := Lib.hid (fill_step (full := unitC n) (n := n) (k := k) HN.out (unit_at hlt))
      have HA := Lib.hid (fill_at (full := unitC n) (n := n) HN.out hlt)
      have HW := Lib.hid (pow_u64 (k := k) (by omega))
      have f3 := flat_at HA.out
      have e0 := (HO.out.cellAt (k * 3) (by omega)).trans f3.1
      have q0 := HO.out.frozenAt (k * 3)
      clear f3
      have g0 : (0 : Int) ≤ (k : Int) := by omega
      have g1 : k < 64 := by omega
      have g2 : (k : Int) < 64 := by omega
      have g3 : (k : Int) < (n : Int) := by omega
      have HS := Lib.hid (own_store1 HO.out HA.out (2 ^ k))
      rw [show (⟨2 ^ k, 0, 0⟩ : Cl) = oneAt k from rfl, HZ.out, ← HW.out] at HS
      have HB : Hid (Below w.heap.size w (wr.setCell ⟨w.heap.size, k * 3, none⟩ (.int .u64 (IntKind.u64.wrap (2 ^ k))))) := hb.setCell (p := ⟨w.heap.size, k * 3, none⟩) (Nat.le_refl _) _
      go_wp2
      go_roundw
      case rel => exact ⟨k + 1, by omega, by go_num, HS, HB.out⟩
      case measure => simp [intOf]; omega
    · obtain rfl : n = k := by omega
      have HE : Hid (wr.ownsRow w.heap.size 73 3 (.slice (some ⟨w.heap.size, 0, none⟩) n n) n (flat (unitC n))) := by
        have := HO.out
        rw [List.take_of_length_le (by rw [HN.out]; exact Nat.le_refl _), Nat.sub_self, List.replicate_zero, List.append_nil] at this
        exact this
      go_wp2
      go_ret
      exact ⟨_, rfl, by rw [HN.out]; exact HE.out, hb⟩

theorem cellsRet_of1 {cs : List Cl} {w w1 w2 : World} {v : Value} (hb1 : Below w.heap.size w w1) (hown : w2.ownsRow w1.heap.size 73 3 v cs.length (flat cs)) (hb2 : Below w1.heap.size w1 w2) (err : Int) : CellsRet cs err w (.returned (.tuple #[v, .int .i64 err])) w2 := by
  obtain ⟨_, a2, cap2, rfl, hr2, hf2⟩ := crow_of_own hown
  exact ⟨a2, cap2, rfl, hr2, fun ad e => ⟨Nat.le_trans hb1.size (hf2 ad e).1, (hf2 ad e).2.2⟩, hb1.trans (hb2.mono hb1.size)⟩

theorem ce_dim_nat {d : Int} (h : dimC d = 0) : ∃ n : Nat, d = n ∧ n ≤ 64 := by
  by_cases hd : d < 0 ∨ 64 < d
  · simp [dimC, hd] at h
  · exact ⟨d.toNat, by omega, by omega⟩

set_option maxHeartbeats 2000000 in
theorem one_any (d : Int) (w : World) (c : Int) (hc : dimC d = c) :
    Calls Tryz.prog 66 #[.int .i64 d] w (CellsRet (unitR d) c w) := by
  have HC := Lib.hid hc
  by_cases h0 : c = 0
  · subst h0
    obtain ⟨n, rfl, hn⟩ := ce_dim_nat hc
    have HR := Lib.hid (show unitR n = unitC n by simp [unitR, hc])
    clear hc
    go_enter Tryz.func66, Tryz.ntmps66
    go_wp2_with (go_at_call 105; refine (checkDim_is _ _ 0 HC.out).mono ?_; rintro e w' ⟨rfl, rfl⟩)
    refine (unit_any n _ hn).mono ?_
    rintro e w2 ⟨v, rfl, hown, hb2⟩
    have HO := Lib.hid hown
    clear hown
    go_wp2
    go_ret2
    rw [HR.out]
    exact cellsRet_of1 (Below.refl _ _) HO.out hb2 0
  · have HR := Lib.hid (show unitR d = [] by simp [unitR, hc, h0])
    have hne : (c != 0) = true := by simpa using h0
    clear hc h0
    go_enter Tryz.func66, Tryz.ntmps66
    go_wp2_with (go_at_call 105; refine (checkDim_is _ _ c HC.out).mono ?_; rintro e w' ⟨rfl, rfl⟩)
    go_ret2
    rw [HR.out]
    exact cellsRet_nil c (Below.refl _ _)

end Go.Proofs.YtjcminoaiieckaaGreatDoor
namespace Go.Proofs.YtjcminoaiieckaaGreatDoor
open Go.RowKit
set_option linter.unusedVariables false
theorem ce_grow_below (w : World) (k : Nat) (os : Array Obj) : Below w.heap.size w (Go.Sort.grow (w.drewN k) os) := by
  refine ⟨rfl, rfl, rfl, by simp [Go.Sort.grow, World.drewN], fun i hi => ?_⟩
  show (w.heap ++ os)[i]? = w.heap[i]?
  rw [Array.getElem?_append_left hi]
theorem formatInt_calls (n : Int) (h0 : -9223372036854775808 ≤ n) (h1 : n ≤ 9223372036854775807) (w : World) (ht : Tabs w) :
    Calls Tryz.prog 93 #[.int .i64 n, .int .i64 10] w fun e w' => e = .returned (.string ⟨(Lib.itoa n).toArray⟩) ∧ Below w.heap.size w w' :=
  (Tryz.strconv_FormatInt_10 n h0 h1 w ht.pow).mono fun e w' ⟨he, k, os, hw⟩ => ⟨he, by rw [hw]; exact ce_grow_below w k os⟩

end Go.Proofs.YtjcminoaiieckaaGreatDoor
namespace Go.Proofs.YtjcminoaiieckaaGreatDoor
open Go.RowKit
set_option linter.unusedVariables false
structure IsCells (w : World) (a : Option Addr) (len cap : Nat) (xs : List Cl) : Prop where
  len : len = xs.length
  max : xs.length ≤ maxLen
  row : CRow w a xs
  bits : Bits xs
end Go.Proofs.YtjcminoaiieckaaGreatDoor
namespace Go.Proofs.YtjcminoaiieckaaGreatDoor
open Go.RowKit
set_option linter.unusedVariables false
set_option linter.unusedSimpArgs false
def manyC : Cl := ⟨0, 2, 0⟩
theorem ok_cases {c : Cl} (h : c.ok) : (∃ f, c = ⟨f, 0, 0⟩) ∨ (∃ f v, c = ⟨f, 1, v⟩) ∨ c = manyC := by
  obtain ⟨f, k, v⟩ := c
  obtain ⟨_, h⟩ := h
  simp only at h
  unfold kindOk at h
  split at h
  · rename_i h2; left; simp at h; subst h; subst h2; exact ⟨f, rfl⟩
  · split at h
    · rename_i h2; right; left; subst h2; exact ⟨f, v, rfl⟩
    · split at h
      · rename_i h2; right; right; subst h2; simp at h; obtain ⟨rfl, rfl⟩ := h; rfl
      · cases h
theorem join_comm {a b : Cl} (ha : a.ok) (hb : b.ok) : join a b = join b a := by
  rcases ok_cases ha with ⟨f, rfl⟩ | ⟨f, v, rfl⟩ | rfl <;> rcases ok_cases hb with ⟨f2, rfl⟩ | ⟨f2, v2, rfl⟩ | rfl
  all_goals (try (simp [join, joinK, joinV, manyC, Nat.or_comm]; done))
  by_cases hv : v = v2
  · subst hv; simp [join, joinK, joinV, Nat.or_comm]
  · have hv2 : ¬ v2 = v := fun h => hv h.symm
    simp [join, joinK, joinV, hv, hv2]
theorem join_self {a : Cl} (ha : a.ok) : join a a = a := by
  rcases ok_cases ha with ⟨f, rfl⟩ | ⟨f, v, rfl⟩ | rfl <;> simp [join, joinK, joinV, manyC]
theorem join_many {a : Cl} (ha : a.ok) : join manyC a = manyC := by
  rcases ok_cases ha with ⟨f, rfl⟩ | ⟨f, v, rfl⟩ | rfl <;> simp [join, joinK, joinV, manyC]
theorem join_assoc {a b c : Cl} (ha : a.ok) (hb : b.ok) (hc : c.ok) : join (join a b) c = join a (join b c) := by
  rcases ok_cases ha with ⟨f, rfl⟩ | ⟨f, v, rfl⟩ | rfl <;> rcases ok_cases hb with ⟨f2, rfl⟩ | ⟨f2, v2, rfl⟩ | rfl <;> rcases ok_cases hc with ⟨f3, rfl⟩ | ⟨f3, v3, rfl⟩ | rfl
  all_goals (try (simp [join, joinK, joinV, manyC, Nat.or_assoc]; done))
  all_goals (try (by_cases h1 : v = v2 <;> simp [join, joinK, joinV, manyC, Nat.or_assoc, h1]; done))
  all_goals (try (by_cases h1 : v = v3 <;> simp [join, joinK, joinV, manyC, Nat.or_assoc, h1]; done))
  all_goals (try (by_cases h1 : v2 = v3 <;> simp [join, joinK, joinV, manyC, Nat.or_assoc, h1]; done))
  by_cases h1 : v = v2
  · subst h1
    by_cases h2 : v = v3 <;> simp [join, joinK, joinV, manyC, Nat.or_assoc, h2]
  · by_cases h2 : v2 = v3
    · subst h2; simp [join, joinK, joinV, h1]
    · simp [join, joinK, joinV, h1, h2]
theorem join_mid {x a y b : Cl} (hx : x.ok) (ha : a.ok) (hy : y.ok) (hb : b.ok) : join (join x a) (join y b) = join (join x y) (join a b) := by
  rw [join_assoc hx ha (join_ok hy hb), ← join_assoc ha hy hb, join_comm ha hy, join_assoc hy ha hb, ← join_assoc hx hy (join_ok ha hb)]

def Oks (xs : List Cl) : Prop := ∀ (i : Nat) x, xs[i]? = some x → x.ok
theorem base_ok {c : Cl} (h : c.ok) : (⟨0, c.k, c.v⟩ : Cl).ok := ⟨by simp, kindOk_zero h.2⟩

theorem ofTo_join {row : List Cl} (hr : Oks row) {x y : Cl} (hx : x.ok) (hy : y.ok) : ∀ n, ofTo row (join x y) n = join (ofTo row x n) (ofTo row y n)
  | 0 => by
    show (⟨0, (join x y).k, (join x y).v⟩ : Cl) = join ⟨0, x.k, x.v⟩ ⟨0, y.k, y.v⟩
    simp [join]
  | n + 1 => by
    have ih := ofTo_join hr hx hy n
    have ox := ofTo_ok hx hr n
    have oy := ofTo_ok hy hr n
    have ob := ofTo_ok (join_ok hx hy) hr n
    rcases hrow : row[n]? with _ | A
    · simp only [ofTo_succ, ofStep, hrow]
      split <;> split <;> split <;> exact ih
    · have oA := hr n A hrow
      by_cases hm : joinK x.k x.v y.k y.v = 2
      · have hz : join x y = manyC := by
          rcases ok_cases (join_ok hx hy) with ⟨f, e⟩ | ⟨f, v, e⟩ | e
          · have := congrArg Cl.k e; simp [join, hm] at this
          · have := congrArg Cl.k e; simp [join, hm] at this
          · exact e
        have hall : ∀ m, ofTo row (join x y) m = manyC := by
          intro m
          rw [hz, ofTo_skip (Nat.zero_le m) (fun i _ _ => by simp [manyC])]
          rfl
        have e1 : join (ofTo row x n) (ofTo row y n) = manyC := by rw [← ih, hall n]
        rw [hall]
        simp only [ofTo_succ, ofStep, hrow]
        split <;> split
        · rw [join_mid ox oA oy oA, e1, join_many (join_ok oA oA)]
        · rw [join_comm ox oA, join_assoc oA ox oy, e1, join_comm oA (by rw [← e1]; exact join_ok ox oy), join_many oA]
        · rw [← join_assoc ox oy oA, e1, join_many oA]
        · exact e1.symm
      · have hf : (join x y).f = x.f ||| y.f := by simp [join, hm]
        simp only [ofTo_succ, ofStep, hrow, hf, Nat.testBit_or]
        rw [ih]
        cases hbx : x.f.testBit n <;> cases hby : y.f.testBit n <;> simp
        · rw [join_assoc ox oy oA]
        · rw [join_assoc ox oy oA, join_comm oy oA, ← join_assoc ox oA oy]
        · rw [join_mid ox oA oy oA, join_self oA]
theorem ofC_join {row : List Cl} (hr : Oks row) {x y : Cl} (hx : x.ok) (hy : y.ok) : ofC row (join x y) = join (ofC row x) (ofC row y) := ofTo_join hr hx hy _
theorem ofC_base (row : List Cl) (c : Cl) : ofC row ⟨0, c.k, c.v⟩ = ⟨0, c.k, c.v⟩ := by
  unfold ofC
  rw [ofTo_skip (Nat.zero_le _) (fun i _ _ => by simp)]
  rfl
theorem ofTo_then {xs ys : List Cl} (hx : Oks xs) (hy : Oks ys) {c : Cl} (hc : c.ok) : ∀ n, ofTo (ys.map (ofC xs)) c n = ofC xs (ofTo ys c n)
  | 0 => (ofC_base xs c).symm
  | n + 1 => by
    have ih := ofTo_then hx hy hc n
    rcases hrow : ys[n]? with _ | A
    · have h2 : (ys.map (ofC xs))[n]? = none := by simp [hrow]
      simp only [ofTo_succ, ofStep, hrow, h2]
      split <;> exact ih
    · have h2 : (ys.map (ofC xs))[n]? = some (ofC xs A) := by simp [hrow]
      simp only [ofTo_succ, ofStep, hrow, h2]
      split
      · rw [ih, ofC_join hx (ofTo_ok hc hy n) (hy n A hrow)]
      · exact ih
theorem then_assoc {xs ys zs : List Cl} (hx : Oks xs) (hy : Oks ys) (hz : Oks zs) : thenC (thenC xs ys) zs = thenC xs (thenC ys zs) := by
  unfold thenC
  rw [List.map_map]
  apply List.map_congr_left
  intro c hc
  obtain ⟨i, hi, e⟩ := List.mem_iff_getElem.1 hc
  have h := ofTo_then hx hy (hz i c (by rw [← e]; exact List.getElem?_eq_getElem hi)) ys.length
  show ofTo (ys.map (ofC xs)) c (ys.map (ofC xs)).length = ofC xs (ofTo ys c ys.length)
  rw [List.length_map, h]
theorem ofTo_both {xs ys : List Cl} (hl : ys.length = xs.length) (hx : Oks xs) (hy : Oks ys) {c : Cl} (hc : c.ok) : ∀ n, ofTo (bothC xs ys) c n = join (ofTo xs c n) (ofTo ys c n)
  | 0 => (join_self (base_ok hc)).symm
  | n + 1 => by
    have ih := ofTo_both hl hx hy hc n
    have o1 := ofTo_ok hc hx n
    have o2 := ofTo_ok hc hy n
    by_cases hn : n < xs.length
    · have e1 : xs[n]? = some xs[n] := List.getElem?_eq_getElem hn
      have e2 : ys[n]? = some (ys[n]'(by omega)) := List.getElem?_eq_getElem (by omega)
      have e3 : (bothC xs ys)[n]? = some (join xs[n] (ys[n]'(by omega))) := by simp [bothC, List.getElem?_zipWith, e1, e2]
      simp only [ofTo_succ, ofStep, e1, e2, e3]
      split
      · rw [ih, join_mid o1 (hx n _ e1) o2 (hy n _ e2)]
      · exact ih
    · have e1 : xs[n]? = none := List.getElem?_eq_none (by omega)
      have e2 : ys[n]? = none := List.getElem?_eq_none (by omega)
      have e3 : (bothC xs ys)[n]? = none := List.getElem?_eq_none (by simp [bothC]; omega)
      simp only [ofTo_succ, ofStep, e1, e2, e3]
      split <;> exact ih
end Go.Proofs.YtjcminoaiieckaaGreatDoor
namespace Go.Proofs.YtjcminoaiieckaaGreatDoor
open Go.RowKit
set_option linter.unusedVariables false
set_option linter.unusedSimpArgs false
theorem okAt_iff {n : Nat} {c : Cl} : okAt n c = true ↔ c.f < 2 ^ n ∧ kindOk c.f c.k c.v = true := by
  unfold okAt cellOk inside
  rw [Bool.and_eq_true, beq_iff_eq, Nat.div_eq_zero_iff]
  constructor
  · rintro ⟨h | h, h2⟩
    · have := Nat.two_pow_pos n; omega
    · exact ⟨h, h2⟩
  · rintro ⟨h, h2⟩; exact ⟨.inr h, h2⟩
theorem ce_pow_le64 {n f : Nat} (hn : n ≤ 64) (h : f < 2 ^ n) : f < 18446744073709551616 :=
  Nat.lt_of_lt_of_le h (Nat.le_trans (Nat.pow_le_pow_right (by decide) hn) (by decide))
structure Val (n : Nat) (xs : List Cl) : Prop where
  le : n ≤ 64
  len : xs.length = n
  ok : ∀ (i : Nat) c, xs[i]? = some c → okAt n c = true
theorem Val.oks {n : Nat} {xs : List Cl} (h : Val n xs) : Oks xs := fun i c hi => by
  obtain ⟨h1, h2⟩ := okAt_iff.1 (h.ok i c hi)
  exact ⟨ce_pow_le64 h.le h1, h2⟩
theorem Val.bits {n : Nat} {xs : List Cl} (h : Val n xs) : Bits xs := fun c hc => by
  obtain ⟨i, hi, e⟩ := List.mem_iff_getElem.1 hc
  exact (h.oks i c (by rw [← e]; exact List.getElem?_eq_getElem hi)).1
theorem Val.chk {n : Nat} {xs : List Cl} (h : Val n xs) : chkC n xs = 0 := by
  refine chkC_good h.le h.len (Nat.le_refl _) ?_
  rw [List.take_length, List.all_eq_true]
  intro c hc
  obtain ⟨i, hi, e⟩ := List.mem_iff_getElem.1 hc
  exact h.ok i c (by rw [← e]; exact List.getElem?_eq_getElem hi)
theorem Val.chk2 {n : Nat} {xs ys : List Cl} (h : Val n xs) (h2 : Val n ys) : chk2C n xs ys = 0 := by
  unfold chk2C
  rw [h.chk, h2.chk]; rfl
theorem val_of {d : Int} {xs : List Cl} (h : chkC d xs = 0) : ∃ n : Nat, d = n ∧ Val n xs := by
  obtain ⟨d0, d1, la, oka⟩ := chkC_zero h
  refine ⟨d.toNat, by omega, by omega, by omega, fun i c hi => ?_⟩
  exact List.all_eq_true.1 oka c (List.mem_of_getElem? hi)
theorem okAt_join {n : Nat} {a b : Cl} (ha : okAt n a = true) (hb : okAt n b = true) (hn : n ≤ 64) : okAt n (join a b) = true := by
  obtain ⟨h1, h2⟩ := okAt_iff.1 ha
  obtain ⟨h3, h4⟩ := okAt_iff.1 hb
  have h5 := join_ok (a := a) (b := b) ⟨ce_pow_le64 hn h1, h2⟩ ⟨ce_pow_le64 hn h3, h4⟩
  refine okAt_iff.2 ⟨?_, h5.2⟩
  show (if joinK a.k a.v b.k b.v = 2 then 0 else a.f ||| b.f) < 2 ^ n
  split
  · exact Nat.two_pow_pos n
  · exact Nat.or_lt_two_pow h1 h3
theorem val_both {n : Nat} {xs ys : List Cl} (hx : Val n xs) (hy : Val n ys) : Val n (bothC xs ys) := by
  refine ⟨hx.le, by simp [bothC, hx.len, hy.len], fun i c hi => ?_⟩
  simp [bothC, List.getElem?_zipWith] at hi
  split at hi
  · rename_i a b ha hb
    cases hi
    exact okAt_join (hx.ok i a ha) (hy.ok i b hb) hx.le
  · cases hi
theorem okAt_ofTo {n : Nat} {xs : List Cl} (hx : Val n xs) {c : Cl} (hc : okAt n c = true) : ∀ m, okAt n (ofTo xs c m) = true
  | 0 => okAt_iff.2 ⟨Nat.two_pow_pos n, kindOk_zero (okAt_iff.1 hc).2⟩
  | m + 1 => by
    have ih := okAt_ofTo hx hc m
    rw [ofTo_succ, ofStep]
    split
    · split
      · rename_i a h; exact okAt_join ih (hx.ok m a h) hx.le
      · exact ih
    · exact ih
theorem val_then {n : Nat} {xs ys : List Cl} (hx : Val n xs) (hy : Val n ys) : Val n (thenC xs ys) := by
  refine ⟨hx.le, by simp [thenC, hy.len], fun i c hi => ?_⟩
  simp [thenC] at hi
  obtain ⟨y, h1, rfl⟩ := hi
  exact okAt_ofTo hx (hy.ok i y h1) _
theorem val_unit {n : Nat} (hn : n ≤ 64) : Val n (unitC n) := by
  refine ⟨hn, unit_length n, fun i c hi => ?_⟩
  have h1 : i < n := by rw [← unit_length n]; exact (List.getElem?_eq_some_iff.1 hi).1
  rw [unit_at h1] at hi
  cases hi
  exact okAt_iff.2 ⟨Nat.pow_lt_pow_right (by decide) h1, by simp [kindOk, oneAt]⟩

theorem both_self {n : Nat} {xs : List Cl} (hx : Val n xs) : bothC xs xs = xs := by
  apply List.ext_getElem?
  intro i
  simp [bothC, List.getElem?_zipWith]
  rcases h : xs[i]? with _ | c
  · rfl
  · simp [join_self (hx.oks i c h)]
theorem both_comm {n : Nat} {xs ys : List Cl} (hx : Val n xs) (hy : Val n ys) : bothC xs ys = bothC ys xs := by
  apply List.ext_getElem?
  intro i
  simp only [bothC, List.getElem?_zipWith]
  rcases h : xs[i]? with _ | c <;> rcases h2 : ys[i]? with _ | c2 <;> simp
  exact join_comm (hx.oks i c h) (hy.oks i c2 h2)
theorem then_both {n : Nat} {xs ys zs : List Cl} (hx : Val n xs) (hy : Val n ys) (hz : Val n zs) : thenC xs (bothC ys zs) = bothC (thenC xs ys) (thenC xs zs) := by
  apply List.ext_getElem?
  intro i
  simp only [bothC, thenC, List.getElem?_map, List.getElem?_zipWith]
  rcases h2 : ys[i]? with _ | c2 <;> rcases h3 : zs[i]? with _ | c3 <;> simp
  exact ofC_join hx.oks (hy.oks i c2 h2) (hz.oks i c3 h3)
theorem both_then {n : Nat} {xs ys zs : List Cl} (hx : Val n xs) (hy : Val n ys) (hz : Val n zs) : thenC (bothC xs ys) zs = bothC (thenC xs zs) (thenC ys zs) := by
  apply List.ext_getElem?
  intro i
  simp only [bothC, thenC, List.getElem?_map, List.getElem?_zipWith]
  rcases h3 : zs[i]? with _ | c3 <;> simp
  have h := ofTo_both (xs := xs) (ys := ys) (by rw [hx.len, hy.len]) hx.oks hy.oks (hz.oks i c3 h3) n
  have e := (val_both hx hy).len
  unfold bothC at e h
  unfold ofC
  rw [e, h, hx.len, hy.len]
theorem ofTo_unit {n : Nat} {c : Cl} (hc : okAt n c = true) : ∀ m, m ≤ n → ofTo (unitC n) c m = ⟨c.f % 2 ^ m, c.k, c.v⟩
  | 0, _ => by simp [ofTo, Nat.mod_one]
  | m + 1, hm => by
    have ih := ofTo_unit hc m (by omega)
    have hrow : (unitC n)[m]? = some (oneAt m) := unit_at (by omega)
    rw [ofTo_succ, ofStep, ih]
    cases hb : c.f.testBit m
    · rw [if_neg (by simp)]
      congr 1
      apply Nat.eq_of_testBit_eq
      intro i
      rw [Nat.testBit_mod_two_pow, Nat.testBit_mod_two_pow]
      rcases Nat.lt_or_ge i m with h | h
      · simp [h, Nat.lt_succ_of_lt h]
      · rcases Nat.eq_or_lt_of_le h with h2 | h2
        · subst h2; simp [hb]
        · have e1 : ¬ i < m := by omega
          have e2 : ¬ i < m + 1 := by omega
          simp [e1, e2]
    · rw [if_pos rfl, hrow]
      have hk : ¬ c.k = 2 := by
        intro h2
        have := (okAt_iff.1 hc).2
        simp [kindOk, h2] at this
        rw [this.2] at hb; simp at hb
      have hk0 : c.k = 0 → c.v = 0 := by
        intro h2
        have := (okAt_iff.1 hc).2
        simpa [kindOk, h2] using this
      have hf : c.f % 2 ^ m ||| 2 ^ m = c.f % 2 ^ (m + 1) := by
        apply Nat.eq_of_testBit_eq
        intro i
        rw [Nat.testBit_or, Nat.testBit_mod_two_pow, Nat.testBit_mod_two_pow, Nat.testBit_two_pow]
        rcases Nat.lt_or_ge i m with h | h
        · have e3 : ¬ m = i := by omega
          simp [h, Nat.lt_succ_of_lt h, e3]
        · rcases Nat.eq_or_lt_of_le h with h2 | h2
          · subst h2; simp [hb]
          · have e1 : ¬ i < m := by omega
            have e2 : ¬ i < m + 1 := by omega
            have e3 : ¬ m = i := by omega
            simp [e1, e2, e3]
      by_cases h0 : c.k = 0
      · simp [join, joinK, joinV, oneAt, hk, hf, h0, hk0 h0]
      · simp [join, joinK, joinV, oneAt, hk, hf, h0]
theorem unit_then {n : Nat} {xs : List Cl} (hx : Val n xs) : thenC (unitC n) xs = xs := by
  apply List.ext_getElem?
  intro i
  simp only [thenC, List.getElem?_map]
  rcases h : xs[i]? with _ | c
  · rfl
  · have h2 := ofTo_unit (hx.ok i c h) n (Nat.le_refl _)
    simp
    unfold ofC
    rw [unit_length, h2, Nat.mod_eq_of_lt (okAt_iff.1 (hx.ok i c h)).1]
theorem join_none {c : Cl} (h : c.ok) : join ⟨0, 0, 0⟩ c = c := by
  rcases ok_cases h with ⟨f, rfl⟩ | ⟨f, v, rfl⟩ | rfl <;> simp [join, joinK, joinV, manyC]
theorem ofTo_oneAt {xs : List Cl} {i : Nat} : ∀ m, m ≤ i → ofTo xs (oneAt i) m = ⟨0, 0, 0⟩
  | 0, _ => rfl
  | m + 1, h => by
    rw [ofTo_no (by simp [oneAt, Nat.testBit_two_pow]; omega)]
    exact ofTo_oneAt m (by omega)
theorem ofC_oneAt {n : Nat} {xs : List Cl} (hx : Val n xs) {i : Nat} {c : Cl} (hi : xs[i]? = some c) : ofC xs (oneAt i) = c := by
  have h1 : i < xs.length := (List.getElem?_eq_some_iff.1 hi).1
  have h2 : ofTo xs (oneAt i) (i + 1) = c := by
    rw [ofTo_yes (by simp [oneAt, Nat.testBit_two_pow]) hi, ofTo_oneAt i (Nat.le_refl _), join_none (hx.oks i c hi)]
  unfold ofC
  rw [ofTo_skip (k := i + 1) (by omega) (fun j h3 h4 => by simp [oneAt, Nat.testBit_two_pow]; omega), h2]
theorem then_unit {n : Nat} {xs : List Cl} (hx : Val n xs) : thenC xs (unitC n) = xs := by
  apply List.ext_getElem?
  intro i
  simp only [thenC, List.getElem?_map]
  rcases Nat.lt_or_ge i n with h | h
  · have e : xs[i]? = some (xs[i]'(by rw [hx.len]; exact h)) := List.getElem?_eq_getElem _
    rw [unit_at h, e]
    simp [ofC_oneAt hx e]
  · rw [List.getElem?_eq_none (by rw [unit_length]; exact h), List.getElem?_eq_none (by rw [hx.len]; exact h)]
    rfl
end Go.Proofs.YtjcminoaiieckaaGreatDoor
namespace Go.Proofs.YtjcminoaiieckaaGreatDoor
open Go.RowKit
set_option linter.unusedVariables false
structure PF where
  z : Bool
  c : Int
  g : Nat
  rows : List Nat
  cells : List Cl
def WF.pf (f : WF) : PF := ⟨f.z, f.c, f.g, f.rows, f.cells⟩
def zeroP : PF := ⟨true, 0, 0, [], []⟩
def pC (c : Int) : PF := ⟨false, c, 0, [], []⟩
def pF (g : Nat) (rows : List Nat) : PF := ⟨false, 0, g, rows, []⟩
def pX (cs : List Cl) : PF := ⟨false, 0, 0, [], cs⟩
inductive OkP (t n : Int) : PF → Prop
  | zero : OkP t n zeroP
  | bool (h : t = 1) : OkP t n (pC 0)
  | cost (c : Int) (h : t = 2) (h0 : 0 ≤ c) (h1 : c ≤ n) : OkP t n (pC c)
  | facts (m g : Nat) (rows : List Nat) (h : t = 3) (hn : n = (m : Int)) (hg : Good m g rows) : OkP t n (pF g rows)
  | cells (m : Nat) (cs : List Cl) (h : t = 4) (hn : n = (m : Int)) (hv : Val m cs) : OkP t n (pX cs)
def combP (t n : Int) (a b : PF) : PF :=
  if a.z = true then b else if b.z = true then a else if t = 2 then pC (min a.c b.c) else if t = 3 then pF (combG n a.g a.rows b.g b.rows) (combV n a.g a.rows b.g b.rows) else if t = 4 then pX (bothC a.cells b.cells) else pC 0
def extP (t n : Int) (a b : PF) : PF :=
  if a.z = true then zeroP else if b.z = true then zeroP else if t = 2 then pC (min (a.c + b.c) n) else if t = 3 then pF (extG n a.g a.rows b.g b.rows) (extV n a.g a.rows b.g b.rows) else if t = 4 then pX (thenC a.cells b.cells) else pC 0
def oneP (t n : Int) : PF := if t = 3 then pF 0 (onesL n.toNat) else if t = 4 then pX (unitC n.toNat) else pC 0
theorem okP_1 {n : Int} {a : PF} (h : OkP 1 n a) : a = zeroP ∨ a = pC 0 := by
  cases h with
  | zero => exact .inl rfl
  | bool h => exact .inr rfl
  | cost c h h0 h1 => omega
  | facts m g rows h => omega
  | cells m cs h => omega
theorem okP_2 {n : Int} {a : PF} (h : OkP 2 n a) : a = zeroP ∨ ∃ c, a = pC c ∧ 0 ≤ c ∧ c ≤ n := by
  cases h with
  | zero => exact .inl rfl
  | bool h => omega
  | cost c h h0 h1 => exact .inr ⟨c, rfl, h0, h1⟩
  | facts m g rows h => omega
  | cells m cs h => omega
theorem okP_3 {m : Nat} {a : PF} (h : OkP 3 m a) : a = zeroP ∨ ∃ g rows, a = pF g rows ∧ Good m g rows := by
  cases h with
  | zero => exact .inl rfl
  | bool h => omega
  | cost c h h0 h1 => omega
  | facts k g rows h hn hg =>
    obtain rfl : m = k := by omega
    exact .inr ⟨g, rows, rfl, hg⟩
  | cells m cs h => omega
theorem okP_4 {m : Nat} {a : PF} (h : OkP 4 m a) : a = zeroP ∨ ∃ cs, a = pX cs ∧ Val m cs := by
  cases h with
  | zero => exact .inl rfl
  | bool h => omega
  | cost c h h0 h1 => omega
  | facts k g rows h hn hg => omega
  | cells k cs h hn hv =>
    obtain rfl : m = k := by omega
    exact .inr ⟨cs, rfl, hv⟩
theorem plainB_cases {t n : Int} {l : Nat} (h : plainB t n l = true) : l = 0 ∧ ((t = 1 ∧ n = 0) ∨ (t = 2 ∧ 0 ≤ n ∧ n ≤ 1048576) ∨ (t = 3 ∧ ∃ m : Nat, n = m ∧ m ≤ 64) ∨ (t = 4 ∧ ∃ m : Nat, n = m ∧ m ≤ 64)) := by
  obtain ⟨h0, ht⟩ := plainB_tag h
  obtain ⟨d0, d1, d2, d3⟩ := plainB_dim h
  refine ⟨h0, ?_⟩
  rcases ht with rfl | rfl | rfl | rfl
  · exact .inl ⟨rfl, d2 rfl⟩
  · exact .inr (.inl ⟨rfl, d0, d1⟩)
  · exact .inr (.inr (.inl ⟨rfl, n.toNat, by omega, by have := d3 (.inl rfl); omega⟩))
  · exact .inr (.inr (.inr ⟨rfl, n.toNat, by omega, by have := d3 (.inr rfl); omega⟩))
section
variable {t n : Int} {l : Nat} {a b c : PF}
theorem comb_zl : combP t n zeroP a = a := by simp [combP, zeroP]
theorem comb_zr (ha : OkP t n a) : combP t n a zeroP = a := by cases ha <;> simp [combP, zeroP, pC, pF, pX]
theorem ext_zl : extP t n zeroP a = zeroP := by simp [extP, zeroP]
theorem ext_zr : extP t n a zeroP = zeroP := by simp [extP, zeroP]
theorem comb_1 : combP 1 n (pC 0) (pC 0) = pC 0 := by simp [combP, pC]
theorem comb_2 (x y : Int) : combP 2 n (pC x) (pC y) = pC (min x y) := by simp [combP, pC]
theorem comb_3 (g h : Nat) (xs ys : List Nat) : combP 3 n (pF g xs) (pF h ys) = pF (combG n g xs h ys) (combV n g xs h ys) := by simp [combP, pF]
theorem comb_4 (xs ys : List Cl) : combP 4 n (pX xs) (pX ys) = pX (bothC xs ys) := by simp [combP, pX]
theorem ext_1 : extP 1 n (pC 0) (pC 0) = pC 0 := by simp [extP, pC]
theorem ext_2 (x y : Int) : extP 2 n (pC x) (pC y) = pC (min (x + y) n) := by simp [extP, pC]
theorem ext_3 (g h : Nat) (xs ys : List Nat) : extP 3 n (pF g xs) (pF h ys) = pF (extG n g xs h ys) (extV n g xs h ys) := by simp [extP, pF]
theorem ext_4 (xs ys : List Cl) : extP 4 n (pX xs) (pX ys) = pX (thenC xs ys) := by simp [extP, pX]
theorem one_1 : oneP 1 n = pC 0 := by simp [oneP]
theorem one_2 : oneP 2 n = pC 0 := by simp [oneP]
theorem one_3 (m : Nat) : oneP 3 m = pF 0 (onesL m) := by simp [oneP]
theorem one_4 (m : Nat) : oneP 4 m = pX (unitC m) := by simp [oneP]
theorem one_okP (h : plainB t n l = true) : OkP t n (oneP t n) := by
  rcases (plainB_cases h).2 with ⟨rfl, hn⟩ | ⟨rfl, h0, h1⟩ | ⟨rfl, m, rfl, hm⟩ | ⟨rfl, m, rfl, hm⟩
  · rw [one_1]; exact .bool rfl
  · rw [one_2]; exact .cost 0 rfl (by omega) h0
  · rw [one_3]; exact .facts m 0 _ rfl rfl (ones_good hm)
  · rw [one_4]; exact .cells m _ rfl rfl (val_unit hm)
theorem ext_okP (h : plainB t n l = true) (ha : OkP t n a) (hb : OkP t n b) : OkP t n (extP t n a b) := by
  rcases (plainB_cases h).2 with ⟨rfl, hn⟩ | ⟨rfl, h0, h1⟩ | ⟨rfl, m, rfl, hm⟩ | ⟨rfl, m, rfl, hm⟩
  · rcases okP_1 ha with rfl | rfl <;> rcases okP_1 hb with rfl | rfl <;> simp only [ext_zl, ext_zr, ext_1] <;> assumption
  · rcases okP_2 ha with rfl | ⟨x, rfl, hx⟩
    · rw [ext_zl]; exact .zero
    rcases okP_2 hb with rfl | ⟨y, rfl, hy⟩
    · rw [ext_zr]; exact .zero
    rw [ext_2]; exact .cost _ rfl (by omega) (by omega)
  · rcases okP_3 ha with rfl | ⟨g, xs, rfl, hx⟩
    · rw [ext_zl]; exact .zero
    rcases okP_3 hb with rfl | ⟨g2, ys, rfl, hy⟩
    · rw [ext_zr]; exact .zero
    rw [ext_3]; exact .facts m _ _ rfl rfl (hx.extT hy)
  · rcases okP_4 ha with rfl | ⟨xs, rfl, hx⟩
    · rw [ext_zl]; exact .zero
    rcases okP_4 hb with rfl | ⟨ys, rfl, hy⟩
    · rw [ext_zr]; exact .zero
    rw [ext_4]; exact .cells m _ rfl rfl (val_then hx hy)
theorem combP_comm (h : plainB t n l = true) (ha : OkP t n a) (hb : OkP t n b) : combP t n a b = combP t n b a := by
  rcases (plainB_cases h).2 with ⟨rfl, hn⟩ | ⟨rfl, h0, h1⟩ | ⟨rfl, m, rfl, hm⟩ | ⟨rfl, m, rfl, hm⟩
  · rcases okP_1 ha with rfl | rfl <;> rcases okP_1 hb with rfl | rfl <;> simp only [comb_zl, comb_zr ha, comb_zr hb, comb_1]
  · rcases okP_2 ha with rfl | ⟨x, rfl, hx⟩
    · rw [comb_zl, comb_zr hb]
    rcases okP_2 hb with rfl | ⟨y, rfl, hy⟩
    · rw [comb_zl, comb_zr ha]
    rw [comb_2, comb_2, Int.min_comm]
  · rcases okP_3 ha with rfl | ⟨g, xs, rfl, hx⟩
    · rw [comb_zl, comb_zr hb]
    rcases okP_3 hb with rfl | ⟨g2, ys, rfl, hy⟩
    · rw [comb_zl, comb_zr ha]
    rw [comb_3, comb_3, (ring_comm hx hy).1, (ring_comm hx hy).2]
  · rcases okP_4 ha with rfl | ⟨xs, rfl, hx⟩
    · rw [comb_zl, comb_zr hb]
    rcases okP_4 hb with rfl | ⟨ys, rfl, hy⟩
    · rw [comb_zl, comb_zr ha]
    rw [comb_4, comb_4, both_comm hx hy]
theorem combP_self (h : plainB t n l = true) (ha : OkP t n a) : combP t n a a = a := by
  rcases (plainB_cases h).2 with ⟨rfl, hn⟩ | ⟨rfl, h0, h1⟩ | ⟨rfl, m, rfl, hm⟩ | ⟨rfl, m, rfl, hm⟩
  · rcases okP_1 ha with rfl | rfl <;> simp only [comb_zl, comb_1]
  · rcases okP_2 ha with rfl | ⟨x, rfl, hx⟩
    · rw [comb_zl]
    rw [comb_2, Int.min_self]
  · rcases okP_3 ha with rfl | ⟨g, xs, rfl, hx⟩
    · rw [comb_zl]
    rw [comb_3, (ring_idem hx).1, (ring_idem hx).2]
  · rcases okP_4 ha with rfl | ⟨xs, rfl, hx⟩
    · rw [comb_zl]
    rw [comb_4, both_self hx]
theorem extP_assoc (h : plainB t n l = true) (ha : OkP t n a) (hb : OkP t n b) (hc : OkP t n c) : extP t n (extP t n a b) c = extP t n a (extP t n b c) := by
  by_cases za : a = zeroP
  · subst za; simp only [ext_zl]
  by_cases zb : b = zeroP
  · subst zb; simp only [ext_zl, ext_zr]
  by_cases zc : c = zeroP
  · subst zc; simp only [ext_zr]
  rcases (plainB_cases h).2 with ⟨rfl, hn⟩ | ⟨rfl, h0, h1⟩ | ⟨rfl, m, rfl, hm⟩ | ⟨rfl, m, rfl, hm⟩
  · obtain rfl := (okP_1 ha).resolve_left za; obtain rfl := (okP_1 hb).resolve_left zb; obtain rfl := (okP_1 hc).resolve_left zc
    simp only [ext_1]
  · obtain ⟨x, rfl, hx⟩ := (okP_2 ha).resolve_left za; obtain ⟨y, rfl, hy⟩ := (okP_2 hb).resolve_left zb; obtain ⟨w, rfl, hw⟩ := (okP_2 hc).resolve_left zc
    simp only [ext_2]; congr 1; omega
  · obtain ⟨g, x, rfl, hx⟩ := (okP_3 ha).resolve_left za; obtain ⟨g2, y, rfl, hy⟩ := (okP_3 hb).resolve_left zb; obtain ⟨g3, w, rfl, hw⟩ := (okP_3 hc).resolve_left zc
    simp only [ext_3, (ring_then hx hy hw).1, (ring_then hx hy hw).2]
  · obtain ⟨x, rfl, hx⟩ := (okP_4 ha).resolve_left za; obtain ⟨y, rfl, hy⟩ := (okP_4 hb).resolve_left zb; obtain ⟨w, rfl, hw⟩ := (okP_4 hc).resolve_left zc
    simp only [ext_4, then_assoc hx.oks hy.oks hw.oks]
theorem one_ext (h : plainB t n l = true) (ha : OkP t n a) : extP t n (oneP t n) a = a := by
  by_cases za : a = zeroP
  · subst za; rw [ext_zr]
  rcases (plainB_cases h).2 with ⟨rfl, hn⟩ | ⟨rfl, h0, h1⟩ | ⟨rfl, m, rfl, hm⟩ | ⟨rfl, m, rfl, hm⟩
  · obtain rfl := (okP_1 ha).resolve_left za
    rw [one_1, ext_1]
  · obtain ⟨x, rfl, hx⟩ := (okP_2 ha).resolve_left za
    rw [one_2, ext_2]; congr 1; omega
  · obtain ⟨g, x, rfl, hx⟩ := (okP_3 ha).resolve_left za
    rw [one_3, ext_3, (ring_oneL hx).1, (ring_oneL hx).2]
  · obtain ⟨x, rfl, hx⟩ := (okP_4 ha).resolve_left za
    rw [one_4, ext_4, unit_then hx]
theorem ext_one (h : plainB t n l = true) (ha : OkP t n a) : extP t n a (oneP t n) = a := by
  by_cases za : a = zeroP
  · subst za; rw [ext_zl]
  rcases (plainB_cases h).2 with ⟨rfl, hn⟩ | ⟨rfl, h0, h1⟩ | ⟨rfl, m, rfl, hm⟩ | ⟨rfl, m, rfl, hm⟩
  · obtain rfl := (okP_1 ha).resolve_left za
    rw [one_1, ext_1]
  · obtain ⟨x, rfl, hx⟩ := (okP_2 ha).resolve_left za
    rw [one_2, ext_2]; congr 1; omega
  · obtain ⟨g, x, rfl, hx⟩ := (okP_3 ha).resolve_left za
    rw [one_3, ext_3, (ring_oneR hx).1, (ring_oneR hx).2]
  · obtain ⟨x, rfl, hx⟩ := (okP_4 ha).resolve_left za
    rw [one_4, ext_4, then_unit hx]
theorem ext_comb (h : plainB t n l = true) (ha : OkP t n a) (hb : OkP t n b) (hc : OkP t n c) : extP t n a (combP t n b c) = combP t n (extP t n a b) (extP t n a c) := by
  by_cases za : a = zeroP
  · subst za; simp only [ext_zl, comb_zl]
  by_cases zb : b = zeroP
  · subst zb; simp only [ext_zr, comb_zl]
  by_cases zc : c = zeroP
  · subst zc; rw [ext_zr, comb_zr hb, comb_zr (ext_okP h ha hb)]
  rcases (plainB_cases h).2 with ⟨rfl, hn⟩ | ⟨rfl, h0, h1⟩ | ⟨rfl, m, rfl, hm⟩ | ⟨rfl, m, rfl, hm⟩
  · obtain rfl := (okP_1 ha).resolve_left za; obtain rfl := (okP_1 hb).resolve_left zb; obtain rfl := (okP_1 hc).resolve_left zc
    simp only [ext_1, comb_1]
  · obtain ⟨x, rfl, hx⟩ := (okP_2 ha).resolve_left za; obtain ⟨y, rfl, hy⟩ := (okP_2 hb).resolve_left zb; obtain ⟨w, rfl, hw⟩ := (okP_2 hc).resolve_left zc
    simp only [ext_2, comb_2]; congr 1; omega
  · obtain ⟨g, x, rfl, hx⟩ := (okP_3 ha).resolve_left za; obtain ⟨g2, y, rfl, hy⟩ := (okP_3 hb).resolve_left zb; obtain ⟨g3, w, rfl, hw⟩ := (okP_3 hc).resolve_left zc
    simp only [ext_3, comb_3, (ring_left hx hy hw).1, (ring_left hx hy hw).2]
  · obtain ⟨x, rfl, hx⟩ := (okP_4 ha).resolve_left za; obtain ⟨y, rfl, hy⟩ := (okP_4 hb).resolve_left zb; obtain ⟨w, rfl, hw⟩ := (okP_4 hc).resolve_left zc
    simp only [ext_4, comb_4, then_both hx hy hw]
theorem comb_ext (h : plainB t n l = true) (ha : OkP t n a) (hb : OkP t n b) (hc : OkP t n c) : extP t n (combP t n a b) c = combP t n (extP t n a c) (extP t n b c) := by
  by_cases zc : c = zeroP
  · subst zc; simp only [ext_zr, comb_zl]
  by_cases za : a = zeroP
  · subst za; simp only [ext_zl, comb_zl]
  by_cases zb : b = zeroP
  · subst zb; rw [ext_zl, comb_zr ha, comb_zr (ext_okP h ha hc)]
  rcases (plainB_cases h).2 with ⟨rfl, hn⟩ | ⟨rfl, h0, h1⟩ | ⟨rfl, m, rfl, hm⟩ | ⟨rfl, m, rfl, hm⟩
  · obtain rfl := (okP_1 ha).resolve_left za; obtain rfl := (okP_1 hb).resolve_left zb; obtain rfl := (okP_1 hc).resolve_left zc
    simp only [ext_1, comb_1]
  · obtain ⟨x, rfl, hx⟩ := (okP_2 ha).resolve_left za; obtain ⟨y, rfl, hy⟩ := (okP_2 hb).resolve_left zb; obtain ⟨w, rfl, hw⟩ := (okP_2 hc).resolve_left zc
    simp only [ext_2, comb_2]; congr 1; omega
  · obtain ⟨g, x, rfl, hx⟩ := (okP_3 ha).resolve_left za; obtain ⟨g2, y, rfl, hy⟩ := (okP_3 hb).resolve_left zb; obtain ⟨g3, w, rfl, hw⟩ := (okP_3 hc).resolve_left zc
    simp only [ext_3, comb_3, (ring_right hx hy hw).1, (ring_right hx hy hw).2]
  · obtain ⟨x, rfl, hx⟩ := (okP_4 ha).resolve_left za; obtain ⟨y, rfl, hy⟩ := (okP_4 hb).resolve_left zb; obtain ⟨w, rfl, hw⟩ := (okP_4 hc).resolve_left zc
    simp only [ext_4, comb_4, both_then hx hy hw]
end
inductive PS where
  | one (t n : Int)
  | two (t n u m : Int)
def PS.ok : PS → Prop
  | .one t n => plainB t n 0 = true
  | .two t n u m => plainB t n 0 = true ∧ plainB u m 0 = true
inductive PX where
  | one (a : PF)
  | two (a b : PF)
def OkX : PS → PX → Prop
  | .one t n, .one a => OkP t n a
  | .two t n u m, .two a b => OkP t n a ∧ OkP u m b
  | _, _ => False
def combX : PS → PX → PX → PX
  | .one t n, .one a, .one b => .one (combP t n a b)
  | .two t n u m, .two a b, .two c d => .two (combP t n a c) (combP u m b d)
  | _, x, _ => x
def extX : PS → PX → PX → PX
  | .one t n, .one a, .one b => .one (extP t n a b)
  | .two t n u m, .two a b, .two c d => .two (extP t n a c) (extP u m b d)
  | _, x, _ => x
def oneX : PS → PX
  | .one t n => .one (oneP t n)
  | .two t n u m => .two (oneP t n) (oneP u m)
def zeroX : PS → PX
  | .one _ _ => .one zeroP
  | .two _ _ _ _ => .two zeroP zeroP
section
variable {S : PS} {x y v : PX}
theorem combX_comm (h : S.ok) (hx : OkX S x) (hy : OkX S y) : combX S x y = combX S y x := by
  cases S <;> cases x <;> cases y <;> first | exact hx.elim | exact hy.elim | exact congrArg PX.one (combP_comm h hx hy) | (simp only [combX]; rw [combP_comm h.1 hx.1 hy.1, combP_comm h.2 hx.2 hy.2])
theorem combX_self (h : S.ok) (hx : OkX S x) : combX S x x = x := by
  cases S <;> cases x <;> first | exact hx.elim | exact congrArg PX.one (combP_self h hx) | (simp only [combX]; rw [combP_self h.1 hx.1, combP_self h.2 hx.2])
theorem combX_zero (hx : OkX S x) : combX S (zeroX S) x = x := by
  cases S <;> cases x <;> first | exact hx.elim | (simp only [combX, zeroX, comb_zl])
theorem extX_assoc (h : S.ok) (hx : OkX S x) (hy : OkX S y) (hv : OkX S v) : extX S (extX S x y) v = extX S x (extX S y v) := by
  cases S <;> cases x <;> cases y <;> cases v <;> first | exact hx.elim | exact hy.elim | exact hv.elim | exact congrArg PX.one (extP_assoc h hx hy hv) | (simp only [extX]; rw [extP_assoc h.1 hx.1 hy.1 hv.1, extP_assoc h.2 hx.2 hy.2 hv.2])
theorem oneX_ext (h : S.ok) (hx : OkX S x) : extX S (oneX S) x = x := by
  cases S <;> cases x <;> first | exact hx.elim | exact congrArg PX.one (one_ext h hx) | (simp only [extX, oneX]; rw [one_ext h.1 hx.1, one_ext h.2 hx.2])
theorem extX_one (h : S.ok) (hx : OkX S x) : extX S x (oneX S) = x := by
  cases S <;> cases x <;> first | exact hx.elim | exact congrArg PX.one (ext_one h hx) | (simp only [extX, oneX]; rw [ext_one h.1 hx.1, ext_one h.2 hx.2])
theorem zeroX_ext (hx : OkX S x) : extX S (zeroX S) x = zeroX S := by
  cases S <;> cases x <;> first | exact hx.elim | (simp only [extX, zeroX, ext_zl])
theorem extX_zero (hx : OkX S x) : extX S x (zeroX S) = zeroX S := by
  cases S <;> cases x <;> first | exact hx.elim | (simp only [extX, zeroX, ext_zr])
theorem extX_comb (h : S.ok) (hx : OkX S x) (hy : OkX S y) (hv : OkX S v) : extX S x (combX S y v) = combX S (extX S x y) (extX S x v) := by
  cases S <;> cases x <;> cases y <;> cases v <;> first | exact hx.elim | exact hy.elim | exact hv.elim | exact congrArg PX.one (ext_comb h hx hy hv) | (simp only [combX, extX]; rw [ext_comb h.1 hx.1 hy.1 hv.1, ext_comb h.2 hx.2 hy.2 hv.2])
theorem combX_ext (h : S.ok) (hx : OkX S x) (hy : OkX S y) (hv : OkX S v) : extX S (combX S x y) v = combX S (extX S x v) (extX S y v) := by
  cases S <;> cases x <;> cases y <;> cases v <;> first | exact hx.elim | exact hy.elim | exact hv.elim | exact congrArg PX.one (comb_ext h hx hy hv) | (simp only [combX, extX]; rw [comb_ext h.1 hx.1 hy.1 hv.1, comb_ext h.2 hx.2 hy.2 hv.2])
end
structure PIs (w : World) (t n : Int) (f : WF) (a : PF) : Prop where
  at_ : f.At w
  pf : f.pf = a
  ok : OkP t n a
  pl : f.pl = 0
theorem PIs.below {w w' : World} {t n : Int} {f : WF} {a : PF} (h : PIs w t n f a) (hb : Below w.heap.size w w') : PIs w' t n f a := ⟨h.at_.below hb, h.pf, h.ok, h.pl⟩
def XIs (w : World) : PS → WF → PX → Prop
  | .one t n, f, .one a => PIs w t n f a
  | .two t n u m, f, .two a b => f.pf = pC 0 ∧ f.rl = 0 ∧ f.cl = 0 ∧ f.pl = 2 ∧ ∃ blk off g h, f.pa = some ⟨blk, off, none⟩ ∧ W6 w blk off g ∧ W6 w blk (off + 6) h ∧ PIs w t n g a ∧ PIs w u m h b
  | _, _, _ => False
theorem XIs.below {w w' : World} {S : PS} {f : WF} {x : PX} (h : XIs w S f x) (hb : Below w.heap.size w w') : XIs w' S f x := by
  cases S <;> cases x <;> first | exact h.elim | exact PIs.below h hb | skip
  obtain ⟨h1, h2, h3, h4, blk, off, g, k, h5, h6, h7, h8, h9⟩ := h
  exact ⟨h1, h2, h3, h4, blk, off, g, k, h5, h6.below hb, h7.below hb, h8.below hb, h9.below hb⟩
theorem XIs.ok {w : World} {S : PS} {f : WF} {x : PX} (h : XIs w S f x) : OkX S x := by
  cases S <;> cases x <;> first | exact h.elim | exact PIs.ok h | skip
  obtain ⟨_, _, _, _, _, _, _, _, _, _, _, h8, h9⟩ := h
  exact ⟨h8.ok, h9.ok⟩
theorem PIs.of {w : World} {t n : Int} {f : WF} (hp : plainB t n 0 = true) (hf : f.At w) (h : pwOk t n f = true) : PIs w t n f f.pf := by
  have hrl := hf.rl; have hcl := hf.cl; have hg := hf.g64; have hr := hf.r64
  obtain ⟨z, c, g, ra, rl, rc, rows, ca, cl, cc, cells, pa, pl, pc⟩ := f
  dsimp only at hrl hcl hg hr
  subst hrl hcl
  simp only [pwOk, Bool.and_eq_true, Bool.or_eq_true, bareB, onlyB, decide_eq_true_eq, Bool.not_eq_true'] at h
  obtain ⟨⟨h1, h2, h3, h4⟩, h5⟩ := h
  have ht5 : t ≠ 5 := by rintro rfl; simp [plainB] at hp
  have hpl : pl = 0 := by
    rcases h4 with ⟨_, h4⟩ | h4
    · exact absurd h4 ht5
    · exact h4
  refine ⟨hf, rfl, ?_, hpl⟩
  show OkP t n ⟨z, c, g, rows, cells⟩
  cases z
  · have h1' : t = 2 ∨ c = 0 := by simpa using h1
    have h2' : t = 3 ∨ (g = 0 ∧ rows.length = 0) := by simpa using h2
    have h3' : t = 4 ∨ cells.length = 0 := by simpa using h3
    simp only [Bool.false_eq_true, false_or] at h5
    rcases (plainB_cases hp).2 with ⟨rfl, hn⟩ | ⟨rfl, h0, h1⟩ | ⟨rfl, m, rfl, hm⟩ | ⟨rfl, m, rfl, hm⟩
    · obtain rfl : c = 0 := by omega
      obtain ⟨rfl, hr0⟩ : g = 0 ∧ rows.length = 0 := by rcases h2' with h | h; · omega
                                                        exact h
      obtain rfl := List.eq_nil_of_length_eq_zero hr0
      obtain rfl := List.eq_nil_of_length_eq_zero (h3'.resolve_left (by decide))
      exact .bool rfl
    · obtain ⟨rfl, hr0⟩ := h2'.resolve_left (by decide)
      obtain rfl := List.eq_nil_of_length_eq_zero hr0
      obtain rfl := List.eq_nil_of_length_eq_zero (h3'.resolve_left (by decide))
      simp only [if_true, Bool.and_eq_true, decide_eq_true_eq] at h5
      exact .cost c rfl h5.1 h5.2
    · obtain rfl : c = 0 := by omega
      obtain rfl := List.eq_nil_of_length_eq_zero (h3'.resolve_left (by decide))
      have h6 : checkE (m : Int) g rows = 0 := by simpa using h5
      obtain ⟨k, hk, hgood⟩ := check_good hg hr h6
      exact .facts k g rows rfl hk hgood
    · obtain rfl : c = 0 := by omega
      obtain ⟨rfl, hr0⟩ := h2'.resolve_left (by decide)
      obtain rfl := List.eq_nil_of_length_eq_zero hr0
      have h6 : chkC (m : Int) cells = 0 := by simpa using h5
      obtain ⟨k, hk, hv⟩ := val_of h6
      exact .cells k cells rfl hk hv
  · obtain rfl : c = 0 := by simpa using h1
    obtain ⟨rfl, hr0⟩ : g = 0 ∧ rows.length = 0 := by simpa using h2
    have hc0 : cells.length = 0 := by simpa using h3
    obtain rfl := List.eq_nil_of_length_eq_zero hr0
    obtain rfl := List.eq_nil_of_length_eq_zero hc0
    exact .zero
end Go.Proofs.YtjcminoaiieckaaGreatDoor
namespace Go.Proofs.YtjcminoaiieckaaGreatDoor
open Go.RowKit
set_option linter.unusedVariables false
def pairF (blk : Nat) : WF := ⟨false, 0, 0, none, 0, 0, [], none, 0, 0, [], some ⟨blk, 0, none⟩, 2, 2⟩
def zeroF : WF := ⟨true, 0, 0, none, 0, 0, [], none, 0, 0, [], none, 0, 0⟩
set_option maxRecDepth 100000 in
set_option maxHeartbeats 2000000 in
theorem pair_is (f g : WF) (w : World) :
    Calls Tryz.prog 67 #[f.val, g.val] w fun e w' => ∃ blk, e = .returned (pairF blk).val ∧ W6 w' blk 0 f ∧ W6 w' blk 6 g ∧ w.heap.size ≤ blk ∧ Below w.heap.size w w' := by
  obtain ⟨z, c, g0, ra, rl, rc, rows, ca, cl, cc, cells, pa, pl, pc⟩ := f
  obtain ⟨z2, c2, g2, ra2, rl2, rc2, rows2, ca2, cl2, cc2, cells2, pa2, pl2, pc2⟩ := g
  show Calls Tryz.prog 67 #[.agg #[.bool z, .int .i64 c, .int .u64 (g0 : Int), .slice ra rl rc, .slice ca cl cc, .slice pa pl pc], .agg #[.bool z2, .int .i64 c2, .int .u64 (g2 : Int), .slice ra2 rl2 rc2, .slice ca2 cl2 cc2, .slice pa2 pl2 pc2]] w _
  obtain ⟨W2, hW2⟩ : ∃ W, (w.alloc (.cells #[.bool z, .int .i64 c, .int .u64 (g0 : Int), .slice ra rl rc, .slice ca cl cc, .slice pa pl pc] 33)).alloc (.cells #[.bool z2, .int .i64 c2, .int .u64 (g2 : Int), .slice ra2 rl2 rc2, .slice ca2 cl2 cc2, .slice pa2 pl2 pc2] 33) = W := ⟨_, rfl⟩
  have hs2 : W2.heap.size = w.heap.size + 1 + 1 := by rw [← hW2]; simp
  have B2 : Below w.heap.size w W2 := by rw [← hW2]; exact wbox _ _ _ _ _
  obtain ⟨t0, t1⟩ := two_boxes2 W2 #[.bool false, .int .i64 0, .int .u64 0, .slice none 0 0, .slice none 0 0, .slice (some ⟨w.heap.size + 1 + 1 + 1, 0, none⟩) 2 2] #[.bool z, .int .i64 c, .int .u64 (g0 : Int), .slice ra rl rc, .slice ca cl cc, .slice pa pl pc, .bool z2, .int .i64 c2, .int .u64 (g2 : Int), .slice ra2 rl2 rc2, .slice ca2 cl2 cc2, .slice pa2 pl2 pc2] 33 33
  have B4 : Below w.heap.size w ((W2.alloc (.cells #[.bool false, .int .i64 0, .int .u64 0, .slice none 0 0, .slice none 0 0, .slice (some ⟨w.heap.size + 1 + 1 + 1, 0, none⟩) 2 2] 33)).alloc (.cells #[.bool z, .int .i64 c, .int .u64 (g0 : Int), .slice ra rl rc, .slice ca cl cc, .slice pa pl pc, .bool z2, .int .i64 c2, .int .u64 (g2 : Int), .slice ra2 rl2 rc2, .slice ca2 cl2 cc2, .slice pa2 pl2 pc2] 33)) := B2.trans ((wbox _ _ _ _ _).mono B2.size)
  rw [hs2] at t0 t1
  obtain ⟨s0, s1, s2, s3, s4, s5⟩ := six_cells t0
  have T1 := Lib.hid t1
  have HB4 := Lib.hid B4
  clear t0 t1 B2 B4 hs2
  subst hW2
  go_enter Tryz.func67, Tryz.ntmps67
  go_wp2_with fail
  refine bodyPost_ret (v := .agg #[.bool false, .int .i64 0, .int .u64 0, .slice none 0 0, .slice none 0 0, .slice (some ⟨w.heap.size + 1 + 1 + 1, 0, none⟩) 2 2]) ?_ rfl ?_
  rotate_left
  · exact ⟨w.heap.size + 1 + 1 + 1, rfl, ⟨bcell T1.out rfl, bcell T1.out rfl, bcell T1.out rfl, bcell T1.out rfl, bcell T1.out rfl, bcell T1.out rfl⟩, ⟨bcell T1.out rfl, bcell T1.out rfl, bcell T1.out rfl, bcell T1.out rfl, bcell T1.out rfl, bcell T1.out rfl⟩, by omega, HB4.out⟩
  simp [results, Tryz.results67, go_sem, s0, s1, s2, s3, s4, s5]
set_option maxRecDepth 100000 in
set_option maxHeartbeats 2000000 in
theorem zeroA_plain (t n : Int) (a : Option Addr) (l c0 : Nat) (ht : t ≠ 5) (w : World) :
    Calls Tryz.prog 41 #[.agg #[.int .i64 t, .int .i64 n, .slice a l c0]] w fun e w' => e = .returned zeroF.val ∧ Below w.heap.size w w' := by
  have e5 : (t == 5) = false := by simp [ht]
  clear ht
  obtain ⟨t0, t1⟩ := two_boxes2 w #[.int .i64 t, .int .i64 n, .slice a l c0] #[.bool true, .int .i64 0, .int .u64 0, .slice none 0 0, .slice none 0 0, .slice none 0 0] 25 33
  obtain ⟨s0, s1, s2, s3, s4, s5⟩ := six_cells t1
  clear t0 t1
  go_enter Tryz.func41, Tryz.ntmps41
  go_wp2_with fail
  refine bodyPost_ret (v := .agg #[.bool true, .int .i64 0, .int .u64 0, .slice none 0 0, .slice none 0 0, .slice none 0 0]) ?_ rfl ⟨rfl, wbox _ _ _ _ _⟩
  simp [results, Tryz.results41, go_sem, s0, s1, s2, s3, s4, s5]
end Go.Proofs.YtjcminoaiieckaaGreatDoor
namespace Go.Proofs.YtjcminoaiieckaaGreatDoor
open Go.RowKit
set_option linter.unusedVariables false
theorem pl_pair {t n : Int} {l : Nat} (h : plainB t n l = true) : t ≠ 5 := by
  rintro rfl; simp [plainB] at h
set_option maxRecDepth 100000 in
set_option maxHeartbeats 2000000 in
theorem spaceR_is (d : Nat) (s : SV) (e0 : Int) (w : World) (hs : SIn w d s) (he : spaceE s = e0) :
    Calls Tryz.prog 19 #[s.f.val] w fun e w' => e = .returned (.int .i64 e0) ∧ Below w.heap.size w w' := by
  match d, s, hs with
  | d + 1, .mk ⟨t, n, a, l, c⟩ ps, hs =>
  show Calls Tryz.prog 19 #[.agg #[.int .i64 t, .int .i64 n, .slice a l c]] w _
  have hl : ps.length = l := hs.1
  by_cases ht : t = 5
  · subst ht
    have hB := Lib.hid (sbox w #[.int .i64 5, .int .i64 n, .slice a l c] 25)
    have BX := Lib.hid (heapV_new w (.cells #[.int .i64 5, .int .i64 n, .slice a l c] 25))
    have hpl : plainB 5 n l = false := by simp [plainB]
    by_cases h0 : n = 0 ∧ l = 2
    · obtain ⟨rfl, rfl⟩ := h0
      obtain ⟨p, q, rfl⟩ := two_of hl
      obtain ⟨_, b, off, ha, hb, hp, hq, _, _⟩ := hs.two
      obtain rfl : a = some ⟨b, off, none⟩ := ha
      obtain ⟨⟨pt, pn, pa, pl, pc⟩, pps⟩ := p
      obtain ⟨⟨qt, qn, qa, ql, qc⟩, qps⟩ := q
      have HP := Lib.hid (hp.below hB.out); have HQ := Lib.hid (hq.below hB.out)
      obtain ⟨r1, hr1⟩ : ∃ r, plainB pt pn pl = r := ⟨_, rfl⟩
      obtain ⟨r2, hr2⟩ : ∃ r, plainB qt qn ql = r := ⟨_, rfl⟩
      have HR1 := Lib.hid hr1; have HR2 := Lib.hid hr2
      have HE : Hid ((if r1 = true ∧ r2 = true then (0 : Int) else 50) = e0) := by
        show _ = _
        rw [← he]; simp [spaceE, hpl, SV.pl, SV.f, hr1, hr2]
      obtain ⟨W0, hW0⟩ : ∃ W, w.alloc (.cells #[.int .i64 5, .int .i64 0, .slice (some ⟨b, off, none⟩) 2 c] 25) = W := ⟨_, rfl⟩
      rw [hW0] at BX HP HQ hB
      clear hs hl hp hq hr1 hr2 he hpl
      have NX : ∀ W : World, Below W0.heap.size W0 W → Hid (W.cell? ⟨w.heap.size, 0, none⟩ = some (.int .i64 5) ∧ W.cell? ⟨w.heap.size, 1, none⟩ = some (.int .i64 0) ∧ W.cell? ⟨w.heap.size, 2, none⟩ = some (.slice (some ⟨b, off, none⟩) 2 c)) := fun _ h => tri_cells (heap_old BX.out h)
      have NNX := Lib.hid NX
      clear NX
      obtain ⟨z0, z1, z2⟩ := (NNX.out _ (Below.refl _ _)).out
      go_enter Tryz.func19, Tryz.ntmps19
      go_wp2_with fail
      clear z0 z1 z2
      go_loopw [3, 4] (fun o i wr => Below W0.heap.size W0 wr ∧ ((i = .int .i64 0 ∧ o = .bool true) ∨ (i = .int .i64 1 ∧ o = .bool r1) ∨ (i = .int .i64 2 ∧ r1 = true ∧ o = .bool r2))) (fun _ i _ => 2 - (intOf i).toNat)
      case atStart => exact ⟨Below.refl _ _, .inl ⟨rfl, rfl⟩⟩
      case round =>
        obtain ⟨hb1, hrel⟩ := hrel
        obtain ⟨x0, x1, x2⟩ := (NNX.out _ hb1).out
        obtain ⟨y0, y1, y2⟩ := HP.out.below hb1
        obtain ⟨v0, v1, v2⟩ := HQ.out.below hb1
        dsimp only [SV.f] at y0 y1 y2 v0 v1 v2
        simp only [Nat.add_assoc, Nat.reduceAdd] at v1 v2
        rcases hrel with ⟨rfl, rfl⟩ | ⟨rfl, rfl⟩ | ⟨rfl, hr, rfl⟩
        · by_cases hp5 : pt = 5
          · subst hp5
            have HF : Hid (r1 = false) := by show _ = _; rw [← HR1.out]; simp [plainB]
            go_wp2_with fail
            go_roundw
            case rel => exact ⟨hb1, .inr (.inl ⟨rfl, by rw [HF.out]⟩)⟩
            case measure => simp [intOf]
          · have hp6 : (pt != 5) = true := by simp [hp5]
            go_wp2_with fail
            refine (spaceR_flat pt pn pa pl pc hp5 r1 HR1.out _).mono ?_
            rintro e w3 ⟨rfl, hb3⟩
            cases r1
            all_goals
              simp only [Bool.false_eq_true, if_false, if_true]
              go_wp2_with fail
              go_roundw
              case rel => exact ⟨hb1.trans (hb3.mono hb1.size), .inr (.inl ⟨rfl, rfl⟩)⟩
              case measure => simp [intOf]
        · cases r1
          · have HE2 : Hid ((50 : Int) = e0) := by show _ = _; rw [← HE.out]; simp
            go_wp2_with fail
            go_ret
            exact ⟨rint HE2.out, hB.out.trans (hb1.mono hB.out.size)⟩
          · by_cases hp5 : qt = 5
            · subst hp5
              have HF : Hid (r2 = false) := by show _ = _; rw [← HR2.out]; simp [plainB]
              go_wp2_with fail
              go_roundw
              case rel => exact ⟨hb1, .inr (.inr ⟨by first | rfl | trivial, by first | rfl | trivial, by first | rfl | (rw [HF.out])⟩)⟩
              case measure => simp [intOf]
            · have hp6 : (qt != 5) = true := by simp [hp5]
              go_wp2_with fail
              refine (spaceR_flat qt qn qa ql qc hp5 r2 HR2.out _).mono ?_
              rintro e w3 ⟨rfl, hb3⟩
              cases r2
              all_goals
                simp only [Bool.false_eq_true, if_false, if_true]
                go_wp2_with fail
                go_roundw
                case rel => exact ⟨hb1.trans (hb3.mono hb1.size), .inr (.inr ⟨by first | rfl | trivial, by first | rfl | trivial, by first | rfl | trivial⟩)⟩
                case measure => simp [intOf]
        · have HE2 : Hid ((if r2 = true then (0 : Int) else 50) = e0) := by show _ = _; rw [← HE.out, hr]; simp
          cases r2
          all_goals
            go_wp2_with fail
            go_ret
            exact ⟨rint HE2.out, hB.out.trans (hb1.mono hB.out.size)⟩
    · have HE : Hid ((50 : Int) = e0) := by
        show _ = _
        rw [← he, spaceE, hpl, if_neg (by simp), if_neg]
        rintro ⟨_, h1, h2, _⟩
        exact h0 ⟨h1, by omega⟩
      obtain ⟨W0, hW0⟩ : ∃ W, w.alloc (.cells #[.int .i64 5, .int .i64 n, .slice a l c] 25) = W := ⟨_, rfl⟩
      rw [hW0] at BX hB
      obtain ⟨x0, x1, x2⟩ := tri_cells BX.out
      clear hs hl he hpl
      have hc : (n = 0 ∧ ((n == 0) = true) ∧ ((l : Int) == 2) = false) ∨ ((n == 0) = false) := by
        by_cases hn : n = 0
        · exact .inl ⟨hn, by simp [hn], by simp; omega⟩
        · exact .inr (by simp [hn])
      clear h0
      rcases hc with ⟨rfl, c1, c2⟩ | c1
      all_goals
        go_enter Tryz.func19, Tryz.ntmps19
        go_wp2_with fail
        go_loopw [3, 4] (fun o i wr => i = .int .i64 0 ∧ o = .bool false ∧ W0 = wr) (fun _ i _ => 0)
        case atStart => exact ⟨rfl, rfl, rfl⟩
        case round =>
          obtain ⟨rfl, rfl, rfl⟩ := hrel
          by_cases hl0 : 0 < l
          · have g1 : (0 : Int) < (l : Int) := by omega
            go_wp2_with fail
            go_ret
            exact ⟨rint HE.out, hB.out⟩
          · obtain rfl : l = 0 := by omega
            go_wp2_with fail
            go_ret
            exact ⟨rint HE.out, hB.out⟩
  · obtain ⟨r, hr⟩ : ∃ r, plainB t n l = r := ⟨_, rfl⟩
    refine (spaceR_flat t n a l c ht r hr w).mono ?_
    rintro e w1 ⟨rfl, hb⟩
    refine ⟨?_, hb⟩
    rw [← he, spaceE_flat ht, hr]
end Go.Proofs.YtjcminoaiieckaaGreatDoor
namespace Go.Proofs.YtjcminoaiieckaaGreatDoor
open Go.RowKit
set_option linter.unusedVariables false
theorem six_frozen {w : World} {B : Nat} {cs : Array Value} {T : TypeId} (h : w.heap[B]? = some (.cells cs T (0, 0))) (j : Nat) : w.frozen? ⟨B, j, none⟩ = false := by
  unfold World.frozen?; simp [h]
theorem six_set {w : World} {B : Nat} {a b c d e f v0 v1 v2 v3 v4 v5 : Value} {T : TypeId} (h : w.heap[B]? = some (.cells #[a, b, c, d, e, f] T (0, 0))) :
    ((((((w.setCell ⟨B, 0, none⟩ v0).setCell ⟨B, 1, none⟩ v1).setCell ⟨B, 2, none⟩ v2).setCell ⟨B, 3, none⟩ v3).setCell ⟨B, 4, none⟩ v4).setCell ⟨B, 5, none⟩ v5).heap[B]? = some (.cells #[v0, v1, v2, v3, v4, v5] T (0, 0)) :=
  heap_setCell_same _ B 5 _ _ _ (heap_setCell_same _ B 4 _ _ _ (heap_setCell_same _ B 3 _ _ _ (heap_setCell_same _ B 2 _ _ _ (heap_setCell_same _ B 1 _ _ _ (heap_setCell_same w B 0 _ _ _ h)))))
theorem put6_below {n : Nat} {w0 w : World} {B : Nat} (v0 v1 v2 v3 v4 v5 : Value) (h : Below n w0 w) (hB : n ≤ B) :
    Below n w0 ((((((w.setCell ⟨B, 0, none⟩ v0).setCell ⟨B, 1, none⟩ v1).setCell ⟨B, 2, none⟩ v2).setCell ⟨B, 3, none⟩ v3).setCell ⟨B, 4, none⟩ v4).setCell ⟨B, 5, none⟩ v5) :=
  (((((h.setCell (p := ⟨B, 0, none⟩) hB _).setCell (p := ⟨B, 1, none⟩) hB _).setCell (p := ⟨B, 2, none⟩) hB _).setCell (p := ⟨B, 3, none⟩) hB _).setCell (p := ⟨B, 4, none⟩) hB _).setCell (p := ⟨B, 5, none⟩) hB _
def Above (n : Nat) (w w' : World) : Prop := ∀ k, n ≤ k → w'.heap[k]? = w.heap[k]?
theorem Above.refl (n : Nat) (w : World) : Above n w w := fun _ _ => rfl
theorem Above.setCell {n : Nat} {a w : World} (h : Above n a w) {p : Addr} (hp : p.block < n) (u : Value) : Above n a (w.setCell p u) := fun k hk => (Below.heap_setCell _ _ _ _ (by omega)).trans (h k hk)
theorem Above.cell {n : Nat} {w w' : World} (h : Above n w w') {p : Addr} (hp : n ≤ p.block) : w'.cell? p = w.cell? p := World.cell?_of_block (w := w) (h p.block hp)
theorem put6_above {n : Nat} {w0 w : World} {B : Nat} (v0 v1 v2 v3 v4 v5 : Value) (h : Above n w0 w) (hB : B < n) :
    Above n w0 ((((((w.setCell ⟨B, 0, none⟩ v0).setCell ⟨B, 1, none⟩ v1).setCell ⟨B, 2, none⟩ v2).setCell ⟨B, 3, none⟩ v3).setCell ⟨B, 4, none⟩ v4).setCell ⟨B, 5, none⟩ v5) :=
  (((((h.setCell (p := ⟨B, 0, none⟩) hB _).setCell (p := ⟨B, 1, none⟩) hB _).setCell (p := ⟨B, 2, none⟩) hB _).setCell (p := ⟨B, 3, none⟩) hB _).setCell (p := ⟨B, 4, none⟩) hB _).setCell (p := ⟨B, 5, none⟩) hB _
theorem VRow.above {w w' : World} {n : Nat} {a : Option Addr} {vs : List Value} (h : VRow w a vs) (hn : ∀ ad, a = some ad → n ≤ ad.block) (hb : Above n w w') : VRow w' a vs := by
  rcases h with h | ⟨b, off, rfl, hc⟩
  · exact .inl h
  · exact .inr ⟨b, off, rfl, fun i v hi => (hb.cell (p := ⟨b, off + i, none⟩) (hn ⟨b, off, none⟩ rfl)).trans (hc i v hi)⟩
theorem CRow.above {w w' : World} {n : Nat} {a : Option Addr} {cs : List Cl} (h : CRow w a cs) (hn : ∀ ad, a = some ad → n ≤ ad.block) (hb : Above n w w') : CRow w' a cs := by
  rcases h with h | ⟨b, off, rfl, hc⟩
  · exact .inl h
  · exact .inr ⟨b, off, rfl, fun i v hi => ⟨(hb.cell (p := ⟨b, off + i * 3, none⟩) (hn ⟨b, off, none⟩ rfl)).trans (hc i v hi).1, (hb.cell (p := ⟨b, off + i * 3 + 1, none⟩) (hn ⟨b, off, none⟩ rfl)).trans (hc i v hi).2.1, (hb.cell (p := ⟨b, off + i * 3 + 2, none⟩) (hn ⟨b, off, none⟩ rfl)).trans (hc i v hi).2.2⟩⟩
theorem W6.above {w w' : World} {n b o : Nat} {f : WF} (h : W6 w b o f) (hn : n ≤ b) (hb : Above n w w') : W6 w' b o f :=
  ⟨(hb.cell hn).trans h.1, (hb.cell hn).trans h.2.1, (hb.cell hn).trans h.2.2.1, (hb.cell hn).trans h.2.2.2.1, (hb.cell hn).trans h.2.2.2.2.1, (hb.cell hn).trans h.2.2.2.2.2⟩
structure PNew (n : Nat) (w : World) (t d : Int) (f : WF) (a : PF) : Prop where
  is : PIs w t d f a
  ra : ∀ ad, f.ra = some ad → n ≤ ad.block
  ca : ∀ ad, f.ca = some ad → n ≤ ad.block
theorem PNew.below {n : Nat} {w w' : World} {t d : Int} {f : WF} {a : PF} (h : PNew n w t d f a) (hb : Below w.heap.size w w') : PNew n w' t d f a := ⟨h.is.below hb, h.ra, h.ca⟩
theorem PNew.mono {n m : Nat} {w : World} {t d : Int} {f : WF} {a : PF} (h : PNew n w t d f a) (hm : m ≤ n) : PNew m w t d f a := ⟨h.is, fun ad e => Nat.le_trans hm (h.ra ad e), fun ad e => Nat.le_trans hm (h.ca ad e)⟩
def XNew (n : Nat) (w : World) : PS → WF → PX → Prop
  | .one t d, f, .one a => PNew n w t d f a
  | .two t d u m, f, .two a b => f.pf = pC 0 ∧ f.rl = 0 ∧ f.cl = 0 ∧ f.pl = 2 ∧ ∃ blk g h, f.pa = some ⟨blk, 0, none⟩ ∧ n ≤ blk ∧ W6 w blk 0 g ∧ W6 w blk 6 h ∧ PNew n w t d g a ∧ PNew n w u m h b
  | _, _, _ => False
theorem XNew.is {n : Nat} {w : World} {S : PS} {f : WF} {x : PX} (h : XNew n w S f x) : XIs w S f x := by
  cases S <;> cases x <;> first | exact h.elim | exact PNew.is h | skip
  obtain ⟨h1, h2, h3, h4, blk, g, k, h5, _, h6, h7, h8, h9⟩ := h
  exact ⟨h1, h2, h3, h4, blk, 0, g, k, h5, h6, by simpa using h7, h8.is, h9.is⟩
theorem XNew.below {n : Nat} {w w' : World} {S : PS} {f : WF} {x : PX} (h : XNew n w S f x) (hb : Below w.heap.size w w') : XNew n w' S f x := by
  cases S <;> cases x <;> first | exact h.elim | exact PNew.below h hb | skip
  obtain ⟨h1, h2, h3, h4, blk, g, k, h5, h0, h6, h7, h8, h9⟩ := h
  exact ⟨h1, h2, h3, h4, blk, g, k, h5, h0, h6.below hb, h7.below hb, h8.below hb, h9.below hb⟩
theorem XNew.mono {n m : Nat} {w : World} {S : PS} {f : WF} {x : PX} (h : XNew n w S f x) (hm : m ≤ n) : XNew m w S f x := by
  cases S <;> cases x <;> first | exact h.elim | exact PNew.mono h hm | skip
  obtain ⟨h1, h2, h3, h4, blk, g, k, h5, h0, h6, h7, h8, h9⟩ := h
  exact ⟨h1, h2, h3, h4, blk, g, k, h5, Nat.le_trans hm h0, h6, h7, h8.mono hm, h9.mono hm⟩
def WRet (S : PS) (x : PX) (w : World) (e : Ending) (w' : World) : Prop := ∃ f : WF, e = .returned f.val ∧ XNew w.heap.size w' S f x ∧ Below w.heap.size w w'
theorem zero_new (n : Nat) (w : World) (t d : Int) : PNew n w t d zeroF zeroP :=
  ⟨⟨⟨.inl rfl, rfl, by decide, (fun r hr => by cases hr), .inl rfl, rfl, (fun c hc => by cases hc), by decide⟩, rfl, .zero, rfl⟩, (fun ad e => by cases e), (fun ad e => by cases e)⟩
theorem pair_new {n : Nat} {w : World} {t d u m : Int} {blk : Nat} {g h : WF} {a b : PF} (h6 : W6 w blk 0 g) (h7 : W6 w blk 6 h) (hn : n ≤ blk) (ha : PNew n w t d g a) (hb : PNew n w u m h b) : XNew n w (.two t d u m) (pairF blk) (.two a b) :=
  ⟨rfl, rfl, rfl, rfl, blk, g, h, rfl, hn, h6, h7, ha, hb⟩
end Go.Proofs.YtjcminoaiieckaaGreatDoor
namespace Go.Proofs.YtjcminoaiieckaaGreatDoor
open Go.RowKit
set_option linter.unusedVariables false
theorem co_rint {k : IntKind} {a b : Int} (h : a = b) : Ending.returned (.int k a) = .returned (.int k b) := by rw [h]
def Row (w : World) (a : Option Addr) (zs : List Int) : Prop :=
  zs = [] ∨ ∃ b off, a = some ⟨b, off, none⟩ ∧ ∀ i, i < zs.length → w.cell? ⟨b, off + i, none⟩ = some (.int .i64 (zs.getD i 0))

def okc (limit c : Int) : Bool := decide (-1 ≤ c) && decide (c ≤ limit)
def chk (limit : Int) (zs : List Int) : Int := if limit < 0 ∨ 1048576 < limit then 20 else if zs.all (okc limit) then 0 else 21
def lesser (a b : Int) : Int := if a = -1 then b else if b = -1 then a else min a b
def added (limit a b : Int) : Int := if a = -1 ∨ b = -1 then -1 else min (a + b) limit

theorem lesser_any (a b : Int) (w : World) : Calls Tryz.prog 112 #[.int .i64 a, .int .i64 b] w fun e w' => e = .returned (.int .i64 (lesser a b)) ∧ w = w' := by
  by_cases ha : a = -1
  · have h1 : (a == -1) = true := by simp [ha]
    have e1 : lesser a b = b := by simp [lesser, ha]
    have H := Lib.hid e1; clear e1 ha
    go_enter Tryz.func112, Tryz.ntmps112
    go_wp2
    go_ret
    exact ⟨co_rint H.out.symm, rfl⟩
  · have h1 : (a == -1) = false := by simp [ha]
    by_cases hb : b = -1
    · have h2 : (b == -1) = true := by simp [hb]
      have e1 : lesser a b = a := by simp [lesser, ha, hb]
      have H := Lib.hid e1; clear e1 ha hb
      go_enter Tryz.func112, Tryz.ntmps112
      go_wp2
      go_ret
      exact ⟨co_rint H.out.symm, rfl⟩
    · have h2 : (b == -1) = false := by simp [hb]
      have e1 : lesser a b = min a b := by simp [lesser, ha, hb]
      have H := Lib.hid e1; clear e1 ha hb
      go_enter Tryz.func112, Tryz.ntmps112
      go_wp2
      all_goals go_ret
      all_goals exact ⟨co_rint (by rw [H.out] <;> omega), rfl⟩

theorem added_any (l a b : Int) (w : World) (hs : -9223372036854775808 ≤ a + b ∧ a + b ≤ 9223372036854775807) : Calls Tryz.prog 119 #[.int .i64 l, .int .i64 a, .int .i64 b] w fun e w' => e = .returned (.int .i64 (added l a b)) ∧ w = w' := by
  by_cases ha : a = -1
  · have h1 : (a == -1) = true := by simp [ha]
    have e1 : added l a b = -1 := by simp [added, ha]
    have H := Lib.hid e1; clear e1 ha
    go_enter Tryz.func119, Tryz.ntmps119
    go_wp2
    go_ret
    exact ⟨co_rint H.out.symm, rfl⟩
  · have h1 : (a == -1) = false := by simp [ha]
    by_cases hb : b = -1
    · have h2 : (b == -1) = true := by simp [hb]
      have e1 : added l a b = -1 := by simp [added, ha, hb]
      have H := Lib.hid e1; clear e1 ha hb
      go_enter Tryz.func119, Tryz.ntmps119
      go_wp2
      go_ret
      exact ⟨co_rint H.out.symm, rfl⟩
    · have h2 : (b == -1) = false := by simp [hb]
      have e1 : added l a b = min (a + b) l := by simp [added, ha, hb]
      have H := Lib.hid e1; clear e1 ha hb
      obtain ⟨hs1, hs2⟩ := hs
      go_enter Tryz.func119, Tryz.ntmps119
      go_wp2
      all_goals go_ret
      all_goals exact ⟨co_rint (by rw [H.out] <;> omega), rfl⟩

end Go.Proofs.YtjcminoaiieckaaGreatDoor
namespace Go.Proofs.YtjcminoaiieckaaGreatDoor
open Go.RowKit
set_option linter.unusedVariables false
theorem co_take_all_succ {p : Int → Bool} {zs : List Int} {k : Nat} {z : Int} (hk : k < zs.length) (hz : z = zs.getD k 0) (h : (zs.take k).all p = true) (hp : p z = true) : (zs.take (k + 1)).all p = true := by
  rw [List.take_succ_eq_append_getElem hk, List.all_append, h]
  have : zs.getD k 0 = zs[k] := by simp [List.getD, hk]
  rw [this] at hz
  simp [← hz, hp]
theorem co_all_false {p : Int → Bool} {zs : List Int} {k : Nat} {z : Int} (hk : k < zs.length) (hz : z = zs.getD k 0) (hp : p z = false) : zs.all p = false := by
  have : zs.getD k 0 = zs[k] := by simp [List.getD, hk]
  rw [this] at hz
  rw [List.all_eq_false]
  exact ⟨zs[k], List.getElem_mem hk, by rw [← hz, hp]; simp⟩
theorem chk_bad {limit : Int} {zs : List Int} {k : Nat} {z : Int} (h0 : 0 ≤ limit) (h1 : limit ≤ 1048576) (hk : k < zs.length) (hz : z = zs.getD k 0) (hp : okc limit z = false) : chk limit zs = 21 := by
  unfold chk; rw [if_neg (by omega), co_all_false hk hz hp]; rfl
theorem chk_good {limit : Int} {zs : List Int} {k : Nat} (h0 : 0 ≤ limit) (h1 : limit ≤ 1048576) (hk : zs.length ≤ k) (h : (zs.take k).all (okc limit) = true) : chk limit zs = 0 := by
  rw [List.take_of_length_le hk] at h
  unfold chk; rw [if_neg (by omega), h]; rfl
theorem okc_lo {l z : Int} (h : z < -1) : okc l z = false := by simp [okc]; omega
theorem okc_hi {l z : Int} (h : l < z) : okc l z = false := by simp [okc]; omega
theorem okc_in {l z : Int} (h : -1 ≤ z) (h2 : z ≤ l) : okc l z = true := by simp [okc]; omega

set_option maxHeartbeats 400000 in
theorem checkAll_any (limit : Int) (a : Option Addr) (cap : Nat) (zs : List Int) (w : World) (hm : zs.length ≤ maxLen) (hrow : Row w a zs) :
    Calls Tryz.prog 108 #[.int .i64 limit, .slice a zs.length cap] w fun e w' => e = .returned (.int .i64 (chk limit zs)) ∧ w = w' := by
  unfold maxLen at hm
  by_cases h0 : limit < 0
  · have e1 : chk limit zs = 20 := by simp [chk, h0]
    have H := Lib.hid e1; clear e1
    go_enter Tryz.func108, Tryz.ntmps108
    go_wp2
    go_ret
    exact ⟨co_rint H.out.symm, rfl⟩
  by_cases h1 : 1048576 < limit
  · have e1 : chk limit zs = 20 := by simp [chk, h1]
    have H := Lib.hid e1; clear e1
    go_enter Tryz.func108, Tryz.ntmps108
    go_wp2
    go_ret
    exact ⟨co_rint H.out.symm, rfl⟩
  have h0' : 0 ≤ limit := by omega
  have h1' : limit ≤ 1048576 := by omega
  clear h0 h1
  go_enter Tryz.func108, Tryz.ntmps108
  go_wp2
  go_loop [15] (fun i => ∃ k : Nat, k ≤ zs.length ∧ i = .int .i64 k ∧ Hid ((zs.take k).all (okc limit) = true)) (fun i => zs.length - (intOf i).toNat)
  case atStart => exact ⟨0, Nat.zero_le _, rfl, by simp [Hid]⟩
  case round =>
    obtain ⟨k, hk, rfl, HA⟩ := hrel
    by_cases hlt : k < zs.length
    · rcases hrow with h | ⟨b, off, rfl, hc⟩
      · subst h; simp at hlt
      have hck := hc k hlt
      obtain ⟨z, hz⟩ : ∃ z, z = zs.getD k 0 := ⟨_, rfl⟩
      rw [← hz] at hck
      have HZ := Lib.hid hz; clear hz hc
      by_cases h2 : z < -1
      · have H := Lib.hid (chk_bad h0' h1' hlt HZ.out (okc_lo h2))
        go_wp2
        go_ret
        exact ⟨co_rint H.out.symm, rfl⟩
      by_cases h3 : limit < z
      · have H := Lib.hid (chk_bad h0' h1' hlt HZ.out (okc_hi h3))
        go_wp2
        go_ret
        exact ⟨co_rint H.out.symm, rfl⟩
      have H := Lib.hid (co_take_all_succ hlt HZ.out HA.out (okc_in (by omega) (by omega)))
      have h2' : -1 ≤ z := by omega
      have h3' : z ≤ limit := by omega
      clear h2 h3
      go_wp2
      go_round
      case rel => exact ⟨k + 1, by omega, by go_num, H⟩
      case measure => simp [intOf]; omega
    · have H := Lib.hid (chk_good h0' h1' (by omega) HA.out)
      go_wp2
      go_ret
      exact ⟨co_rint H.out.symm, rfl⟩

end Go.Proofs.YtjcminoaiieckaaGreatDoor
namespace Go.Proofs.YtjcminoaiieckaaGreatDoor
open Go.RowKit
set_option linter.unusedVariables false
def leastOf (zs : List Int) : Int := zs.foldl lesser (-1)
def sumOf (limit : Int) (zs : List Int) : Int := zs.foldl (added limit) 0
def leastR (limit : Int) (zs : List Int) : Int := if chk limit zs = 0 then leastOf zs else 0
def sumR (limit : Int) (zs : List Int) : Int := if chk limit zs = 0 then sumOf limit zs else 0

theorem chk_zero {limit : Int} {zs : List Int} (h : chk limit zs = 0) : 0 ≤ limit ∧ limit ≤ 1048576 ∧ zs.all (okc limit) = true := by
  unfold chk at h
  split at h
  · omega
  · cases hz : zs.all (okc limit) <;> rw [hz] at h <;> simp at h
    exact ⟨by omega, by omega, rfl⟩
theorem take_snoc {zs : List Int} {k : Nat} {z : Int} (hk : k < zs.length) (hz : z = zs.getD k 0) : zs.take (k + 1) = zs.take k ++ [z] := by
  rw [List.take_succ_eq_append_getElem hk]
  have : zs.getD k 0 = zs[k] := by simp [List.getD, hk]
  rw [hz, this]
theorem fold_snoc {f : Int → Int → Int} {s : Int} {zs : List Int} {k : Nat} {z : Int} (hk : k < zs.length) (hz : z = zs.getD k 0) : (zs.take (k + 1)).foldl f s = f ((zs.take k).foldl f s) z := by
  rw [take_snoc hk hz, List.foldl_append]; rfl
theorem okc_get {limit : Int} {zs : List Int} {k : Nat} {z : Int} (h : zs.all (okc limit) = true) (hk : k < zs.length) (hz : z = zs.getD k 0) : -1 ≤ z ∧ z ≤ limit := by
  have e : zs.getD k 0 = zs[k] := by simp [List.getD, hk]
  rw [List.all_eq_true] at h
  have := h z (by rw [hz, e]; exact List.getElem_mem hk)
  simp [okc] at this; exact this
theorem added_ok {l a b : Int} (hl : 0 ≤ l) (ha : -1 ≤ a) (ha2 : a ≤ l) (hb : -1 ≤ b) (hb2 : b ≤ l) : -1 ≤ added l a b ∧ added l a b ≤ l := by
  unfold added; split <;> omega
theorem rtwo {k k2 : IntKind} {a b c d : Int} (h : a = b) (h2 : c = d) : Ending.returned (.tuple #[.int k a, .int k2 c]) = .returned (.tuple #[.int k b, .int k2 d]) := by rw [h, h2]
theorem lesser_ok {a b l : Int} (ha : -1 ≤ a) (ha2 : a ≤ 1048576) (hb : -1 ≤ b) (hb2 : b ≤ l) (hl : l ≤ 1048576) : -1 ≤ lesser a b ∧ lesser a b ≤ 1048576 := by
  unfold lesser; split
  · omega
  · split <;> omega

set_option maxHeartbeats 400000 in
theorem least_any (limit : Int) (a : Option Addr) (cap : Nat) (zs : List Int) (w : World) (hm : zs.length ≤ maxLen) (hrow : Row w a zs) :
    Calls Tryz.prog 77 #[.int .i64 limit, .slice a zs.length cap] w fun e w' => e = .returned (.tuple #[.int .i64 (leastR limit zs), .int .i64 (chk limit zs)]) ∧ w = w' := by
  have HM := Lib.hid hm
  unfold maxLen at hm
  by_cases hc0 : chk limit zs = 0
  · obtain ⟨hl0, hl1, hall⟩ := chk_zero hc0
    have e1 : leastR limit zs = leastOf zs := by simp [leastR, hc0]
    have H1 := Lib.hid e1
    have H0 := Lib.hid hc0
    have HALL := Lib.hid hall
    have HROW := Lib.hid hrow
    clear e1 hc0 hall hrow
    go_enter Tryz.func77, Tryz.ntmps77
    go_wp2_with (go_at_call 108; refine (checkAll_any _ _ _ _ _ HM.out HROW.out).mono ?_; rintro e w' ⟨rfl, rfl⟩; rw [H0.out])
    go_loop [7, 18] (fun m i => ∃ k : Nat, k ≤ zs.length ∧ i = .int .i64 k ∧ ∃ s : Int, m = .int .i64 s ∧ -1 ≤ s ∧ s ≤ 1048576 ∧ Hid (s = (zs.take k).foldl lesser (-1))) (fun _ i => zs.length - (intOf i).toNat)
    case atStart => exact ⟨0, Nat.zero_le _, rfl, _, rfl, by omega, by omega, by simp [Hid]⟩
    case round =>
      obtain ⟨k, hk, rfl, s, rfl, hs1, hs2, HS⟩ := hrel
      by_cases hlt : k < zs.length
      · rcases HROW.out with h | ⟨b, off, rfl, hc⟩
        · subst h; simp at hlt
        have hck := hc k hlt
        obtain ⟨z, hz⟩ : ∃ z, z = zs.getD k 0 := ⟨_, rfl⟩
        rw [← hz] at hck
        obtain ⟨hz1, hz2⟩ := okc_get HALL.out hlt hz
        have hs' : -1 ≤ lesser s z ∧ lesser s z ≤ 1048576 := lesser_ok hs1 hs2 hz1 hz2 hl1
        have HZ := Lib.hid hz; clear hz hc HROW
        go_wp2_with (go_at_call 112; refine (lesser_any _ _ _).mono ?_; rintro e w' ⟨rfl, rfl⟩)
        go_round
        case rel => exact ⟨k + 1, by omega, by go_num, _, rfl, hs'.1, hs'.2, by rw [HS.out]; exact (fold_snoc hlt HZ.out).symm⟩
        case measure => simp [intOf]; omega
      · have HE : Hid (s = leastR limit zs) := by rw [H1.out, HS.out, List.take_of_length_le (by omega)]; rfl
        have HROW2 := HROW
        clear HROW
        go_wp2
        go_ret2
        exact ⟨rtwo HE.out H0.out.symm, rfl⟩
  · have e1 : leastR limit zs = 0 := by simp [leastR, hc0]
    have H1 := Lib.hid e1
    have HROW := Lib.hid hrow
    have hne : (chk limit zs != 0) = true := by simpa using hc0
    obtain ⟨c, hcc⟩ : ∃ c, c = chk limit zs := ⟨_, rfl⟩
    rw [← hcc] at hne
    have HC := Lib.hid hcc
    clear e1 hc0 hrow hcc
    go_enter Tryz.func77, Tryz.ntmps77
    go_wp2_with (go_at_call 108; refine (checkAll_any _ _ _ _ _ HM.out HROW.out).mono ?_; rintro e w' ⟨rfl, rfl⟩; rw [← HC.out])
    go_ret2
    exact ⟨rtwo H1.out.symm HC.out, rfl⟩

set_option maxHeartbeats 400000 in
theorem sum_any (limit : Int) (a : Option Addr) (cap : Nat) (zs : List Int) (w : World) (hm : zs.length ≤ maxLen) (hrow : Row w a zs) :
    Calls Tryz.prog 84 #[.int .i64 limit, .slice a zs.length cap] w fun e w' => e = .returned (.tuple #[.int .i64 (sumR limit zs), .int .i64 (chk limit zs)]) ∧ w = w' := by
  have HM := Lib.hid hm
  unfold maxLen at hm
  by_cases hc0 : chk limit zs = 0
  · obtain ⟨hl0, hl1, hall⟩ := chk_zero hc0
    have e1 : sumR limit zs = sumOf limit zs := by simp [sumR, hc0]
    have H1 := Lib.hid e1
    have H0 := Lib.hid hc0
    have HALL := Lib.hid hall
    have HROW := Lib.hid hrow
    clear e1 hc0 hall hrow
    go_enter Tryz.func84, Tryz.ntmps84
    go_wp2_with (go_at_call 108; refine (checkAll_any _ _ _ _ _ HM.out HROW.out).mono ?_; rintro e w' ⟨rfl, rfl⟩; rw [H0.out])
    go_loop [7, 18] (fun m i => ∃ k : Nat, k ≤ zs.length ∧ i = .int .i64 k ∧ ∃ s : Int, m = .int .i64 s ∧ -1 ≤ s ∧ s ≤ limit ∧ Hid (s = (zs.take k).foldl (added limit) 0)) (fun _ i => zs.length - (intOf i).toNat)
    case atStart => exact ⟨0, Nat.zero_le _, rfl, _, rfl, by omega, by omega, by simp [Hid]⟩
    case round =>
      obtain ⟨k, hk, rfl, s, rfl, hs1, hs2, HS⟩ := hrel
      by_cases hlt : k < zs.length
      · rcases HROW.out with h | ⟨b, off, rfl, hc⟩
        · subst h; simp at hlt
        have hck := hc k hlt
        obtain ⟨z, hz⟩ : ∃ z, z = zs.getD k 0 := ⟨_, rfl⟩
        rw [← hz] at hck
        obtain ⟨hz1, hz2⟩ := okc_get HALL.out hlt hz
        have hs' : -1 ≤ added limit s z ∧ added limit s z ≤ limit := added_ok hl0 hs1 hs2 hz1 hz2
        have HZ := Lib.hid hz; clear hz hc HROW
        go_wp2_with (go_at_call 119; refine (added_any _ _ _ _ ⟨by omega, by omega⟩).mono ?_; rintro e w' ⟨rfl, rfl⟩)
        go_round
        case rel => exact ⟨k + 1, by omega, by go_num, _, rfl, hs'.1, hs'.2, by rw [HS.out]; exact (fold_snoc hlt HZ.out).symm⟩
        case measure => simp [intOf]; omega
      · have HE : Hid (s = sumR limit zs) := by rw [H1.out, HS.out, List.take_of_length_le (by omega)]; rfl
        have HROW2 := HROW
        clear HROW
        go_wp2
        go_ret2
        exact ⟨rtwo HE.out H0.out.symm, rfl⟩
  · have e1 : sumR limit zs = 0 := by simp [sumR, hc0]
    have H1 := Lib.hid e1
    have HROW := Lib.hid hrow
    have hne : (chk limit zs != 0) = true := by simpa using hc0
    obtain ⟨c, hcc⟩ : ∃ c, c = chk limit zs := ⟨_, rfl⟩
    rw [← hcc] at hne
    have HC := Lib.hid hcc
    clear e1 hc0 hrow hcc
    go_enter Tryz.func84, Tryz.ntmps84
    go_wp2_with (go_at_call 108; refine (checkAll_any _ _ _ _ _ HM.out HROW.out).mono ?_; rintro e w' ⟨rfl, rfl⟩; rw [← HC.out])
    go_ret2
    exact ⟨rtwo H1.out.symm HC.out, rfl⟩

end Go.Proofs.YtjcminoaiieckaaGreatDoor
namespace Go.Proofs.YtjcminoaiieckaaGreatDoor
open Go.RowKit
set_option linter.unusedVariables false
theorem least_two {limit a b : Int} (h : chk limit [a, b] = 0) : leastR limit [a, b] = lesser a b := by
  have h3 : lesser (-1) a = a := by simp [lesser]
  simp [leastR, h, leastOf, h3]
theorem sum_two {limit a b : Int} (h : chk limit [a, b] = 0) : sumR limit [a, b] = added limit a b := by
  have h2 := (chk_zero h).2.2
  simp [okc] at h2
  have h3 : added limit 0 a = a := by unfold added; split <;> omega
  simp [sumR, h, sumOf, h3]
theorem chk2_iff {limit a b : Int} : chk limit [a, b] = 0 ↔ (0 ≤ limit ∧ limit ≤ 1048576 ∧ (-1 ≤ a ∧ a ≤ limit) ∧ (-1 ≤ b ∧ b ≤ limit)) := by
  constructor
  · intro h
    have := chk_zero h
    simp [okc] at this
    omega
  · intro h
    have : [a, b].all (okc limit) = true := by simp [okc]; omega
    simp only [chk, this]
    rw [if_neg (by omega)]; rfl
end Go.Proofs.YtjcminoaiieckaaGreatDoor
namespace Go.Proofs.YtjcminoaiieckaaGreatDoor
open Go Go.RowKit
def freeT (ops : Array Oper) (t : Nat) : Bool := ops.all fun o => o.dst != some t
def waitsFor (ops : Array Oper) (i j d : Nat) : Bool :=
  (match ops[i]? with | some o => o.after.any fun e => e.on == j && Region.binds .any e | none => false) && (ops[j]?).bind (·.dst) == some d
def tidyR (ops : Array Oper) (n : Nat) : Bool :=
  (List.range ops.size).all fun i => match ops[i]? with
    | some o => o.after.all (fun e => !Region.binds .any e || decide (e.on < i)) && (match o.dst with | some d => decide (d < n) && (List.range ops.size).all (fun j => j == i || (ops[j]?).bind (·.dst) != some d) | none => true)
    | none => true
def lastR (ops : Array Oper) (k : Nat) : Bool :=
  decide (k + 1 = ops.size) && (match ops[k]? with | some o => (List.range k).all fun j => o.after.any fun e => e.on == j && Region.binds .any e | none => false)

section
variable {P : Program} {ops : Array Oper} {Q : Exit → Act → World → Prop} {t0 : Array Value} {d0 : List Deferred} {G : World → Prop} {I : Nat → Value → World → Prop}
structure RInv (ops : Array Oper) (t0 : Array Value) (d0 : List Deferred) (G : World → Prop) (I : Nat → Value → World → Prop) (L : Array Bool) (a : Act) (w : World) : Prop where
  size : a.tmps.size = t0.size
  defers : a.defers = d0
  frame : ∀ t, freeT ops t = true → a.tmps.getD t undef = t0.getD t undef
  glob : G w
  done : ∀ i d, (ops[i]?).bind (·.dst) = some d → L.getD i false = true → I i (a.tmps.getD d undef) w
def RStep (P : Program) (ops : Array Oper) (Q : Exit → Act → World → Prop) (t0 : Array Value) (G : World → Prop) (I : Nat → Value → World → Prop) (i : Nat) : Prop :=
  ∀ (a : Act) (w : World), (∀ t, freeT ops t = true → a.eval (.tmp t) = t0.getD t undef) → G w → (∀ j d, waitsFor ops i j d = true → I j (a.eval (.tmp d)) w) →
    wpOp P ops Q i (fun a' w' => (∃ v, a' = a.put ((ops[i]?).bind (·.dst)) v ∧ (∀ d, (ops[i]?).bind (·.dst) = some d → I i v w')) ∧ G w' ∧ Below w.heap.size w w') a w
def RFin (ops : Array Oper) (t0 : Array Value) (d0 : List Deferred) (G : World → Prop) (I : Nat → Value → World → Prop) (n : Nat) (R : Act → World → Prop) : Prop :=
  ∀ (a : Act) (w : World), a.tmps.size = t0.size → a.defers = d0 → (∀ t, freeT ops t = true → a.tmps.getD t undef = t0.getD t undef) → G w →
    (∀ i d, i < n → (ops[i]?).bind (·.dst) = some d → I i (a.tmps.getD d undef) w) → R a w

theorem cnt_set : ∀ (l : List Bool) (i : Nat), l[i]? = some false → (l.set i true).count false + 1 = l.count false
  | [], _, h => by simp at h
  | b :: l, 0, h => by simp at h; subst h; simp
  | b :: l, i + 1, h => by
    have := cnt_set l i (by simpa using h)
    cases b <;> simp <;> omega
theorem tidy_after {n i : Nat} {o : Oper} (h : tidyR ops n = true) (ho : ops[i]? = some o) : ∀ e ∈ o.after, Region.binds .any e = true → e.on < i := fun e he hb => by
  have hi : i < ops.size := (Array.getElem?_eq_some_iff.1 ho).1
  have h1 := (List.all_eq_true.1 h) i (List.mem_range.2 hi)
  simp only [ho, Bool.and_eq_true] at h1
  have h2 := Array.all_eq_true'.1 h1.1 e he
  simp [hb] at h2
  exact h2
theorem tidy_dst {n i d : Nat} (h : tidyR ops n = true) (hd : (ops[i]?).bind (·.dst) = some d) : d < n ∧ ∀ j, (ops[j]?).bind (·.dst) = some d → j = i := by
  obtain ⟨o, ho, hd⟩ := Option.bind_eq_some_iff.1 hd
  have hi : i < ops.size := (Array.getElem?_eq_some_iff.1 ho).1
  have h1 := (List.all_eq_true.1 h) i (List.mem_range.2 hi)
  simp only [ho, hd, Bool.and_eq_true, decide_eq_true_eq] at h1
  refine ⟨h1.2.1, fun j hj => ?_⟩
  have hjs : j < ops.size := by
    obtain ⟨o', ho', _⟩ := Option.bind_eq_some_iff.1 hj
    exact (Array.getElem?_eq_some_iff.1 ho').1
  have h2 := (List.all_eq_true.1 h1.2.2) j (List.mem_range.2 hjs)
  rw [Bool.or_eq_true] at h2
  rcases h2 with h2 | h2
  · simpa using h2
  · simp only [bne_iff_ne, ne_eq] at h2
    exact absurd hj h2
theorem ready_nil {n : Nat} {L : Array Bool} (h : tidyR ops n = true) (hs : L.size = ops.size) (hr : Region.ready .any ops L = []) : ∀ i, i < ops.size → L.getD i true = true := by
  intro i
  induction i using Nat.strongRecOn with
  | _ i ih =>
  intro hi
  cases hL : L.getD i true with
  | true => rfl
  | false =>
    obtain ⟨o, ho⟩ : ∃ o, ops[i]? = some o := ⟨ops[i], Array.getElem?_eq_getElem hi⟩
    have : i ∈ Region.ready .any ops L := mem_ready.2 ⟨hL, o, ho, fun e he hb => by
      have hlt := tidy_after h ho e he hb
      have h3 := ih e.on hlt (by omega)
      rw [Array.getD_eq_getD_getElem?] at h3 ⊢
      have hes : e.on < L.size := by omega
      rw [Array.getElem?_eq_getElem hes] at h3 ⊢
      simpa using h3⟩
    rw [hr] at this
    cases this
theorem put_at {a : Act} {o : Option Nat} {v : Value} {d : Nat} (hd : o = some d) (hs : d < a.tmps.size) : (a.put o v).tmps.getD d undef = v := by
  subst hd
  simp [Act.put, hs]
theorem put_other {a : Act} {o : Option Nat} {v : Value} {t : Nat} (hd : o ≠ some t) : (a.put o v).tmps.getD t undef = a.tmps.getD t undef := by
  cases o with
  | none => rfl
  | some d =>
    have : d ≠ t := fun e => hd (by rw [e])
    simp only [Act.put, Array.getD_eq_getD_getElem?]
    rw [Array.getElem?_setIfInBounds_ne this]
theorem put_size {a : Act} {o : Option Nat} {v : Value} : (a.put o v).tmps.size = a.tmps.size := by cases o <;> simp [Act.put]
theorem put_defers {a : Act} {o : Option Nat} {v : Value} : (a.put o v).defers = a.defers := by cases o <;> rfl
theorem RInv.next {L : Array Bool} {a : Act} {w w' : World} {i : Nat} {v : Value} (h : RInv ops t0 d0 G I L a w) (ht : tidyR ops t0.size = true) (hi : L.getD i true = false)
    (hst : ∀ i v w w', G w → I i v w → Below w.heap.size w w' → I i v w') (hI : ∀ d, (ops[i]?).bind (·.dst) = some d → I i v w') (hG : G w') (hB : Below w.heap.size w w') :
    RInv ops t0 d0 G I (L.setIfInBounds i true) (a.put ((ops[i]?).bind (·.dst)) v) w' where
  size := by rw [put_size]; exact h.size
  defers := by rw [put_defers]; exact h.defers
  frame := fun t hf => by
    rw [put_other ?_]
    · exact h.frame t hf
    · intro hd
      obtain ⟨o, ho, hd⟩ := Option.bind_eq_some_iff.1 hd
      have := Array.all_eq_true'.1 hf o (Array.mem_of_getElem? ho)
      simp [hd] at this
  glob := hG
  done := fun j d hd hj => by
    by_cases hji : j = i
    · subst hji
      rw [put_at hd (by rw [h.size]; exact (tidy_dst ht hd).1)]
      exact hI d hd
    · rw [getD_set_ne false (Ne.symm hji)] at hj
      rw [put_other (fun e => hji ((tidy_dst ht e).2 j hd))]
      exact hst _ _ _ _ h.glob (h.done j d hd hj) hB
theorem RInv.deps {L : Array Bool} {a : Act} {w : World} {i : Nat} (h : RInv ops t0 d0 G I L a w) (hi : i ∈ Region.ready .any ops L) : ∀ j d, waitsFor ops i j d = true → I j (a.eval (.tmp d)) w := fun j d hw => by
  obtain ⟨_, o, ho, hall⟩ := mem_ready.1 hi
  simp only [waitsFor, ho, Bool.and_eq_true, beq_iff_eq] at hw
  obtain ⟨e, he, h1⟩ := Array.any_eq_true'.1 hw.1
  simp only [Bool.and_eq_true, beq_iff_eq] at h1
  have := hall e he h1.2
  rw [h1.1] at this
  exact h.done j d hw.2 this
theorem RInv.frameE {L : Array Bool} {a : Act} {w : World} (h : RInv ops t0 d0 G I L a w) : ∀ t, freeT ops t = true → a.eval (.tmp t) = t0.getD t undef := fun t ht => h.frame t ht
theorem region_all (ht : tidyR ops t0.size = true) (hst : ∀ i v w w', G w → I i v w → Below w.heap.size w w' → I i v w')
    (hstep : ∀ i, i < ops.size → RStep P ops Q t0 G I i) (hfin : RFin ops t0 d0 G I ops.size (Q .normal)) :
    ∀ (fuel : Nat) (L : Array Bool) (a : Act) (w : World), L.size = ops.size → L.toList.count false ≤ fuel → RInv ops t0 d0 G I L a w → wpAny P .any ops Q fuel L a w := by
  have fin : ∀ (L : Array Bool) (a : Act) (w : World), (∀ i, i < ops.size → L.getD i true = true) → L.size = ops.size → RInv ops t0 d0 G I L a w → Q .normal a w := fun L a w hall hs h =>
    hfin a w h.size h.defers h.frame h.glob fun i d hi hd => h.done i d hd (by
      have := hall i hi
      rw [Array.getD_eq_getD_getElem?] at this ⊢
      rw [Array.getElem?_eq_getElem (by omega)] at this ⊢
      simpa using this)
  intro fuel
  induction fuel with
  | zero =>
    intro L a w hs hc h
    have hall : ∀ i, i < ops.size → L.getD i true = true := fun i hi => by
      have hn : false ∉ L.toList := List.count_eq_zero.1 (by omega)
      cases hL : L.getD i true with
      | true => rfl
      | false =>
        rw [Array.getD_eq_getD_getElem?, Array.getElem?_eq_getElem (by omega)] at hL
        exact absurd (by rw [← show L[i] = false by simpa using hL]; exact Array.mem_toList_iff.2 (Array.getElem_mem _)) hn
    refine ⟨?_, fin L a w hall hs h⟩
    cases hr : Region.ready .any ops L with
    | nil => rfl
    | cons i rest =>
      have hi : i ∈ Region.ready .any ops L := by rw [hr]; exact List.mem_cons_self
      obtain ⟨h1, o, ho, _⟩ := mem_ready.1 hi
      rw [hall i (Array.getElem?_eq_some_iff.1 ho).1] at h1
      cases h1
  | succ fuel ih =>
    intro L a w hs hc h
    refine ⟨fun hr => fin L a w (ready_nil ht hs hr) hs h, fun i hi => ?_⟩
    obtain ⟨h1, o, ho, _⟩ := mem_ready.1 hi
    have his : i < ops.size := (Array.getElem?_eq_some_iff.1 ho).1
    refine wpOp_mono ?_ (hstep i his a w h.frameE h.glob (h.deps hi))
    rintro a' w' ⟨⟨v, rfl, hI⟩, hG, hB⟩
    refine ih _ _ _ (by simpa using hs) ?_ (h.next ht h1 hst hI hG hB)
    have : L.toList[i]? = some false := by
      rw [Array.getD_eq_getD_getElem?, Array.getElem?_eq_getElem (by omega)] at h1
      rw [Array.getElem?_toList, Array.getElem?_eq_getElem (by omega)]
      simpa using h1
    have := cnt_set _ _ this
    rw [Array.toList_setIfInBounds]
    omega
theorem region_last {k : Nat} (hl : lastR ops k = true) (ht : tidyR ops t0.size = true) (hst : ∀ i v w w', G w → I i v w → Below w.heap.size w w' → I i v w')
    (hstep : ∀ i, i < k → RStep P ops Q t0 G I i) (hfin : RFin ops t0 d0 G I k (wpOp P ops Q k (Q .normal))) :
    ∀ (fuel : Nat) (L : Array Bool) (a : Act) (w : World), L.size = ops.size → L.getD k true = false → L.toList.count false ≤ fuel → RInv ops t0 d0 G I L a w → wpAny P .any ops Q fuel L a w := by
  simp only [lastR, Bool.and_eq_true, decide_eq_true_eq] at hl
  obtain ⟨hk, hl⟩ := hl
  have cnt : ∀ (L : Array Bool) i, L.getD i true = false → L.toList[i]? = some false := fun L i h1 => by
    rw [Array.getD_eq_getD_getElem?] at h1
    rw [Array.getElem?_toList]
    cases hL : L[i]? with
    | none => rw [hL] at h1; cases h1
    | some b => rw [hL] at h1; simpa using h1
  intro fuel
  induction fuel with
  | zero =>
    intro L a w hs hlk hc h
    have := cnt_set _ _ (cnt L k hlk)
    omega
  | succ fuel ih =>
    intro L a w hs hlk hc h
    refine ⟨fun hr => ?_, fun i hi => ?_⟩
    · rw [ready_nil ht hs hr k (by omega)] at hlk
      cases hlk
    · obtain ⟨h1, o, ho, hdep⟩ := mem_ready.1 hi
      have his : i < ops.size := (Array.getElem?_eq_some_iff.1 ho).1
      have hc1 := cnt_set _ _ (cnt L i h1)
      by_cases hik : i = k
      · subst hik
        simp only [ho] at hl
        have hall : ∀ j, j < i → L.getD j false = true := fun j hj => by
          have := List.all_eq_true.1 hl j (List.mem_range.2 hj)
          obtain ⟨e, he, h2⟩ := Array.any_eq_true'.1 this
          simp only [Bool.and_eq_true, beq_iff_eq] at h2
          have := hdep e he h2.2
          rw [h2.1] at this
          exact this
        refine wpOp_mono ?_ (hfin a w h.size h.defers h.frame h.glob fun j d hj hd => h.done j d hd (hall j hj))
        intro a' w' hq
        have hnil : Region.ready .any ops (L.setIfInBounds i true) = [] := by
          cases hr : Region.ready .any ops (L.setIfInBounds i true) with
          | nil => rfl
          | cons j rest =>
            have hj : j ∈ Region.ready .any ops (L.setIfInBounds i true) := by rw [hr]; exact List.mem_cons_self
            obtain ⟨h5, o', ho', _⟩ := mem_ready.1 hj
            have hjs : j < ops.size := (Array.getElem?_eq_some_iff.1 ho').1
            by_cases hji : j = i
            · subst hji
              rw [Array.getD_eq_getD_getElem?, Array.getElem?_eq_getElem (by simpa using (by omega : j < L.size))] at h5
              simp at h5
            · rw [getD_set_ne true (Ne.symm hji)] at h5
              have h6 := hall j (by omega)
              rw [Array.getD_eq_getD_getElem?] at h5 h6
              rw [Array.getElem?_eq_getElem (by omega)] at h5 h6
              simp at h5 h6
              rw [h5] at h6
              cases h6
        cases fuel with
        | zero => exact ⟨hnil, hq⟩
        | succ fuel => exact ⟨fun _ => hq, by rw [hnil]; simp⟩
      · refine wpOp_mono ?_ (hstep i (by omega) a w h.frameE h.glob (h.deps hi))
        rintro a' w' ⟨⟨v, rfl, hI⟩, hG, hB⟩
        refine ih _ _ _ (by simpa using hs) (by rw [getD_set_ne true hik]; exact hlk) ?_ (h.next ht h1 hst hI hG hB)
        rw [Array.toList_setIfInBounds]
        omega
theorem inv_zero {a : Act} {w : World} (hG : G w) : RInv ops a.tmps a.defers G I (Array.replicate ops.size false) a w where
  size := rfl
  defers := rfl
  frame := fun _ _ => rfl
  glob := hG
  done := fun i d _ h => by
    rw [Array.getD_eq_getD_getElem?, Array.getElem?_replicate] at h
    split at h <;> simp at h
theorem count_rep (n : Nat) : (Array.replicate n false).toList.count false ≤ n := by
  rw [Array.toList_replicate, List.count_replicate_self]; exact Nat.le_refl _
theorem wp_region_inv {id : Nat} {a : Act} {w : World} (hm : P.follows .mixedOrders = true) (G : World → Prop) (I : Nat → Value → World → Prop) (hG : G w.drew)
    (ht : tidyR ops a.tmps.size = true) (hst : ∀ i v w w', G w → I i v w → Below w.heap.size w w' → I i v w')
    (hstep : ∀ i, i < ops.size → RStep P ops Q a.tmps G I i) (hfin : RFin ops a.tmps a.defers G I ops.size (Q .normal)) : (Code.region id ops true).wp P Q a w :=
  wp_region_any hm (region_all ht hst hstep hfin _ _ _ _ (by simp) (count_rep _) (inv_zero hG))
theorem wp_region_inv_last {id : Nat} {a : Act} {w : World} (hm : P.follows .mixedOrders = true) (k : Nat) (G : World → Prop) (I : Nat → Value → World → Prop) (hG : G w.drew) (hl : lastR ops k = true)
    (ht : tidyR ops a.tmps.size = true) (hst : ∀ i v w w', G w → I i v w → Below w.heap.size w w' → I i v w')
    (hstep : ∀ i, i < k → RStep P ops Q a.tmps G I i) (hfin : RFin ops a.tmps a.defers G I k (wpOp P ops Q k (Q .normal))) : (Code.region id ops true).wp P Q a w :=
  wp_region_any hm (region_last hl ht hst hstep hfin _ _ _ _ (by simp) (by
    have hk : k < ops.size := by
      simp only [lastR, Bool.and_eq_true, decide_eq_true_eq] at hl; omega
    rw [Array.getD_eq_getD_getElem?, Array.getElem?_replicate, if_pos hk]; rfl) (count_rep _) (inv_zero hG))

theorem wanted_free {o : Oper} {y : Nat → Option Bool} (h : o.guard = none) : Region.wanted o y = true := by simp [Region.wanted, h]
theorem wanted_bool {a : Act} {o : Oper} {g d : Nat} {b c : Bool} (h : o.guard = some (g, b)) (hd : (ops[g]?).bind (·.dst) = some d) (hv : a.eval (.tmp d) = .bool c) : Region.wanted o (yielded ops a.tmps) = (c == b) := by
  have h1 : a.tmps[d]? = some (.bool c) := by
    simp only [Act.eval, Array.getD_eq_getD_getElem?] at hv
    cases hx : a.tmps[d]? with
    | none => rw [hx] at hv; simp [undef] at hv
    | some x => rw [hx] at hv; simpa using hv
  simp [Region.wanted, h, yielded, hd, h1]
theorem RStep.value {i : Nat} {o : Oper} (hi : ops[i]? = some o)
    (h : ∀ (a : Act) (w : World), (∀ t, freeT ops t = true → a.eval (.tmp t) = t0.getD t undef) → G w → (∀ j d, waitsFor ops i j d = true → I j (a.eval (.tmp d)) w) →
      Region.wanted o (yielded ops a.tmps) = true ∧ ∃ v w', (execOp a.eval o).run P w = .ok (.value v) w' ∧ I i v w' ∧ G w' ∧ Below w.heap.size w w') : RStep P ops Q t0 G I i := fun a w hF hG hD => by
  obtain ⟨hw, v, w', hr, hI, hG', hB⟩ := h a w hF hG hD
  unfold wpOp
  simp only [hi, hw, if_true]
  refine .inl ?_
  unfold Oper.wp
  rw [hr]
  exact ⟨⟨v, by simp, fun _ _ => hI⟩, hG', hB⟩
theorem RStep.call {i : Nat} {o : Oper} (hi : ops[i]? = some o)
    (h : ∀ (a : Act) (w : World), (∀ t, freeT ops t = true → a.eval (.tmp t) = t0.getD t undef) → G w → (∀ j d, waitsFor ops i j d = true → I j (a.eval (.tmp d)) w) →
      Region.wanted o (yielded ops a.tmps) = true ∧ ∃ f args, (execOp a.eval o).run P w = .ok (.enter f args) w ∧
        Calls P f args w fun e w' => ∃ v, e = .returned v ∧ I i v w' ∧ G w' ∧ Below w.heap.size w w') : RStep P ops Q t0 G I i := fun a w hF hG hD => by
  obtain ⟨hw, f, args, hr, hc⟩ := h a w hF hG hD
  unfold wpOp
  simp only [hi, hw, if_true]
  refine .inl ?_
  unfold Oper.wp
  rw [hr, Oper.upon_enter]
  refine hc.mono ?_
  rintro e w' ⟨v, rfl, hI, hG', hB⟩
  exact ⟨⟨v, by simp, fun _ _ => hI⟩, hG', hB⟩
end
end Go.Proofs.YtjcminoaiieckaaGreatDoor
namespace Go.Proofs.YtjcminoaiieckaaGreatDoor
open Go Go.RowKit
set_option linter.unusedVariables false
abbrev Asr := Value → World → Prop
def isV (c : Value) : Asr := fun v _ => v = c
def atI : List Asr → Nat → Asr
  | [], _ => fun _ _ => True
  | p :: _, 0 => p
  | _ :: l, n + 1 => atI l n
def Stab (p : Asr) : Prop := ∀ v w w', p v w → Below w.heap.size w w' → p v w'
def StabL : List Asr → Prop
  | [] => True
  | p :: l => Stab p ∧ StabL l
theorem stab_isV (c : Value) : Stab (isV c) := fun _ _ _ h _ => h
theorem atI_stab : ∀ {L : List Asr}, StabL L → ∀ i v w w', atI L i v w → Below w.heap.size w w' → atI L i v w'
  | [], _, _, _, _, _, _, _ => trivial
  | p :: l, h, 0, v, w, w', hp, hb => h.1 v w w' hp hb
  | p :: l, h, i + 1, v, w, w', hp, hb => atI_stab h.2 i v w w' hp hb
def AllFrom (p : Nat → Prop) : Nat → Nat → Prop
  | 0, _ => True
  | n + 1, k => p k ∧ AllFrom p n (k + 1)
theorem allFrom_at {p : Nat → Prop} : ∀ {n k : Nat}, AllFrom p n k → ∀ i, i < n → p (k + i)
  | n + 1, k, h, 0, _ => h.1
  | n + 1, k, h, i + 1, hi => by
    have := allFrom_at h.2 i (by omega)
    rwa [show k + 1 + i = k + (i + 1) by omega] at this

section
variable {P : Program} {ops : Array Oper} {Q : Exit → Act → World → Prop} {t0 : Array Value} {d0 : List Deferred} {L : List Asr} {w0 : World} {i : Nat} {o : Oper} {p q r : Asr} {x y z : Operand}
abbrev RS (P : Program) (ops : Array Oper) (Q : Exit → Act → World → Prop) (t0 : Array Value) (w0 : World) (L : List Asr) (i : Nat) : Prop := RStep P ops Q t0 (fun w => Below w0.heap.size w0 w) (atI L) i
theorem wp_region_steps {id : Nat} {a : Act} {w : World} (hm : P.follows .mixedOrders = true) (L : List Asr) (ht : tidyR ops a.tmps.size = true) (hst : StabL L)
    (hstep : AllFrom (RS P ops Q a.tmps w L) ops.size 0) (hfin : RFin ops a.tmps a.defers (fun w' => Below w.heap.size w w') (atI L) ops.size (Q .normal)) : (Code.region id ops true).wp P Q a w :=
  wp_region_inv hm _ (atI L) ((Below.refl _ _).drew) ht (fun i v w w' _ h hb => atI_stab hst i v w w' h hb) (fun i hi => by have := allFrom_at hstep i hi; rwa [Nat.zero_add] at this) hfin
theorem wp_region_steps_last {id : Nat} {a : Act} {w : World} (hm : P.follows .mixedOrders = true) (k : Nat) (L : List Asr) (hl : lastR ops k = true) (ht : tidyR ops a.tmps.size = true) (hst : StabL L)
    (hstep : AllFrom (RS P ops Q a.tmps w L) k 0) (hfin : RFin ops a.tmps a.defers (fun w' => Below w.heap.size w w') (atI L) k (wpOp P ops Q k (Q .normal))) : (Code.region id ops true).wp P Q a w :=
  wp_region_inv_last hm k _ (atI L) ((Below.refl _ _).drew) hl ht (fun i v w w' _ h hb => atI_stab hst i v w w' h hb) (fun i hi => by have := allFrom_at hstep i hi; rwa [Nat.zero_add] at this) hfin

def Wants (ops : Array Oper) (L : List Asr) (i : Nat) (o : Oper) : Prop :=
  o.guard = none ∨ ∃ g b d, o.guard = some (g, b) ∧ (ops[g]?).bind (·.dst) = some d ∧ waitsFor ops i g d = true ∧ atI L g = isV (.bool b)
theorem Wants.yes {a : Act} {w : World} (h : Wants ops L i o) (hD : ∀ j d, waitsFor ops i j d = true → atI L j (a.eval (.tmp d)) w) : Region.wanted o (yielded ops a.tmps) = true := by
  rcases h with h | ⟨g, b, d, h, hd, hw, hL⟩
  · exact wanted_free h
  · have := hD g d hw
    rw [hL] at this
    rw [wanted_bool h hd this]; simp
def OpI (ops : Array Oper) (t0 : Array Value) (L : List Asr) (i : Nat) (x : Operand) (p : Asr) : Prop :=
  ∀ (a : Act) (w : World), (∀ t, freeT ops t = true → a.eval (.tmp t) = t0.getD t undef) → (∀ j d, waitsFor ops i j d = true → atI L j (a.eval (.tmp d)) w) → p (a.eval x) w
theorem opF {t : Nat} {v : Value} (hf : freeT ops t = true) (hv : t0.getD t undef = v) : OpI ops t0 L i (.tmp t) (isV v) := fun a w hF _ => (hF t hf).trans hv
theorem opD (j t : Nat) (hw : waitsFor ops i j t = true) (hL : atI L j = p) : OpI ops t0 L i (.tmp t) p := fun a w _ hD => hL ▸ hD j t hw
theorem st_value (hi : ops[i]? = some o) (hw : Wants ops L i o)
    (h : ∀ (a : Act) (w : World), (∀ t, freeT ops t = true → a.eval (.tmp t) = t0.getD t undef) → Below w0.heap.size w0 w → (∀ j d, waitsFor ops i j d = true → atI L j (a.eval (.tmp d)) w) →
      ∃ v w', (execOp a.eval o).run P w = .ok (.value v) w' ∧ atI L i v w' ∧ Below w.heap.size w w') : RS P ops Q t0 w0 L i :=
  RStep.value hi fun a w hF hG hD => by
    obtain ⟨v, w', h1, h2, h3⟩ := h a w hF hG hD
    exact ⟨hw.yes hD, v, w', h1, h2, hG.trans (h3.mono hG.size), h3⟩
def goesIn (P : Program) (f : FuncId) : Bool := match P.funcs[f]? with | some fn => fn.body.isSome && !(fn.name == "runtime.NumGoroutine") | none => false
theorem run_call (P : Program) (ev : Operand → Value) (w : World) (f : FuncId) (args : Array Operand) (ts : Array TypeId) (o : Oper) (h : o.op = .call { callee := .value (.func f), args := args, argTypes := ts }) (hf : ev (.func f) = .func (.func f) #[] #[]) (hb : goesIn P f = true) : (execOp ev o).run P w = .ok (.enter f (args.map ev)) w := by
  unfold goesIn at hb
  cases hx : P.funcs[f]? with
  | none => rw [hx] at hb; cases hb
  | some fn =>
    rw [hx] at hb
    simp only [Bool.and_eq_true, Bool.not_eq_true', beq_eq_false_iff_ne, ne_eq] at hb
    obtain ⟨c, hc⟩ := Option.isSome_iff_exists.1 hb.1
    unfold execOp; simp only [h]; simp [go_sem, resolve, hf, callFunc, hx, hc, hb.2]
def Gives (p : Asr) (w : World) : Ending → World → Prop := fun e w' => ∃ v, e = .returned v ∧ p v w' ∧ Below w.heap.size w w'
theorem st_call {f : FuncId} {args : Array Operand} {ts : Array TypeId} (hi : ops[i]? = some o) (hop : o.op = .call { callee := .value (.func f), args := args, argTypes := ts }) (hgo : goesIn P f = true) (hw : Wants ops L i o)
    (hc : ∀ (a : Act) (w : World), (∀ t, freeT ops t = true → a.eval (.tmp t) = t0.getD t undef) → Below w0.heap.size w0 w → (∀ j d, waitsFor ops i j d = true → atI L j (a.eval (.tmp d)) w) → Calls P f (args.map a.eval) w (Gives (atI L i) w)) : RS P ops Q t0 w0 L i :=
  RStep.call hi fun a w hF hG hD => ⟨hw.yes hD, f, args.map a.eval, run_call P a.eval w f args ts o hop rfl hgo, (hc a w hF hG hD).mono fun e w' ⟨v, h1, h2, h3⟩ => ⟨v, h1, h2, hG.trans (h3.mono hG.size), h3⟩⟩
end
end Go.Proofs.YtjcminoaiieckaaGreatDoor
namespace Go.Proofs.YtjcminoaiieckaaGreatDoor
open Go Go.RowKit
set_option linter.unusedVariables false
abbrev Fr := List (Nat × Value)
def look : Fr → Nat → Option Value
  | [], _ => none
  | p :: l, t => bif Nat.beq p.1 t then some p.2 else look l t
structure Has (n : Nat) (l : Fr) (a : Act) : Prop where
  size : a.tmps.size = n
  defers : a.defers = []
  at_ : ∀ t v, look l t = some v → a.tmps.getD t undef = v
theorem Has.put {n : Nat} {l : Fr} {a : Act} {d : Nat} {v : Value} (h : Has n l a) (hd : Nat.blt d n = true) : Has n ((d, v) :: l) (a.put (some d) v) := by
  have hd' : d < n := Nat.le_of_ble_eq_true hd
  refine ⟨by rw [put_size]; exact h.size, by rw [put_defers]; exact h.defers, fun t u hu => ?_⟩
  unfold look at hu
  cases hb : Nat.beq d t with
  | true =>
    have : d = t := Nat.eq_of_beq_eq_true hb
    subst this
    simp only [hb, cond_true, Option.some.injEq] at hu
    rw [put_at rfl (by rw [h.size]; exact hd')]; exact hu
  | false =>
    simp only [hb, cond_false] at hu
    have hne : d ≠ t := fun e => by subst e; rw [Nat.beq_refl] at hb; cases hb
    rw [put_other (fun e => hne (Option.some.inj e))]
    exact h.at_ t u hu
def evL (l : Fr) : Operand → Option Value
  | .tmp t => look l t
  | .const v => some v
  | .global g => some (.pointer (some ⟨g, 0, none⟩))
  | .func f => some (.func (.func f) #[] #[])
theorem Has.ev {n : Nat} {l : Fr} {a : Act} (h : Has n l a) : ∀ x v, evL l x = some v → a.eval x = v := by
  intro x v hx
  cases x with
  | tmp t => exact h.at_ t v hx
  | const u => exact Option.some.inj hx
  | global g => exact Option.some.inj hx
  | func f => exact Option.some.inj hx
def SubF (l : Fr) : Fr → Prop
  | [] => True
  | p :: r => look l p.1 = some p.2 ∧ SubF l r
theorem SubF.at_ {l : Fr} : ∀ {r : Fr}, SubF l r → ∀ t v, look r t = some v → look l t = some v
  | [], _, t, v, h => by cases h
  | p :: r, h, t, v, hv => by
    unfold look at hv
    cases hb : Nat.beq p.1 t with
    | true =>
      simp only [hb, cond_true, Option.some.injEq] at hv
      rw [← Nat.eq_of_beq_eq_true hb, ← hv]; exact h.1
    | false =>
      simp only [hb, cond_false] at hv
      exact SubF.at_ h.2 t v hv
theorem Has.sub {n : Nat} {l r : Fr} {a : Act} (h : Has n l a) (hs : SubF l r) : Has n r a := ⟨h.size, h.defers, fun t v hv => h.at_ t v (hs.at_ t v hv)⟩
def parFr : Nat → List Value → Fr
  | _, [] => []
  | i, v :: r => (i, v) :: parFr (i + 1) r
theorem look_par : ∀ (r : List Value) (i t : Nat) (v : Value), look (parFr i r) t = some v → i ≤ t ∧ r[t - i]? = some v
  | [], _, _, _, h => by cases h
  | u :: r, i, t, v, h => by
    unfold parFr look at h
    cases hb : Nat.beq i t with
    | true =>
      have : i = t := Nat.eq_of_beq_eq_true hb
      subst this
      simp only [hb, cond_true, Option.some.injEq] at h
      simp [h]
    | false =>
      simp only [hb, cond_false] at h
      have hne : i ≠ t := fun e => by subst e; rw [Nat.beq_refl] at hb; cases hb
      obtain ⟨h1, h2⟩ := look_par r (i + 1) t v h
      exact ⟨by omega, by rw [show t - i = (t - (i + 1)) + 1 by omega]; exact h2⟩
theorem has_par {n : Nat} {args : List Value} (hn : Nat.ble args.length n = true) : Has n (parFr 0 args) { tmps := args.toArray ++ Array.replicate (n - args.toArray.size) undef, defers := [] } := by
  have hn' : args.length ≤ n := Nat.le_of_ble_eq_true hn
  refine ⟨by simp; omega, rfl, fun t v h => ?_⟩
  obtain ⟨_, h2⟩ := look_par _ _ _ _ h
  have ht : t < args.length := (List.getElem?_eq_some_iff.1 h2).1
  simp only [Array.getD_eq_getD_getElem?]
  rw [Array.getElem?_append_left (by simpa using ht)]
  simp only [Nat.sub_zero] at h2
  simp [h2]

section
variable {P : Program} {n : Nat} {Q : Exit → Act → World → Prop} {l : Fr} {W : World} {ops : Array Oper} {os : List Oper}
def CodeF (P : Program) (n : Nat) (c : Code) (Q : Exit → Act → World → Prop) (l : Fr) (W : World) : Prop := ∀ a, Has n l a → c.wp P Q a W
def OpsF (P : Program) (n : Nat) (ops : Array Oper) (Q : Exit → Act → World → Prop) (os : List Oper) (l : Fr) (W : World) : Prop := ∀ a, Has n l a → wpList P ops Q os a W
def XF (Q : Exit → Act → World → Prop) (e : Exit) (n : Nat) (l : Fr) (W : World) : Prop := ∀ a, Has n l a → Q e a W
theorem enterF {f : FuncId} {fn : Func} {c : Code} {args : List Value} {R : Ending → World → Prop} (hf : P.funcs[f]? = some fn) (hb : fn.body = some c) (hn : fn.ntmps = n) (hl : Nat.ble args.length n = true)
    (h : CodeF P n c (bodyPost P fn R) (parFr 0 args) W) : Calls P f args.toArray W R :=
  calls_of_wp hf hb (by subst hn; exact h _ (has_par hl))
theorem seqF {x y : Code} (h : CodeF P n x (Exit.then (y.wp P Q) Q) l W) : CodeF P n (.seq x y) Q l W := fun a ha => wp_seq (h a ha)
theorem skipF (h : XF Q .normal n l W) : CodeF P n .skip Q l W := fun a ha => wp_skip (h a ha)
theorem exitF {i : Nat} (h : XF Q (.exit i) n l W) : CodeF P n (.exit i) Q l W := fun a ha => wp_exit (h a ha)
theorem retF (h : XF Q .ret n l W) : CodeF P n .ret Q l W := fun a ha => wp_ret (h a ha)
theorem blockF {i : Nat} {c : Code} (h : CodeF P n c (Exit.inBlock i Q) l W) : CodeF P n (.block i c) Q l W := fun a ha => wp_block (h a ha)
theorem condF {c : Operand} {x y : Code} {b : Bool} (hc : evL l c = some (.bool b)) (ht : b = true → CodeF P n x Q l W) (hf : b = false → CodeF P n y Q l W) : CodeF P n (.cond c x y) Q l W :=
  fun a ha => wp_cond_split (t := b) (ha.ev _ _ hc) (fun e => ht e a ha) (fun e => hf e a ha)
theorem condT {c : Operand} {x y : Code} (hc : evL l c = some (.bool true)) (h : CodeF P n x Q l W) : CodeF P n (.cond c x y) Q l W := fun a ha => wp_cond_true (ha.ev _ _ hc) (h a ha)
theorem condN {c : Operand} {x y : Code} (hc : evL l c = some (.bool false)) (h : CodeF P n y Q l W) : CodeF P n (.cond c x y) Q l W := fun a ha => wp_cond_false (ha.ev _ _ hc) (h a ha)
theorem regF {id : Nat} (h : OpsF P n os.toArray Q os l W) : CodeF P n (.region id os.toArray false) Q l W := fun a ha => wp_region_lit (h a ha)
theorem loopF {c : Code} (I : Nat → Fr → World → Prop) (m0 : Nat) (l0 : Fr) (hs : SubF l l0) (h0 : I m0 l0 W)
    (round : ∀ m l W, I m l W → CodeF P n c (Exit.then (fun a' w' => ∃ m' l', m' < m ∧ I m' l' w' ∧ Has n l' a') Q) l W) : CodeF P n (.loop c) Q l W := fun a ha => by
  intro b k cs
  have key : ∀ m l W a, I m l W → Has n l a → ∃ e a' w', Q e a' w' ∧ Arrives P (lone (b.at a (.code c :: .inLoop c :: k)) cs W) b k cs e a' w' := by
    intro m
    induction m using Nat.strongRecOn with
    | _ m ih =>
      intro l W a hI ha
      obtain ⟨e, a₁, w₁, hq, harr⟩ := round m l W hI a ha b (.inLoop c :: k) cs
      cases e with
      | normal =>
        obtain ⟨m', l', hlt, hI₁, ha₁⟩ := hq
        obtain ⟨e₂, a₂, w₂, hq₂, harr₂⟩ := ih m' hlt l' w₁ a₁ hI₁ ha₁
        exact ⟨e₂, a₂, w₂, hq₂, .of_steps (Steps.trans harr (.one step_inLoop)) harr₂⟩
      | exit id => exact ⟨_, a₁, w₁, hq, .pass (x := .inLoop c) rfl (fun _ _ => .inl (by simp)) harr⟩
      | goto l => exact ⟨_, a₁, w₁, hq, .pass (x := .inLoop c) rfl (fun _ _ => .inl (by simp)) harr⟩
      | ret => exact ⟨_, a₁, w₁, hq, .pass (x := .inLoop c) rfl (fun _ _ => .inl (by simp)) harr⟩
      | panic ch => exact ⟨_, a₁, w₁, hq, .pass (x := .inLoop c) rfl (fun _ _ => .inl (by simp)) harr⟩
      | outgrown => exact ⟨_, a₁, w₁, hq, .pass (x := .inLoop c) rfl (fun _ _ => .inl (by simp)) harr⟩
  obtain ⟨e, a', w', hq, harr⟩ := key m0 l0 W a h0 (ha.sub hs)
  exact ⟨e, a', w', hq, .of_steps (.one step_loop) harr⟩
theorem XF.thenN {y : Code} (h : CodeF P n y Q l W) : XF (Exit.then (y.wp P Q) Q) .normal n l W := fun a ha => h a ha
theorem XF.thenX {i : Nat} {K : Act → World → Prop} (h : XF Q (.exit i) n l W) : XF (Exit.then K Q) (.exit i) n l W := fun a ha => h a ha
theorem XF.thenR {K : Act → World → Prop} (h : XF Q .ret n l W) : XF (Exit.then K Q) .ret n l W := fun a ha => h a ha
theorem XF.blkN {i : Nat} (h : XF Q .normal n l W) : XF (Exit.inBlock i Q) .normal n l W := fun a ha => h a ha
theorem XF.blkR {i : Nat} (h : XF Q .ret n l W) : XF (Exit.inBlock i Q) .ret n l W := fun a ha => h a ha
theorem XF.blkX {i : Nat} (h : XF Q .normal n l W) : XF (Exit.inBlock i Q) (.exit i) n l W := fun a ha => by show (if i = i then Q .normal a W else Q (.exit i) a W); rw [if_pos rfl]; exact h a ha
theorem XF.round {I : Nat → Fr → World → Prop} {m : Nat} (m' : Nat) (l' : Fr) (hm : m' < m) (hs : SubF l l') (hI : I m' l' W) : XF (Exit.then (fun a' w' => ∃ m' l', m' < m ∧ I m' l' w' ∧ Has n l' a') Q) .normal n l W :=
  fun a ha => ⟨m', l', hm, hI, ha.sub hs⟩
theorem endF (h : XF Q .normal n l W) : OpsF P n ops Q [] l W := fun a ha => h a ha
theorem XF.res {fn : Func} {R : Ending → World → Prop} {v : Value} (hr : ∀ a, Has n l a → (results fn a.tmps).run P W = .ok v W) (hR : R (.returned v) W) : XF (bodyPost P fn R) .ret n l W :=
  fun a ha => ⟨ha.defers, v, hr a ha, hR⟩
theorem res1 {fn : Func} {t : Nat} {v : Value} (hf : fn.results = #[.tmp t]) (hv : look l t = some v) : ∀ a, Has n l a → (results fn a.tmps).run P W = .ok v W :=
  fun a ha => by rw [results_tmp hf, ha.at_ t v hv]
theorem res2 {fn : Func} {t u : Nat} {v x : Value} (hf : fn.results = #[.tmp t, .tmp u]) (hv : look l t = some v) (hx : look l u = some x) : ∀ a, Has n l a → (results fn a.tmps).run P W = .ok (.tuple #[v, x]) W :=
  fun a ha => by rw [results_tmp2 hf, ha.at_ t v hv, ha.at_ u x hx]
theorem op_wantedF {dst : Option Tmp} {op : Op} {ty : TypeId} {pos : String} {aft : Array Edge} {g d : Nat} {b : Bool} (hd : (ops[g]?).bind (·.dst) = some d) (hv : look l d = some (.bool b))
    (h : OpsF P n ops Q (⟨dst, op, ty, pos, aft, none⟩ :: os) l W) : OpsF P n ops Q (⟨dst, op, ty, pos, aft, some (g, b)⟩ :: os) l W := fun a ha => by
  have h1 := h a ha
  have hw : Region.wanted ⟨dst, op, ty, pos, aft, some (g, b)⟩ (yielded ops a.tmps) = true := by
    rw [wanted_bool (ops := ops) rfl hd (ha.at_ d _ hv)]; simp
  unfold wpList at h1 ⊢
  rw [hw]
  rw [show Region.wanted ⟨dst, op, ty, pos, aft, none⟩ (yielded ops a.tmps) = true from rfl] at h1
  exact h1
theorem op_notF {dst : Nat} {op : Op} {ty : TypeId} {pos : String} {aft : Array Edge} {g d : Nat} {b c : Bool} (hd : (ops[g]?).bind (·.dst) = some d) (hv : look l d = some (.bool c)) (hc : (c == b) = false) (hn : Nat.blt dst n = true)
    (h : OpsF P n ops Q os ((dst, undef) :: l) W) : OpsF P n ops Q (⟨some dst, op, ty, pos, aft, some (g, b)⟩ :: os) l W := fun a ha => by
  have hw : Region.wanted ⟨some dst, op, ty, pos, aft, some (g, b)⟩ (yielded ops a.tmps) = false := by
    rw [wanted_bool (ops := ops) rfl hd (ha.at_ d _ hv)]; exact hc
  unfold wpList
  rw [hw]
  exact h _ (ha.put hn)
theorem op_cases {d : Nat} {b : Bool} (hv : look l d = some (.bool b)) (ht : b = true → OpsF P n ops Q os ((d, .bool true) :: l) W) (hf : b = false → OpsF P n ops Q os ((d, .bool false) :: l) W) : OpsF P n ops Q os l W := fun a ha => by
  have hb := ha.at_ d _ hv
  have key : ∀ c, b = c → Has n ((d, .bool c) :: l) a := fun c hc => ⟨ha.size, ha.defers, fun t u hu => by
    unfold look at hu
    cases hx : Nat.beq d t with
    | true =>
      simp only [hx, cond_true, Option.some.injEq] at hu
      rw [← Nat.eq_of_beq_eq_true hx, ← hu, ← hc]; exact hb
    | false =>
      simp only [hx, cond_false] at hu
      exact ha.at_ t u hu⟩
  cases hc : b with
  | true => exact ht hc a (key _ hc)
  | false => exact hf hc a (key _ hc)

variable {d : Nat} {op : Op} {ty : TypeId} {pos : String} {aft : Array Edge} {v : Value}
def Runs (P : Program) (l : Fr) (o : Oper) (W : World) (v : Value) (W' : World) : Prop := ∀ ev : Operand → Value, (∀ x u, evL l x = some u → ev x = u) → (execOp ev o).run P W = .ok (.value v) W'
theorem opV {W' : World} (hr : Runs P l ⟨some d, op, ty, pos, aft, none⟩ W v W') (hd : Nat.blt d n = true) (h : OpsF P n ops Q os ((d, v) :: l) W') : OpsF P n ops Q (⟨some d, op, ty, pos, aft, none⟩ :: os) l W := fun a ha =>
  wpList_plain rfl fun K hK => by
    unfold Oper.wp
    rw [hr a.eval ha.ev]
    exact hK _ _ (h _ (ha.put hd))
theorem rn_move {x : Operand} (hx : evL l x = some v) : Runs P l ⟨some d, .move x, ty, pos, aft, none⟩ W (v) W := fun ev he => by unfold execOp; simp only []; rw [he x v hx]; rfl
theorem op_move {x : Operand} (hx : evL l x = some v) (hd : Nat.blt d n = true) (h : OpsF P n ops Q os ((d, v) :: l) W) : OpsF P n ops Q (⟨some d, .move x, ty, pos, aft, none⟩ :: os) l W := opV (rn_move hx) hd h
theorem rn_assign {x : Operand} (hx : evL l x = some v) : Runs P l ⟨some d, .assign x, ty, pos, aft, none⟩ W (v) W := fun ev he => by unfold execOp; simp only []; rw [he x v hx]; rfl
theorem op_assign {x : Operand} (hx : evL l x = some v) (hd : Nat.blt d n = true) (h : OpsF P n ops Q os ((d, v) :: l) W) : OpsF P n ops Q (⟨some d, .assign x, ty, pos, aft, none⟩ :: os) l W := opV (rn_assign hx) hd h
theorem rn_pickT {x y z : Operand} (hx : evL l x = some (.bool true)) (hy : evL l y = some v) : Runs P l ⟨some d, .pick x y z, ty, pos, aft, none⟩ W (v) W := fun ev he => by unfold execOp; simp only []; rw [he x _ hx, he y _ hy]; rfl
theorem op_pickT {x y z : Operand} (hx : evL l x = some (.bool true)) (hy : evL l y = some v) (hd : Nat.blt d n = true) (h : OpsF P n ops Q os ((d, v) :: l) W) : OpsF P n ops Q (⟨some d, .pick x y z, ty, pos, aft, none⟩ :: os) l W := opV (rn_pickT hx hy) hd h
theorem rn_pickF {x y z : Operand} (hx : evL l x = some (.bool false)) (hz : evL l z = some v) : Runs P l ⟨some d, .pick x y z, ty, pos, aft, none⟩ W (v) W := fun ev he => by unfold execOp; simp only []; rw [he x _ hx, he z _ hz]; rfl
theorem op_pickF {x y z : Operand} (hx : evL l x = some (.bool false)) (hz : evL l z = some v) (hd : Nat.blt d n = true) (h : OpsF P n ops Q os ((d, v) :: l) W) : OpsF P n ops Q (⟨some d, .pick x y z, ty, pos, aft, none⟩ :: os) l W := opV (rn_pickF hx hz) hd h
theorem rn_not {x : Operand} {b : Bool} {t : TypeId} (hx : evL l x = some (.bool b)) : Runs P l ⟨some d, .unOp .not t x, ty, pos, aft, none⟩ W (.bool (!b)) W := fun ev he => by unfold execOp; simp only []; rw [he x _ hx]; rfl
theorem op_not {x : Operand} {b : Bool} {t : TypeId} (hx : evL l x = some (.bool b)) (hd : Nat.blt d n = true) (h : OpsF P n ops Q os ((d, .bool (!b)) :: l) W) : OpsF P n ops Q (⟨some d, .unOp .not t x, ty, pos, aft, none⟩ :: os) l W := opV (rn_not hx) hd h
theorem rn_extract {x : Operand} {i : Nat} {vs : Array Value} (hx : evL l x = some (.tuple vs)) (hv : vs[i]? = some v) : Runs P l ⟨some d, .extract x i, ty, pos, aft, none⟩ W (v) W := fun ev he => by unfold execOp; simp only []; rw [he x _ hx]; simp [Instr.extract, hv]
theorem op_extract {x : Operand} {i : Nat} {vs : Array Value} (hx : evL l x = some (.tuple vs)) (hv : vs[i]? = some v) (hd : Nat.blt d n = true) (h : OpsF P n ops Q os ((d, v) :: l) W) : OpsF P n ops Q (⟨some d, .extract x i, ty, pos, aft, none⟩ :: os) l W := opV (rn_extract hx hv) hd h
theorem rn_len {x : Operand} {t e : TypeId} {ad : Option Addr} {m c : Nat} (ht : P.underlying t = some (.slice e)) (hx : evL l x = some (.slice ad m c)) : Runs P l ⟨some d, .call { callee := .builtin .len, args := #[x], argTypes := #[t] }, ty, pos, aft, none⟩ W (.int .i64 (m : Int)) W := fun ev he => by unfold execOp; simp [resolve, invoke, builtin, he x _ hx, Builtin.len_, run_underlying ht, goInt]
theorem op_len {x : Operand} {t e : TypeId} {ad : Option Addr} {m c : Nat} (ht : P.underlying t = some (.slice e)) (hx : evL l x = some (.slice ad m c)) (hd : Nat.blt d n = true) (h : OpsF P n ops Q os ((d, .int .i64 (m : Int)) :: l) W) : OpsF P n ops Q (⟨some d, .call { callee := .builtin .len, args := #[x], argTypes := #[t] }, ty, pos, aft, none⟩ :: os) l W := opV (rn_len ht hx) hd h
end
end Go.Proofs.YtjcminoaiieckaaGreatDoor
namespace Go.Proofs.YtjcminoaiieckaaGreatDoor
open Go Go.RowKit
set_option linter.unusedVariables false
def Agree (lo : Nat) (A W : World) : Prop := A.heap.size ≤ W.heap.size ∧ ∀ b, lo ≤ b → b < A.heap.size → W.heap[b]? = A.heap[b]?
theorem Agree.refl (lo : Nat) (A : World) : Agree lo A A := ⟨Nat.le_refl _, fun _ _ _ => rfl⟩
theorem Agree.cell {lo : Nat} {A W : World} (h : Agree lo A W) {p : Addr} {v : Value} (hp : lo ≤ p.block) (hc : A.cell? p = some v) : W.cell? p = some v :=
  (World.cell?_of_block (h.2 p.block hp (World.block_lt_of_cell? A p hc))).trans hc
theorem below_agree {A W : World} (h : Below A.heap.size A W) (lo : Nat) : Agree lo A W := ⟨h.size, fun b _ hb => h.block b hb⟩

abbrev Own := List (Nat × List Value × TypeId)
structure GR where
  v : Value
  n : Nat
  xs : List Value
  e : TypeId
  size : Nat
abbrev Grows := List GR
def Value.apart (v u : Value) : Prop := ∀ b, v.ownBlock = some b → u.ownBlock ≠ some b
structure St (w0 : World) (O : Own) (G : Grows) (K : List (Nat × World)) (W : World) : Prop where
  below : Below w0.heap.size w0 W
  own : ∀ p ∈ O, w0.heap.size ≤ p.1 ∧ W.heap[p.1]? = some (.cells p.2.1.toArray p.2.2 (0, 0))
  dist : O.Pairwise (fun p q => p.1 ≠ q.1)
  kept : ∀ q ∈ K, Agree q.1 q.2 W ∧ ∀ p ∈ O, p.1 < q.1 ∨ q.2.heap.size ≤ p.1
  rows : ∀ g ∈ G, W.ownsRow w0.heap.size g.e g.size g.v g.n g.xs ∧ ∀ b, g.v.ownBlock = some b → (∀ p ∈ O, p.1 ≠ b) ∧ ∀ q ∈ K, b < q.1 ∨ q.2.heap.size ≤ b
  gdist : G.Pairwise (fun g h => Value.apart g.v h.v)
section
variable {w0 W : World} {O : Own} {G : Grows} {K : List (Nat × World)}
theorem lt_of_heap {w : World} {b : Nat} {o : Obj} (h : w.heap[b]? = some o) : b < w.heap.size := (Array.getElem?_eq_some_iff.1 h).1
theorem St.start (w : World) : St w [] [] [] w := ⟨Below.refl _ _, (fun p h => by cases h), List.Pairwise.nil, (fun q h => by cases h), (fun q h => by cases h), List.Pairwise.nil⟩
theorem St.glt (h : St w0 O G K W) {g : GR} (hg : g ∈ G) {b : Nat} (hb : g.v.ownBlock = some b) : w0.heap.size ≤ b ∧ b < W.heap.size := (h.rows g hg).1.lt b hb
theorem ownsRow_same {w w' : World} {base : Nat} {e : TypeId} {size : Nat} {v : Value} {n : Nat} {xs : List Value} (h : w.ownsRow base e size v n xs) (hb : ∀ b, v.ownBlock = some b → w'.heap[b]? = w.heap[b]?) : w'.ownsRow base e size v n xs := by
  refine ⟨h.1, ?_⟩
  rcases h.2 with h2 | ⟨g, cap, cur, rfl, h3, h4, h5⟩
  · exact .inl h2
  · exact .inr ⟨g, cap, cur, rfl, h3, by rw [hb g rfl]; exact h4, h5⟩
theorem St.alloc (h : St w0 O G K W) (cs : List Value) (T : TypeId) : St w0 ((W.heap.size, cs, T) :: O) G K (W.alloc (.cells cs.toArray T)) where
  below := h.below.alloc h.below.size _
  own := fun p hp => by
    rcases List.mem_cons.1 hp with rfl | hp
    · exact ⟨h.below.size, heap_alloc_new W _⟩
    · obtain ⟨h1, h2⟩ := h.own p hp
      exact ⟨h1, (Below.heap_alloc W _ _ (lt_of_heap h2)).trans h2⟩
  dist := List.Pairwise.cons (fun q hq e => by have := lt_of_heap (h.own q hq).2; simp only at e; omega) h.dist
  kept := fun q hq => by
    obtain ⟨h1, h2⟩ := h.kept q hq
    refine ⟨⟨by have := h1.1; simp; omega, fun b hb hb2 => (Below.heap_alloc W _ _ (by have := h1.1; omega)).trans (h1.2 b hb hb2)⟩, fun p hp => ?_⟩
    rcases List.mem_cons.1 hp with rfl | hp
    · exact .inr h1.1
    · exact h2 p hp
  rows := fun g hg => by
    obtain ⟨h1, h2⟩ := h.rows g hg
    refine ⟨ownsRow_same h1 fun b hb => Below.heap_alloc W _ _ (h.glt hg hb).2, fun b hb => ⟨fun p hp => ?_, (h2 b hb).2⟩⟩
    rcases List.mem_cons.1 hp with rfl | hp
    · have := (h.glt hg hb).2; simp only; omega
    · exact (h2 b hb).1 p hp
  gdist := h.gdist
theorem St.grow {W' : World} (h : St w0 O G K W) (hb : Below W.heap.size W W') : St w0 O G K W' where
  below := h.below.trans (hb.mono h.below.size)
  own := fun p hp => by
    obtain ⟨h1, h2⟩ := h.own p hp
    exact ⟨h1, (hb.block _ (lt_of_heap h2)).trans h2⟩
  dist := h.dist
  kept := fun q hq => by
    obtain ⟨h1, h2⟩ := h.kept q hq
    exact ⟨⟨Nat.le_trans h1.1 hb.size, fun b hb1 hb2 => (hb.block b (Nat.lt_of_lt_of_le hb2 h1.1)).trans (h1.2 b hb1 hb2)⟩, h2⟩
  rows := fun g hg => ⟨ownsRow_same (h.rows g hg).1 fun b h1 => hb.block b (h.glt hg h1).2, (h.rows g hg).2⟩
  gdist := h.gdist
theorem St.call {W' : World} (h : St w0 O G K W) (hb : Below W.heap.size W W') : St w0 O G ((W.heap.size, W') :: K) W' :=
  let g := h.grow hb
  ⟨g.below, g.own, g.dist, fun q hq => by
    rcases List.mem_cons.1 hq with rfl | hq
    · exact ⟨Agree.refl _ _, fun p hp => .inl (lt_of_heap (h.own p hp).2)⟩
    · exact g.kept q hq, (fun r hr => ⟨(g.rows r hr).1, fun b hb => ⟨((g.rows r hr).2 b hb).1, fun q hq => by
      rcases List.mem_cons.1 hq with rfl | hq
      · exact .inl (h.glt hr hb).2
      · exact ((g.rows r hr).2 b hb).2 q hq⟩⟩), g.gdist⟩
theorem St.at_ (h : St w0 O G K W) (i : Nat) {B : Nat} {cs : List Value} {T : TypeId} (hi : O[i]? = some (B, cs, T)) : W.heap[B]? = some (.cells cs.toArray T (0, 0)) := (h.own _ (List.mem_of_getElem? hi)).2
theorem St.ge (h : St w0 O G K W) (i : Nat) {B : Nat} {cs : List Value} {T : TypeId} (hi : O[i]? = some (B, cs, T)) : w0.heap.size ≤ B := (h.own _ (List.mem_of_getElem? hi)).1
theorem St.since (h : St w0 O G K W) (i : Nat) {lo : Nat} {A : World} (hi : K[i]? = some (lo, A)) : Agree lo A W := (h.kept _ (List.mem_of_getElem? hi)).1
theorem St.agree (h : St w0 O G K W) : Agree 0 w0 W := below_agree h.below 0
theorem cell_own {B j : Nat} {cs : List Value} {T : TypeId} {v : Value} (h : W.heap[B]? = some (.cells cs.toArray T (0, 0))) (hv : cs[j]? = some v) : W.cell? ⟨B, j, none⟩ = some v := by
  unfold World.cell?; simp [h, hv]
theorem frozen_own {B j : Nat} {cs : List Value} {T : TypeId} (h : W.heap[B]? = some (.cells cs.toArray T (0, 0))) : W.frozen? ⟨B, j, none⟩ = false := by
  unfold World.frozen?; simp [h]
theorem heap_set {B j : Nat} {cs : List Value} {T : TypeId} (v : Value) (h : W.heap[B]? = some (.cells cs.toArray T (0, 0))) : (W.setCell ⟨B, j, none⟩ v).heap[B]? = some (.cells (cs.set j v).toArray T (0, 0)) := by
  simp only [World.setCell, Array.getElem?_modify, if_true, h, Option.map_some]
  simp
theorem pw_set {x y : Nat × List Value × TypeId} (hx : x.1 = y.1) : ∀ {O : Own} {i : Nat}, O[i]? = some x → O.Pairwise (fun p q => p.1 ≠ q.1) → (O.set i y).Pairwise (fun p q => p.1 ≠ q.1)
  | [], _, h, _ => by simp at h
  | p :: O, 0, h, hp => by
    simp at h; subst h
    cases hp with
    | cons a b => exact List.Pairwise.cons (fun q hq => by rw [← hx]; exact a q hq) b
  | p :: O, i + 1, h, hp => by
    cases hp with
    | cons a b =>
      refine List.Pairwise.cons (fun q hq => ?_) (pw_set hx (by simpa using h) b)
      rcases List.mem_or_eq_of_mem_set hq with hq | rfl
      · exact a q hq
      · rw [← hx]; exact a x (List.mem_of_getElem? (by simpa using h))
theorem mem_set_ne : ∀ {O : Own} {i : Nat} {x y q : Nat × List Value × TypeId}, O[i]? = some x → O.Pairwise (fun p q => p.1 ≠ q.1) → q ∈ O.set i y → q = y ∨ (q ∈ O ∧ q.1 ≠ x.1)
  | [], _, _, _, _, h, _, _ => by simp at h
  | p :: O, 0, x, y, q, h, hp, hq => by
    simp at h; subst h
    cases hp with
    | cons a b =>
      rcases List.mem_cons.1 hq with rfl | hq
      · exact .inl rfl
      · exact .inr ⟨List.mem_cons_of_mem _ hq, fun e => a q hq e.symm⟩
  | p :: O, i + 1, x, y, q, h, hp, hq => by
    cases hp with
    | cons a b =>
      rcases List.mem_cons.1 hq with rfl | hq
      · exact .inr ⟨List.mem_cons_self, a x (List.mem_of_getElem? (by simpa using h))⟩
      · rcases mem_set_ne (by simpa using h) b hq with h1 | ⟨h1, h2⟩
        · exact .inl h1
        · exact .inr ⟨List.mem_cons_of_mem _ h1, h2⟩
theorem St.set (h : St w0 O G K W) (i : Nat) {B : Nat} {cs : List Value} {T : TypeId} (hi : O[i]? = some (B, cs, T)) (j : Nat) (v : Value) : St w0 (O.set i (B, cs.set j v, T)) G K (W.setCell ⟨B, j, none⟩ v) where
  below := h.below.setCell (p := ⟨B, j, none⟩) (h.ge i hi) v
  own := fun p hp => by
    rcases mem_set_ne hi h.dist hp with rfl | ⟨h1, h2⟩
    · exact ⟨h.ge i hi, heap_set v (h.at_ i hi)⟩
    · obtain ⟨h3, h4⟩ := h.own p h1
      exact ⟨h3, (Below.heap_setCell _ _ _ _ h2).trans h4⟩
  dist := pw_set (x := (B, cs, T)) (y := (B, cs.set j v, T)) rfl hi h.dist
  kept := fun q hq => by
    obtain ⟨h1, h2⟩ := h.kept q hq
    have hB := h2 _ (List.mem_of_getElem? hi)
    refine ⟨⟨by have := h1.1; simpa using this, fun b hb hb2 => (Below.heap_setCell _ _ _ _ (by show b ≠ B; simp only at hB; omega)).trans (h1.2 b hb hb2)⟩, fun p hp => ?_⟩
    rcases mem_set_ne hi h.dist hp with rfl | ⟨h3, _⟩
    · exact hB
    · exact h2 p h3
  rows := fun g hg => by
    obtain ⟨h1, h2⟩ := h.rows g hg
    refine ⟨ownsRow_same h1 fun b hb => Below.heap_setCell _ _ _ _ (fun e => (h2 b hb).1 _ (List.mem_of_getElem? hi) (by simpa using e.symm)), fun b hb => ⟨fun p hp => ?_, (h2 b hb).2⟩⟩
    rcases mem_set_ne hi h.dist hp with rfl | ⟨h3, _⟩
    · exact (h2 b hb).1 (B, cs, T) (List.mem_of_getElem? hi)
    · exact (h2 b hb).1 p h3
  gdist := h.gdist
theorem St.tail {p : Nat × List Value × TypeId} (h : St w0 (p :: O) G K W) : St w0 O G K W where
  below := h.below
  own := fun q hq => h.own q (List.mem_cons_of_mem _ hq)
  dist := by cases h.dist with | cons a b => exact b
  kept := fun q hq => ⟨(h.kept q hq).1, fun r hr => (h.kept q hq).2 r (List.mem_cons_of_mem _ hr)⟩
  rows := fun g hg => ⟨(h.rows g hg).1, fun b hb => ⟨fun r hr => ((h.rows g hg).2 b hb).1 r (List.mem_cons_of_mem _ hr), ((h.rows g hg).2 b hb).2⟩⟩
  gdist := h.gdist
theorem St.keep (K' : List (Nat × World)) (h : St w0 O G K W) (hk : ∀ q ∈ K', q ∈ K) : St w0 O G K' W where
  below := h.below
  own := h.own
  dist := h.dist
  kept := fun q hq => h.kept q (hk q hq)
  rows := fun g hg => ⟨(h.rows g hg).1, fun b hb => ⟨((h.rows g hg).2 b hb).1, fun q hq => ((h.rows g hg).2 b hb).2 q (hk q hq)⟩⟩
  gdist := h.gdist
theorem St.clear (h : St w0 O G K W) : St w0 O G [] W := h.keep [] (fun q hq => by cases hq)
theorem St.newG (h : St w0 O G K W) (e : TypeId) (size : Nat) : St w0 O (⟨.slice none 0 0, 0, [], e, size⟩ :: G) K W where
  below := h.below
  own := h.own
  dist := h.dist
  kept := h.kept
  rows := fun g hg => by
    rcases List.mem_cons.1 hg with rfl | hg
    · exact ⟨World.ownsRow_nil _ _ _ _, fun b hb => by simp [Value.ownBlock] at hb⟩
    · exact h.rows g hg
  gdist := List.Pairwise.cons (fun g hg b hb => by simp [Value.ownBlock] at hb) h.gdist
theorem St.row (h : St w0 O G K W) (i : Nat) {g : GR} (hi : G[i]? = some g) : W.ownsRow w0.heap.size g.e g.size g.v g.n g.xs := (h.rows g (List.mem_of_getElem? hi)).1
theorem append_own2 {P : Program} {w : World} (base : Nat) (t ty e : TypeId) (i : TypeInfo) (z : Value) (ht : P.underlying t = some (.slice e)) (hi : P.info? e = some i) (hz : i.zero = some z) (hzs : z.cells.size = i.size) (hsz : 0 < i.size)
    (v : Value) (n : Nat) (xs : List Value) (hown : w.ownsRow base e i.size v n xs) (a : Addr) (m c : Nat) (news : List Value) (hl : news.length = m * i.size) (hnews : ∀ j u, news[j]? = some u → w.cell? (a.add j) = some u) (h1 : ∀ u ∈ news, u.oneCell' = true)
    (h63 : n + m ≤ maxLen) (hbytes : (n + m) * i.bytes ≤ 140737488355328) (hbase : base ≤ w.heap.size) :
    ∃ v' w', (Builtin.append_ #[t, t] ty #[v, .slice (some a) m c]).run P w = .ok v' w' ∧ w'.ownsRow base e i.size v' (n + m) (xs ++ news) ∧ w.grownBy w' v.ownBlock ∧ (v'.ownBlock = v.ownBlock ∨ v'.ownBlock = some w.heap.size) := by
  obtain ⟨v', w', hr, h2, h3, h4⟩ := run_append_own (P := P) w base t ty e i z i.size i.bytes ht hi hz rfl rfl hzs hsz v n xs hown a m c news hl hnews h1 h63 hbytes hbase
  refine ⟨v', w', hr, h2, h3, ?_⟩
  cases hv : v'.ownBlock with
  | none =>
    rcases h2.2 with ⟨rfl, hn⟩ | ⟨g, cap, cur, rfl, _⟩
    · rw [(h4.1 rfl).1]; exact .inl rfl
    · simp [Value.ownBlock] at hv
  | some b =>
    by_cases hvb : v.ownBlock = some b
    · exact .inl hvb.symm
    · refine .inr ?_
      -- the block is no old one: append would have had to lie there before
      have hbig := run_append_own (P := P) w base t ty e i z i.size i.bytes ht hi hz rfl rfl hzs hsz v n xs hown a m c news hl hnews h1 h63 hbytes hbase
      rcases hown.2 with ⟨rfl, rfl⟩ | ⟨g, cap, cur, rfl, hbg, hg, hnc, hcm, hcs, htake⟩
      · have hx : xs = [] := List.eq_nil_of_length_eq_zero (by simpa using hown.1)
        subst hx
        by_cases hm : m = 0
        · subst hm
          have := h4.2 ⟨rfl, rfl⟩
          subst this; simp [Value.ownBlock] at hv
        · have hr2 := run_append_nil (P := P) w t ty e i z ht hi hz a m c news hl hnews (by omega) (by simp only [maxLen] at h63; omega) (by have hb := hbytes; simp only [Nat.zero_add] at hb; omega)
          rw [hr2] at hr
          simp only [Result.ok.injEq] at hr
          rw [← hr.1] at hv
          simpa [Value.ownBlock] using hv.symm
      · by_cases hroom : n + m ≤ cap
        · have hfit : n * i.size + news.length ≤ cur.size := by rw [hl, hcs, ← Nat.add_mul]; exact Nat.mul_le_mul_right _ hroom
          have hr2 := run_append_room (P := P) w t ty e i ht hi g n cap cur hg a m c news hl hnews h1 hroom hfit
          rw [hr2] at hr
          simp only [Result.ok.injEq] at hr
          rw [← hr.1] at hv
          exact absurd hv hvb
        · have holds : ∀ j u, xs[j]? = some u → w.cell? ((⟨g, 0, none⟩ : Addr).add j) = some u := hown.cells (g := g) rfl
          have hr2 := run_append_grow (P := P) w t ty e i z ht hi hz ⟨g, 0, none⟩ n cap xs hown.1 holds a m c news hl hnews (by omega) (by simp only [maxLen] at h63; omega) (growslice_fits (by omega) hbytes)
          rw [hr2] at hr
          simp only [Result.ok.injEq] at hr
          rw [← hr.1] at hv
          simpa [Value.ownBlock] using hv.symm
theorem mem_setG : ∀ {G : Grows} {i : Nat} {x y q : GR}, G[i]? = some x → q ∈ G.set i y → G.Pairwise (fun g h => Value.apart g.v h.v) → q = y ∨ (q ∈ G ∧ (Value.apart q.v x.v ∨ Value.apart x.v q.v))
  | [], _, _, _, _, h, _, _ => by simp at h
  | p :: G, 0, x, y, q, h, hq, hp => by
    simp at h; subst h
    cases hp with
    | cons a b =>
      rcases List.mem_cons.1 hq with rfl | hq
      · exact .inl rfl
      · exact .inr ⟨List.mem_cons_of_mem _ hq, .inr (a q hq)⟩
  | p :: G, i + 1, x, y, q, h, hq, hp => by
    cases hp with
    | cons a b =>
      rcases List.mem_cons.1 hq with rfl | hq
      · exact .inr ⟨List.mem_cons_self, .inl (a x (List.mem_of_getElem? (by simpa using h)))⟩
      · rcases mem_setG (by simpa using h) hq b with h1 | ⟨h1, h2⟩
        · exact .inl h1
        · exact .inr ⟨List.mem_cons_of_mem _ h1, h2⟩
theorem pw_setG : ∀ {G : Grows} {i : Nat} {x y : GR}, G[i]? = some x → (∀ q ∈ G, Value.apart q.v x.v → Value.apart q.v y.v) → (∀ q ∈ G, Value.apart x.v q.v → Value.apart y.v q.v) → G.Pairwise (fun g h => Value.apart g.v h.v) → (G.set i y).Pairwise (fun g h => Value.apart g.v h.v)
  | [], _, _, _, h, _, _, _ => by simp at h
  | p :: G, 0, x, y, h, k1, k2, hp => by
    simp at h; subst h
    cases hp with
    | cons a b => exact List.Pairwise.cons (fun q hq => k2 q (List.mem_cons_of_mem _ hq) (a q hq)) b
  | p :: G, i + 1, x, y, h, k1, k2, hp => by
    cases hp with
    | cons a b =>
      have hx := a x (List.mem_of_getElem? (by simpa using h))
      refine List.Pairwise.cons (fun q hq => ?_) (pw_setG (by simpa using h) (fun q hq => k1 q (List.mem_cons_of_mem _ hq)) (fun q hq => k2 q (List.mem_cons_of_mem _ hq)) b)
      rcases List.mem_or_eq_of_mem_set hq with hq | rfl
      · exact a q hq
      · exact k1 p List.mem_cons_self hx
theorem St.setG {W' : World} (h : St w0 O G K W) (i : Nat) {g : GR} (hi : G[i]? = some g) {v' : Value} {n' : Nat} {xs' : List Value} (hown : W'.ownsRow w0.heap.size g.e g.size v' n' xs') (hgr : W.grownBy W' g.v.ownBlock) (hv : v'.ownBlock = g.v.ownBlock ∨ v'.ownBlock = some W.heap.size) :
    St w0 O (G.set i ⟨v', n', xs', g.e, g.size⟩) K W' where
  below := h.below.grown hgr h.below.size (fun k hk => (h.glt (List.mem_of_getElem? hi) hk).1)
  own := fun p hp => by
    obtain ⟨h1, h2⟩ := h.own p hp
    refine ⟨h1, (hgr.block _ (lt_of_heap h2) (fun e => ?_)).trans h2⟩
    exact ((h.rows g (List.mem_of_getElem? hi)).2 p.1 e.symm).1 p hp rfl
  dist := h.dist
  kept := fun q hq => by
    obtain ⟨h1, h2⟩ := h.kept q hq
    refine ⟨⟨Nat.le_trans h1.1 hgr.size, fun b hb hb2 => (hgr.block b (Nat.lt_of_lt_of_le hb2 h1.1) (fun e => ?_)).trans (h1.2 b hb hb2)⟩, h2⟩
    have := ((h.rows g (List.mem_of_getElem? hi)).2 b e.symm).2 q hq
    omega
  rows := fun r hr => by
    rcases mem_setG hi hr h.gdist with rfl | ⟨hr', hap⟩
    · refine ⟨hown, fun b hb => ?_⟩
      rcases hv with e | e
      · have hb' : g.v.ownBlock = some b := e ▸ hb
        exact (h.rows g (List.mem_of_getElem? hi)).2 b hb'
      · have hb' : W.heap.size = b := by rw [show v'.ownBlock = some b from hb] at e; exact (Option.some.inj e).symm
        subst hb'
        exact ⟨fun p hp e => by have := lt_of_heap (h.own p hp).2; omega, fun q hq => .inr (h.kept q hq).1.1⟩
    · refine ⟨ownsRow_same (h.rows r hr').1 fun b hb => hgr.block b (h.glt hr' hb).2 (fun e => ?_), (h.rows r hr').2⟩
      rcases hap with h1 | h1
      · exact h1 b hb e.symm
      · exact h1 b e.symm hb
  gdist := pw_setG hi (fun q hq hap b hb e => by
      rcases hv with e' | e'
      · exact hap b hb (e' ▸ e)
      · rw [show v'.ownBlock = some b from e] at e'
        have := (h.glt hq hb).2
        have := Option.some.inj e'; omega) (fun q hq hap b hb e => by
      rcases hv with e' | e'
      · exact hap b (e' ▸ hb) e
      · rw [show v'.ownBlock = some b from hb] at e'
        have := (h.glt hq e).2
        have := Option.some.inj e'; omega) h.gdist
def setMany (W : World) (B : Nat) : Nat → List Value → World
  | _, [] => W
  | j, v :: r => setMany (W.setCell ⟨B, j, none⟩ v) B (j + 1) r
def splice (cs : List Value) : Nat → List Value → List Value
  | _, [] => cs
  | j, v :: r => splice (cs.set j v) (j + 1) r
theorem St.setMany {T : TypeId} {B : Nat} (i : Nat) : ∀ (vs : List Value) (j : Nat) {O : Own} {W : World} {cs : List Value}, St w0 O G K W → O[i]? = some (B, cs, T) → St w0 (O.set i (B, splice cs j vs, T)) G K (Go.Proofs.YtjcminoaiieckaaGreatDoor.setMany W B j vs)
  | [], j, O, W, cs, h, hi => by
    have : O.set i (B, cs, T) = O := by
      apply List.ext_getElem?
      intro k
      rw [List.getElem?_set]
      by_cases hk : i = k
      · subst hk; rw [if_pos rfl]; rw [hi]; simp [(List.getElem?_eq_some_iff.1 hi).1]
      · rw [if_neg hk]
    unfold splice Go.Proofs.YtjcminoaiieckaaGreatDoor.setMany
    rw [this]; exact h
  | v :: r, j, O, W, cs, h, hi => by
    have h1 := h.set i hi j v
    have hi2 : (O.set i (B, cs.set j v, T))[i]? = some (B, cs.set j v, T) := by
      rw [List.getElem?_set]; rw [if_pos rfl]; simp [(List.getElem?_eq_some_iff.1 hi).1]
    have h2 := St.setMany i r (j + 1) h1 hi2
    rw [List.set_set] at h2
    exact h2
end
def CellsAt (W : World) (b o : Nat) : List Value → Prop
  | [] => True
  | v :: r => W.cell? ⟨b, o, none⟩ = some v ∧ CellsAt W b (o + 1) r
theorem CellsAt.get {W : World} {b : Nat} : ∀ {vs : List Value} {o : Nat}, CellsAt W b o vs → ∀ j v, vs[j]? = some v → W.cell? ⟨b, o + j, none⟩ = some v
  | [], _, _, j, v, h => by simp at h
  | u :: r, o, hc, 0, v, h => by simp at h; subst h; exact hc.1
  | u :: r, o, hc, j + 1, v, h => by rw [show o + (j + 1) = o + 1 + j by omega]; exact CellsAt.get hc.2 j v (by simpa using h)
theorem CellsAt.of {W : World} {b : Nat} : ∀ {vs : List Value} {o : Nat}, (∀ j v, vs[j]? = some v → W.cell? ⟨b, o + j, none⟩ = some v) → CellsAt W b o vs
  | [], _, _ => trivial
  | u :: r, o, h => ⟨h 0 u rfl, CellsAt.of fun j v hv => by rw [show o + 1 + j = o + (j + 1) by omega]; exact h (j + 1) v (by simpa using hv)⟩
theorem CellsAt.agree {A W : World} {lo b : Nat} (hw : Agree lo A W) (hb : lo ≤ b) : ∀ {vs : List Value} {o : Nat}, CellsAt A b o vs → CellsAt W b o vs
  | [], _, _ => trivial
  | _ :: _, _, h => ⟨hw.cell hb h.1, CellsAt.agree hw hb h.2⟩
theorem CellsAt.own {W : World} {B : Nat} {cs : List Value} {T : TypeId} (h : W.heap[B]? = some (.cells cs.toArray T (0, 0))) {j m : Nat} {vs : List Value} (hv : (cs.drop j).take m = vs) : CellsAt W B j vs := by
  subst hv
  refine CellsAt.of fun i v hi => cell_own h ?_
  rw [List.getElem?_take] at hi
  split at hi
  · rwa [List.getElem?_drop] at hi
  · cases hi

section
variable {P : Program} {n : Nat} {Q : Exit → Act → World → Prop} {l : Fr} {w0 W : World} {ops : Array Oper} {os : List Oper} {O : Own} {G : Grows} {K : List (Nat × World)}
variable {d : Nat} {ty : TypeId} {pos : String} {aft : Array Edge} {v : Value}
theorem rn_load {x : Operand} {T : TypeId} {p : Addr} (hT : ∀ w, (isAgg T).run P w = .ok false w) (hx : evL l x = some (.pointer (some p))) (hc : W.cell? p = some v) : Runs P l ⟨some d, .load T x, ty, pos, aft, none⟩ W (v) W := fun ev he => by unfold execOp; simp only []; rw [he x _ hx]; simp [Instr.loadAt, Instr.sureAddr, loadVar, hT, run_load, hc]
theorem op_load {x : Operand} {T : TypeId} {p : Addr} (hT : ∀ w, (isAgg T).run P w = .ok false w) (hx : evL l x = some (.pointer (some p))) (hc : W.cell? p = some v) (hd : Nat.blt d n = true) (h : OpsF P n ops Q os ((d, v) :: l) W) : OpsF P n ops Q (⟨some d, .load T x, ty, pos, aft, none⟩ :: os) l W := opV (rn_load hT hx hc) hd h
theorem rn_loadA {x : Operand} {T : TypeId} {b o : Nat} {vs : List Value} (hT : ∀ w, (isAgg T).run P w = .ok true w) (hS : ∀ w, (sizeOf T).run P w = .ok vs.length w) (hx : evL l x = some (.pointer (some ⟨b, o, none⟩))) (hc : CellsAt W b o vs) : Runs P l ⟨some d, .load T x, ty, pos, aft, none⟩ W (.agg vs.toArray) W := fun ev he => by
    unfold execOp; simp only []; rw [he x _ hx]
    have := run_loadCells_list (P := P) W ⟨b, o, none⟩ vs (fun j u hj => by rw [Addr.add_lit]; exact hc.get j u hj)
    simp [Instr.loadAt, Instr.sureAddr, loadVar, hT, hS, this]
theorem op_loadA {x : Operand} {T : TypeId} {b o : Nat} {vs : List Value} (hT : ∀ w, (isAgg T).run P w = .ok true w) (hS : ∀ w, (sizeOf T).run P w = .ok vs.length w) (hx : evL l x = some (.pointer (some ⟨b, o, none⟩))) (hc : CellsAt W b o vs) (hd : Nat.blt d n = true) (h : OpsF P n ops Q os ((d, .agg vs.toArray) :: l) W) : OpsF P n ops Q (⟨some d, .load T x, ty, pos, aft, none⟩ :: os) l W := opV (rn_loadA hT hS hx hc) hd h
theorem op_box {x : Operand} {T : TypeId} {cs : List Value} (hS : St w0 O G K W) (hx : evL l x = some v) (hcs : v.cells = cs.toArray) (hd : Nat.blt d n = true)
    (h : ∀ B W', St w0 ((B, cs, T) :: O) G K W' → OpsF P n ops Q os ((d, .pointer (some ⟨B, 0, none⟩)) :: l) W') : OpsF P n ops Q (⟨some d, .box T x, ty, pos, aft, none⟩ :: os) l W :=
  opV (W' := W.alloc (.cells cs.toArray T)) (v := .pointer (some ⟨W.heap.size, 0, none⟩)) (fun ev he => by unfold execOp; simp only []; rw [he x _ hx]; simp [Instr.box, newVar, newRow, hcs]) hd (h _ _ (hS.alloc cs T))
theorem op_alloc {T : TypeId} {z : Value} {cs : List Value} (hS : St w0 O G K W) (hz : ∀ w, (zeroValue T).run P w = .ok z w) (hcs : z.cells = cs.toArray) (hd : Nat.blt d n = true)
    (h : ∀ B W', St w0 ((B, cs, T) :: O) G K W' → OpsF P n ops Q os ((d, .pointer (some ⟨B, 0, none⟩)) :: l) W') : OpsF P n ops Q (⟨some d, .alloc T, ty, pos, aft, none⟩ :: os) l W :=
  opV (W' := W.alloc (.cells cs.toArray T)) (v := .pointer (some ⟨W.heap.size, 0, none⟩)) (fun ev he => by unfold execOp; simp only []; simp [Instr.alloc, newVar, newRow, hz, hcs]) hd (h _ _ (hS.alloc cs T))
theorem run_storeCell {P : Program} {W : World} {p : Addr} {c v : Value} (hc : W.cell? p = some c) (hf : W.frozen? p = false) (hv : v.oneCell' = true) : (store p v).run P W = .ok () (W.setCell p v) := by
  rw [run_store P W p v .plain hv, hc]; simp [hf]
theorem run_storeMany {P : Program} {B : Nat} {U : TypeId} : ∀ (vs : List Value) (j k : Nat) (W : World) (cs : List Value), W.heap[B]? = some (.cells cs.toArray U (0, 0)) → k + j + vs.length ≤ cs.length → (∀ u ∈ vs, u.oneCell' = true) →
    (storeCells ⟨B, k, none⟩ vs j).run P W = .ok () (setMany W B (k + j) vs)
  | [], j, k, W, cs, _, _, _ => by simp [storeCells, setMany]
  | v :: r, j, k, W, cs, h, hl, h1 => by
    have hj' : k + j < cs.length := by simp at hl; omega
    have hc : W.cell? ⟨B, k + j, none⟩ = some cs[k + j] := cell_own h (by simp [hj'])
    have hfz := frozen_own (j := k + j) h
    have ih := run_storeMany (P := P) r (j + 1) k (W.setCell ⟨B, k + j, none⟩ v) (cs.set (k + j) v) (heap_set v h) (by simp at hl ⊢; omega) (fun u hu => h1 u (List.mem_cons_of_mem _ hu))
    have hv := h1 v List.mem_cons_self
    unfold setMany
    rw [show k + j + 1 = k + (j + 1) by omega]
    rw [← ih]
    have hst := run_storeCell (P := P) hc hfz hv
    simp only [storeCells, Addr.add_lit, Sem.run_bind, hst, Result.andThen_ok]
theorem op_store {T U : TypeId} {x y : Operand} {B j i : Nat} {cs cs' : List Value} {O' : Own} (hS : St w0 O G K W) (hsz : ∀ w, (sizeOf T).run P w = .ok 1 w) (hx : evL l x = some (.pointer (some ⟨B, j, none⟩))) (hy : evL l y = some v) (hv : v.oneCell' = true) (hi : O[i]? = some (B, cs, U)) (hj : Nat.blt j cs.length = true)
    (hcs : cs.set j v = cs') (hO : O.set i (B, cs', U) = O') (h : ∀ W', St w0 O' G K W' → OpsF P n ops Q os l W') : OpsF P n ops Q (⟨none, .store T x y, ty, pos, aft, none⟩ :: os) l W := fun a ha => by
  refine wpList_plain rfl fun K' hK => ?_
  unfold Oper.wp execOp
  simp only []
  rw [ha.ev x _ hx, ha.ev y _ hy]
  subst hcs; subst hO
  have hj' : j < cs.length := Nat.le_of_ble_eq_true hj
  have hc : W.cell? ⟨B, j, none⟩ = some cs[j] := cell_own (hS.at_ i hi) (by simp [hj'])
  have hfz := frozen_own (j := j) (hS.at_ i hi)
  have h2 := h _ (hS.set i hi j v)
  have hcells : v.cells = #[v] := by cases v <;> first | rfl | cases hv
  have hst := run_storeMany (P := P) [v] 0 j W cs (hS.at_ i hi) (by simp; omega) (fun u hu => by simp at hu; subst hu; exact hv)
  simp only [Nat.add_zero, Go.Proofs.YtjcminoaiieckaaGreatDoor.setMany] at hst
  have : (Instr.storeAt T (.pointer (some ⟨B, j, none⟩)) v).run P W = .ok () (W.setCell ⟨B, j, none⟩ v) := by
    simp [Instr.storeAt, Instr.sureAddr, storeVar, hsz, hcells, hst]
  simp only [Sem.run_bind, this, Result.andThen_ok, Sem.run_pure, Oper.upon_skip]
  exact hK _ _ (h2 _ ha)
theorem op_storeA {T U : TypeId} {x y : Operand} {B j i : Nat} {cs cs' vs : List Value} {O' : Own} (hS : St w0 O G K W) (hsz : ∀ w, (sizeOf T).run P w = .ok vs.length w) (hx : evL l x = some (.pointer (some ⟨B, j, none⟩))) (hy : evL l y = some (.agg vs.toArray)) (hv : vs.all Value.oneCell' = true) (hi : O[i]? = some (B, cs, U)) (hj : Nat.ble (j + vs.length) cs.length = true)
    (hcs : splice cs j vs = cs') (hO : O.set i (B, cs', U) = O') (h : ∀ W', St w0 O' G K W' → OpsF P n ops Q os l W') : OpsF P n ops Q (⟨none, .store T x y, ty, pos, aft, none⟩ :: os) l W := fun a ha => by
  refine wpList_plain rfl fun K' hK => ?_
  unfold Oper.wp execOp
  simp only []
  rw [ha.ev x _ hx, ha.ev y _ hy]
  subst hcs; subst hO
  have hj' : j + vs.length ≤ cs.length := Nat.le_of_ble_eq_true hj
  have h2 := h _ (hS.setMany i vs j hi)
  have hst := run_storeMany (P := P) vs 0 j W cs (hS.at_ i hi) (by omega) (fun u hu => List.all_eq_true.1 hv u hu)
  rw [Nat.add_zero] at hst
  have : (Instr.storeAt T (.pointer (some ⟨B, j, none⟩)) (.agg vs.toArray)).run P W = .ok () (Go.Proofs.YtjcminoaiieckaaGreatDoor.setMany W B j vs) := by
    simp [Instr.storeAt, Instr.sureAddr, storeVar, hsz, Value.cells, hst]
  simp only [Sem.run_bind, this, Result.andThen_ok, Sem.run_pure, Oper.upon_skip]
  exact hK _ _ (h2 _ ha)
theorem rn_field {T : TypeId} {x : Operand} {b o f k : Nat} (hF : ∀ w b o, (Instr.fieldAt T (.pointer (some ⟨b, o, none⟩)) f).run P w = .ok (.pointer (some ⟨b, o + k, none⟩)) w) (hx : evL l x = some (.pointer (some ⟨b, o, none⟩))) {o' : Nat} (ho : o + k = o') : Runs P l ⟨some d, .fieldAddr T x f, ty, pos, aft, none⟩ W (.pointer (some ⟨b, o', none⟩)) W := fun ev he => by subst ho; unfold execOp; simp only []; rw [he x _ hx]; simp [hF]
theorem op_field {T : TypeId} {x : Operand} {b o f k : Nat} (hF : ∀ w b o, (Instr.fieldAt T (.pointer (some ⟨b, o, none⟩)) f).run P w = .ok (.pointer (some ⟨b, o + k, none⟩)) w) (hx : evL l x = some (.pointer (some ⟨b, o, none⟩))) {o' : Nat} (ho : o + k = o') (hd : Nat.blt d n = true) (h : OpsF P n ops Q os ((d, .pointer (some ⟨b, o', none⟩)) :: l) W) : OpsF P n ops Q (⟨some d, .fieldAddr T x f, ty, pos, aft, none⟩ :: os) l W := opV (rn_field hF hx ho) hd h
theorem rn_indexA {T e : TypeId} {x y : Operand} {b o m c j k : Nat} {ki : IntKind} {i : Int} (hU : P.underlying T = some (.slice e)) (hS : ∀ w, (sizeOf e).run P w = .ok k w) (hx : evL l x = some (.slice (some ⟨b, o, none⟩) m c)) (hy : evL l y = some (.int ki i)) (hi : i = (j : Int)) (hj : j < m) {o' : Nat} (ho : o + j * k = o') : Runs P l ⟨some d, .indexAddr T x y, ty, pos, aft, none⟩ W (.pointer (some ⟨b, o', none⟩)) W := fun ev he => by
    subst ho; subst hi
    unfold execOp; simp only []; rw [he x _ hx, he y _ hy]
    have h0 : (0 : Int) ≤ (j : Int) := by omega
    have h1 : (j : Int) < (m : Int) := by omega
    simp [Instr.indexAt, asIntOf, run_underlying hU, h0, h1, hS, hj, Addr.add_lit]
theorem op_indexA {T e : TypeId} {x y : Operand} {b o m c j k : Nat} {ki : IntKind} {i : Int} (hU : P.underlying T = some (.slice e)) (hS : ∀ w, (sizeOf e).run P w = .ok k w) (hx : evL l x = some (.slice (some ⟨b, o, none⟩) m c)) (hy : evL l y = some (.int ki i)) (hi : i = (j : Int)) (hj : j < m) {o' : Nat} (ho : o + j * k = o') (hd : Nat.blt d n = true) (h : OpsF P n ops Q os ((d, .pointer (some ⟨b, o', none⟩)) :: l) W) : OpsF P n ops Q (⟨some d, .indexAddr T x y, ty, pos, aft, none⟩ :: os) l W := opV (rn_indexA hU hS hx hy hi hj ho) hd h
theorem op_call {f : FuncId} {args : Array Operand} {ts : Array TypeId} {vs : List Value} {R : Ending → World → Prop} (hS : St w0 O G K W) (hgo : goesIn P f = true) (ha : args.toList.map (evL l) = vs.map some) (hc : Calls P f vs.toArray W R)
    (hd : Nat.blt d n = true)
    (h : ∀ e W', R e W' → ∃ v, e = .returned v ∧ Below W.heap.size W W' ∧ (St w0 O G ((W.heap.size, W') :: K) W' → OpsF P n ops Q os ((d, v) :: l) W')) : OpsF P n ops Q (⟨some d, .call { callee := .value (.func f), args := args, argTypes := ts }, ty, pos, aft, none⟩ :: os) l W := fun a hl => by
  refine wpList_plain rfl fun K' hK => ?_
  unfold Oper.wp
  rw [run_call P a.eval W f args ts _ rfl rfl hgo, Oper.upon_enter]
  have hargs : args.map a.eval = vs.toArray := by
    have key : ∀ (xs : List Operand) (us : List Value), xs.map (evL l) = us.map some → xs.map a.eval = us := by
      intro xs
      induction xs with
      | nil => intro us h; cases us <;> simp at h ⊢
      | cons x xs ih =>
        intro us h
        cases us with
        | nil => simp at h
        | cons u us =>
          simp only [List.map_cons, List.cons.injEq] at h
          simp only [List.map_cons, hl.ev x u h.1, ih us h.2]
    apply Array.ext'
    rw [Array.toList_map, key _ _ ha]
  rw [hargs]
  refine hc.mono ?_
  intro e W' hRe
  obtain ⟨v, rfl, hb, hn⟩ := h e W' hRe
  exact hK _ _ (hn (hS.call hb) _ (hl.put hd))
theorem op_append {t e : TypeId} {x y : Operand} {i : Nat} {g : GR} {b o m c : Nat} {news : List Value} {inf : TypeInfo} {z : Value} (hS : St w0 O G K W) (hU : P.underlying t = some (.slice e)) (hinf : P.info? e = some inf) (hz : inf.zero = some z) (hzs : z.cells.size = inf.size) (hsz : 0 < inf.size)
    (hi : G[i]? = some g) (he : g.e = e) (hgs : g.size = inf.size) (hx : evL l x = some g.v) (hy : evL l y = some (.slice (some ⟨b, o, none⟩) m c)) (hc : CellsAt W b o news) (hl : news.length = m * inf.size) (h1 : news.all Value.oneCell' = true)
    (h63 : g.n + m ≤ maxLen) (hbytes : (g.n + m) * inf.bytes ≤ 140737488355328) (hd : Nat.blt d n = true)
    (h : ∀ v' W', St w0 O (G.set i ⟨v', g.n + m, g.xs ++ news, e, g.size⟩) K W' → OpsF P n ops Q os ((d, v') :: l) W') :
    OpsF P n ops Q (⟨some d, .call { callee := .builtin .append, args := #[x, y], argTypes := #[t, t] }, ty, pos, aft, none⟩ :: os) l W := by
  subst he
  have hrow := hS.row i hi
  rw [hgs] at hrow
  obtain ⟨v', W', hr, h2, h3, h4⟩ := append_own2 (P := P) (w := W) w0.heap.size t ty g.e inf z hU hinf hz hzs hsz g.v g.n g.xs hrow ⟨b, o, none⟩ m c news hl (fun j u hj => by rw [Addr.add_lit]; exact hc.get j u hj) (fun u hu => List.all_eq_true.1 h1 u hu) h63 hbytes hS.below.size
  rw [← hgs] at h2
  refine opV (W' := W') (v := v') (fun ev hev => ?_) hd (h v' W' (hS.setG i hi h2 h3 h4))
  unfold execOp
  simp only [resolve, invoke, builtin, Sem.run_bind, Sem.run_pure, Result.andThen_ok, List.map_toArray, List.map_cons, List.map_nil, hev x _ hx, hev y _ hy, hr]
end
end Go.Proofs.YtjcminoaiieckaaGreatDoor
namespace Go.Proofs.YtjcminoaiieckaaGreatDoor
open Go Go.RowKit
set_option linter.unusedVariables false
section
variable {P : Program} {n : Nat} {Q : Exit → Act → World → Prop} {l : Fr} {w0 W : World} {ops : Array Oper} {os : List Oper} {O : Own} {G : Grows} {K : List (Nat × World)}
variable {d : Nat} {ty : TypeId} {pos : String} {aft : Array Edge} {v : Value} {t u : TypeId} {x y : Operand} {k : IntKind} {a b : Int}
theorem binop_run {op : BinOp} {ev : Operand → Value} {r : Value} {p q : Value} (hx : ev x = p) (hy : ev y = q) (hg : (eqGuard op t x y p q).run P W = .ok () W) (h : (binOp op t p q).run P W = .ok r W) :
    (execOp ev ⟨some d, .binOp op t x y u, ty, pos, aft, none⟩).run P W = .ok (.value r) W := by
  unfold execOp; simp only [hx, hy, Sem.run_bind, hg, Result.andThen_ok, h, Sem.run_pure]
theorem guard_int {op : BinOp} : (eqGuard op t x y (.int k a) (.int k b)).run P W = .ok () W := by
  cases op <;> rfl
theorem rn_lss (hx : evL l x = some (.int k a)) (hy : evL l y = some (.int k b)) : Runs P l ⟨some d, .binOp .lss t x y u, ty, pos, aft, none⟩ W (.bool (decide (a < b))) W := fun ev he => binop_run (he x _ hx) (he y _ hy) guard_int (by simp [binOp, Op.intCmp])
theorem op_lss (hx : evL l x = some (.int k a)) (hy : evL l y = some (.int k b)) (hd : Nat.blt d n = true) (h : OpsF P n ops Q os ((d, .bool (decide (a < b))) :: l) W) : OpsF P n ops Q (⟨some d, .binOp .lss t x y u, ty, pos, aft, none⟩ :: os) l W := opV (rn_lss hx hy) hd h
theorem rn_gtr (hx : evL l x = some (.int k a)) (hy : evL l y = some (.int k b)) : Runs P l ⟨some d, .binOp .gtr t x y u, ty, pos, aft, none⟩ W (.bool (decide (b < a))) W := fun ev he => binop_run (he x _ hx) (he y _ hy) guard_int (by simp [binOp, Op.intCmp])
theorem op_gtr (hx : evL l x = some (.int k a)) (hy : evL l y = some (.int k b)) (hd : Nat.blt d n = true) (h : OpsF P n ops Q os ((d, .bool (decide (b < a))) :: l) W) : OpsF P n ops Q (⟨some d, .binOp .gtr t x y u, ty, pos, aft, none⟩ :: os) l W := opV (rn_gtr hx hy) hd h
theorem rn_eql (hx : evL l x = some (.int k a)) (hy : evL l y = some (.int k b)) : Runs P l ⟨some d, .binOp .eql t x y u, ty, pos, aft, none⟩ W (.bool (decide (a = b))) W := fun ev he => binop_run (he x _ hx) (he y _ hy) guard_int (by simp [binOp, Op.intCmp]; rfl)
theorem op_eql (hx : evL l x = some (.int k a)) (hy : evL l y = some (.int k b)) (hd : Nat.blt d n = true) (h : OpsF P n ops Q os ((d, .bool (decide (a = b))) :: l) W) : OpsF P n ops Q (⟨some d, .binOp .eql t x y u, ty, pos, aft, none⟩ :: os) l W := opV (rn_eql hx hy) hd h
theorem rn_neq (hx : evL l x = some (.int k a)) (hy : evL l y = some (.int k b)) : Runs P l ⟨some d, .binOp .neq t x y u, ty, pos, aft, none⟩ W (.bool (decide (a ≠ b))) W := fun ev he => binop_run (he x _ hx) (he y _ hy) guard_int (by simp [binOp, Op.intCmp]; by_cases h : a = b <;> simp [h])
theorem op_neq (hx : evL l x = some (.int k a)) (hy : evL l y = some (.int k b)) (hd : Nat.blt d n = true) (h : OpsF P n ops Q os ((d, .bool (decide (a ≠ b))) :: l) W) : OpsF P n ops Q (⟨some d, .binOp .neq t x y u, ty, pos, aft, none⟩ :: os) l W := opV (rn_neq hx hy) hd h
theorem rn_neqB {p q : Bool} (hB : P.underlying t = some .bool) (hx : evL l x = some (.bool p)) (hy : evL l y = some (.bool q)) : Runs P l ⟨some d, .binOp .neq t x y u, ty, pos, aft, none⟩ W (.bool (!(p == q))) W := fun ev he => binop_run (he x _ hx) (he y _ hy) rfl (run_neq_bool W t p q hB)
theorem op_neqB {p q : Bool} (hB : P.underlying t = some .bool) (hx : evL l x = some (.bool p)) (hy : evL l y = some (.bool q)) (hd : Nat.blt d n = true) (h : OpsF P n ops Q os ((d, .bool (!(p == q))) :: l) W) : OpsF P n ops Q (⟨some d, .binOp .neq t x y u, ty, pos, aft, none⟩ :: os) l W := opV (rn_neqB hB hx hy) hd h
theorem rn_add {c : Int} (hx : evL l x = some (.int k a)) (hy : evL l y = some (.int k b)) (hw : k.wrap (a + b) = c) : Runs P l ⟨some d, .binOp .add t x y u, ty, pos, aft, none⟩ W (.int k c) W := fun ev he => by subst hw; exact binop_run (he x _ hx) (he y _ hy) guard_int (by simp [binOp, Op.intArith])
theorem op_add {c : Int} (hx : evL l x = some (.int k a)) (hy : evL l y = some (.int k b)) (hw : k.wrap (a + b) = c) (hd : Nat.blt d n = true) (h : OpsF P n ops Q os ((d, .int k c) :: l) W) : OpsF P n ops Q (⟨some d, .binOp .add t x y u, ty, pos, aft, none⟩ :: os) l W := opV (rn_add hx hy hw) hd h
theorem rn_binG {op : BinOp} {p q r : Value} (hx : evL l x = some p) (hy : evL l y = some q) (hg : (eqGuard op t x y p q).run P W = .ok () W) (hr : (binOp op t p q).run P W = .ok r W) : Runs P l ⟨some d, .binOp op t x y u, ty, pos, aft, none⟩ W r W := fun ev he => binop_run (he x _ hx) (he y _ hy) hg hr
theorem op_binG {op : BinOp} {p q r : Value} (hx : evL l x = some p) (hy : evL l y = some q) (hg : (eqGuard op t x y p q).run P W = .ok () W) (hr : (binOp op t p q).run P W = .ok r W) (hd : Nat.blt d n = true) (h : OpsF P n ops Q os ((d, r) :: l) W) : OpsF P n ops Q (⟨some d, .binOp op t x y u, ty, pos, aft, none⟩ :: os) l W := opV (rn_binG hx hy hg hr) hd h
theorem parts_eval {ev : Operand → Value} (he : ∀ x u, evL l x = some u → ev x = u) : ∀ (xs : List (Nat × Operand)) (us : List (Nat × Value)), xs.map (fun p => (p.1, evL l p.2)) = us.map (fun p => (p.1, some p.2)) → xs.map (fun p => (p.1, ev p.2)) = us
  | [], us, h => by cases us <;> simp at h ⊢
  | x :: xs, us, h => by
    cases us with
    | nil => simp at h
    | cons u us =>
      simp only [List.map_cons, List.cons.injEq, Prod.mk.injEq] at h
      obtain ⟨⟨h1, h2⟩, h3⟩ := h
      simp only [List.map_cons, he _ _ h2, h1, parts_eval he xs us h3]
theorem rn_build {T : TypeId} {xs : List (Nat × Operand)} {us : List (Nat × Value)} {cs : Array Value} (hp : xs.map (fun p => (p.1, evL l p.2)) = us.map (fun p => (p.1, some p.2))) (hb : P.built T us = some cs) : Runs P l ⟨some d, .build T xs.toArray, ty, pos, aft, none⟩ W (.agg cs) W := fun ev he => by
    have h1 := parts_eval he xs us hp
    have h2 : (Array.map (fun p => (p.1, ev p.2)) xs.toArray) = us.toArray := by simp [h1]
    have h3 := run_build W T us.toArray cs (P := P) (by simpa using hb)
    unfold execOp
    simp only []
    rw [h2]
    simp [h3]
theorem op_build {T : TypeId} {xs : List (Nat × Operand)} {us : List (Nat × Value)} {cs : Array Value} (hp : xs.map (fun p => (p.1, evL l p.2)) = us.map (fun p => (p.1, some p.2))) (hb : P.built T us = some cs) (hd : Nat.blt d n = true) (h : OpsF P n ops Q os ((d, .agg cs) :: l) W) : OpsF P n ops Q (⟨some d, .build T xs.toArray, ty, pos, aft, none⟩ :: os) l W := opV (rn_build hp hb) hd h
theorem op_buildSlice {T e : TypeId} {m s : Nat} {xs : List (Nat × Operand)} {us : List (Nat × Value)} {z : Value} {cs : List Value} (hS : St w0 O G K W) (hU : P.underlying T = some (.slice e)) (hs : ∀ w, (sizeOf e).run P w = .ok s w) (hz : ∀ w, (zeroValue e).run P w = .ok z w)
    (hm : Nat.ble (m * s) 16777216 = true) (hm0 : Nat.beq (m * s) 0 = false) (hp : xs.map (fun p => (p.1, evL l p.2)) = us.map (fun p => (p.1, some p.2)))
    (hf : Instr.fill (fun i => some (i * s, s)) ((Array.range (m * s)).map (z.cells[· % z.cells.size]!)) us = some cs.toArray) (hd : Nat.blt d n = true)
    (h : ∀ B W', St w0 ((B, cs, e) :: O) G K W' → OpsF P n ops Q os ((d, .slice (some ⟨B, 0, none⟩) m m) :: l) W') : OpsF P n ops Q (⟨some d, .buildSlice T m xs.toArray, ty, pos, aft, none⟩ :: os) l W :=
  opV (W' := W.alloc (.cells cs.toArray e)) (v := .slice (some ⟨W.heap.size, 0, none⟩) m m) (fun ev he => by
    have h1 := parts_eval he xs us hp
    have h2 : (Array.map (fun p => (p.1, ev p.2)) xs.toArray) = us.toArray := by simp [h1]
    have h4 : m * s ≤ 16777216 := Nat.le_of_ble_eq_true hm
    have h5 : m * s ≠ 0 := fun e => by rw [e] at hm0; cases hm0
    have h6 : ¬ (m * s > 2 ^ 24) := by omega
    unfold execOp
    simp only []
    rw [h2]
    simp only [Instr.buildSlice, Sem.run_bind, run_underlying hU, Result.andThen_ok, hs, if_neg h6, if_neg h5, hz, Sem.run_pure, hf, newRow, run_newObj_alloc]) hd (h _ _ (hS.alloc cs e))
theorem rn_sliceFrom {T e : TypeId} {ad : Option Addr} {m c j s : Nat} {i : Int} (hU : P.underlying T = some (.slice e)) (hs : ∀ w, (sizeOf e).run P w = .ok s w) (hx : evL l x = some (.slice ad m c)) (hy : evL l y = some (.int k i)) (hi : i = (j : Int)) (hj : j ≤ m) :
    Runs P l ⟨some d, .slice T x (some y) none none, ty, pos, aft, none⟩ W (.slice (if c = j then ad else ad.map (·.add (j * s))) (m - j) (c - j)) W := fun ev he => by
  subst hi
  unfold execOp; simp only [Option.map_some, Option.map_none]; rw [he x _ hx, he y _ hy]
  have h0 : (0 : Int) ≤ (j : Int) := by omega
  have h1 : (j : Int) ≤ (m : Int) := by omega
  simp [Instr.sliceAt, Instr.slice, Instr.sliceBounds, Instr.sliceBound, run_underlying hU, asIntOf, hj, hs]
theorem op_sliceFrom {T e : TypeId} {ad : Option Addr} {m c j s : Nat} {i : Int} (hU : P.underlying T = some (.slice e)) (hs : ∀ w, (sizeOf e).run P w = .ok s w) (hx : evL l x = some (.slice ad m c)) (hy : evL l y = some (.int k i)) (hi : i = (j : Int)) (hj : j ≤ m) (hd : Nat.blt d n = true)
    (h : ∀ ad', (c = j → ad' = ad) → (c ≠ j → ad' = ad.map (·.add (j * s))) → OpsF P n ops Q os ((d, .slice ad' (m - j) (c - j)) :: l) W) : OpsF P n ops Q (⟨some d, .slice T x (some y) none none, ty, pos, aft, none⟩ :: os) l W :=
  opV (rn_sliceFrom hU hs hx hy hi hj) hd (h _ (fun e => if_pos e) (fun e => if_neg e))
theorem rn_addS {p q : ByteArray} (hx : evL l x = some (.string p)) (hy : evL l y = some (.string q)) (hs : p.size + q.size ≤ 9223372036854775807) : Runs P l ⟨some d, .binOp .add t x y u, ty, pos, aft, none⟩ W (.string (p ++ q)) W := fun ev he => binop_run (he x _ hx) (he y _ hy) rfl (by simp only [binOp]; exact run_string_add_sum W p q hs)
theorem op_addS {p q : ByteArray} (hx : evL l x = some (.string p)) (hy : evL l y = some (.string q)) (hs : p.size + q.size ≤ 9223372036854775807) (hd : Nat.blt d n = true) (h : OpsF P n ops Q os ((d, .string (p ++ q)) :: l) W) : OpsF P n ops Q (⟨some d, .binOp .add t x y u, ty, pos, aft, none⟩ :: os) l W := opV (rn_addS hx hy hs) hd h
theorem run_eqlS_same (w : World) (t : TypeId) (p : ByteArray) : (binOp .eql t (.string p) (.string p)).run P w = .ok (.bool true) w := by
  simp [binOp, Op.stringOp]
theorem op_make {T e : TypeId} {inf : TypeInfo} {z : Value} {m : Nat} {i1 i2 : Int} {k2 : IntKind} {cs : List Value} (hS : St w0 O G K W) (hU : P.underlying T = some (.slice e)) (hinf : P.info? e = some inf) (hz : inf.zero = some z) (hx : evL l x = some (.int k i1)) (hy : evL l y = some (.int k2 i2)) (h1 : i1 = (m : Int)) (h2 : i2 = (m : Int))
    (hcs : madeCells z.cells (m * inf.size) = cs.toArray) (hb : (inf.bytes : Int) * m ≤ 281474976710656) (h63 : (m : Int) ≤ 9223372036854775807) (hd : Nat.blt d n = true)
    (h : ∀ B W', St w0 ((B, cs, e) :: O) G K W' → OpsF P n ops Q os ((d, .slice (some ⟨B, 0, none⟩) m m) :: l) W') : OpsF P n ops Q (⟨some d, .makeSlice T x y, ty, pos, aft, none⟩ :: os) l W :=
  opV (W' := W.alloc (.cells cs.toArray e)) (v := .slice (some ⟨W.heap.size, 0, none⟩) m m) (fun ev he => by
    subst h1; subst h2
    have hr := run_make (P := P) W T e inf z hU hinf hz k k2 m m (by omega) (by omega) hb h63
    rw [Int.toNat_natCast, hcs] at hr
    unfold execOp; simp only []; rw [he x _ hx, he y _ hy]
    simp only [Sem.run_bind, hr, Result.andThen_ok, Sem.run_pure]) hd (h _ _ (hS.alloc cs e))
theorem resC1 {fn : Func} {r : Nat} {T : TypeId} {B o : Nat} {vs : List Value} (hf : fn.results = #[.cell r T]) (hT : ∀ w, (isAgg T).run P w = .ok true w) (hS : ∀ w, (sizeOf T).run P w = .ok vs.length w) (hl : look l r = some (.pointer (some ⟨B, o, none⟩))) (hc : CellsAt W B o vs) :
    ∀ a, Has n l a → (results fn a.tmps).run P W = .ok (.agg vs.toArray) W := fun a ha => by
  have h1 := run_loadCells_list (P := P) W ⟨B, o, none⟩ vs (fun j u hj => by rw [Addr.add_lit]; exact hc.get j u hj)
  have h2 := ha.at_ r _ hl
  rw [Array.getD_eq_getD_getElem?] at h2
  simp [results, hf, h2, asAddr, loadVar, hT, hS, h1]
theorem resCT {fn : Func} {r t : Nat} {T : TypeId} {B o : Nat} {vs : List Value} {x : Value} (hf : fn.results = #[.cell r T, .tmp t]) (hT : ∀ w, (isAgg T).run P w = .ok true w) (hS : ∀ w, (sizeOf T).run P w = .ok vs.length w) (hl : look l r = some (.pointer (some ⟨B, o, none⟩))) (hc : CellsAt W B o vs) (hx : look l t = some x) :
    ∀ a, Has n l a → (results fn a.tmps).run P W = .ok (.tuple #[.agg vs.toArray, x]) W := fun a ha => by
  have h1 := run_loadCells_list (P := P) W ⟨B, o, none⟩ vs (fun j u hj => by rw [Addr.add_lit]; exact hc.get j u hj)
  have h2 := ha.at_ r _ hl
  have h3 := ha.at_ t _ hx
  rw [Array.getD_eq_getD_getElem?] at h2 h3
  simp [results, hf, h2, h3, asAddr, loadVar, hT, hS, h1]
end
end Go.Proofs.YtjcminoaiieckaaGreatDoor
namespace Go.Proofs.YtjcminoaiieckaaGreatDoor
open Go Go.RowKit
set_option linter.unusedVariables false
section
variable {P : Program} {n : Nat} {Q : Exit → Act → World → Prop} {l : Fr} {w0 W : World} {ops : Array Oper} {os : List Oper} {O : Own} {G : Grows} {K : List (Nat × World)} {L : List Asr} {i : Nat}
def RG (P : Program) (n : Nat) (ops : Array Oper) (Q : Exit → Act → World → Prop) (l : Fr) (W : World) (L : List Asr) (i : Nat) : Prop := ∀ a, Has n l a → RS P ops Q a.tmps W L i
def AllG (P : Program) (n : Nat) (ops : Array Oper) (Q : Exit → Act → World → Prop) (l : Fr) (W : World) (L : List Asr) : Nat → Nat → Prop
  | 0, _ => True
  | m + 1, k => RG P n ops Q l W L k ∧ AllG P n ops Q l W L m (k + 1)
theorem allG_from {a : Act} (ha : Has n l a) : ∀ {m k : Nat}, AllG P n ops Q l W L m k → AllFrom (RS P ops Q a.tmps W L) m k
  | 0, _, _ => trivial
  | m + 1, k, h => ⟨h.1 a ha, allG_from ha h.2⟩
def OpG (n : Nat) (ops : Array Oper) (l : Fr) (L : List Asr) (i t : Nat) (p : Asr) : Prop := ∀ a, Has n l a → OpI ops a.tmps L i (.tmp t) p
theorem g_fr {t : Nat} {v : Value} (hf : freeT ops t = true) (hv : look l t = some v) : OpG n ops l L i t (isV v) := fun a ha => opF hf (ha.at_ t v hv)
theorem g_dep (j : Nat) {t : Nat} {p : Asr} (hw : waitsFor ops i j t = true) (hL : atI L j = p) : OpG n ops l L i t p := fun a ha => opD j t hw hL
def AllO (n : Nat) (ops : Array Oper) (l : Fr) (L : List Asr) (i : Nat) : Fr → Prop
  | [] => True
  | p :: r => OpG n ops l L i p.1 (isV p.2) ∧ AllO n ops l L i r
theorem allO_has {t0 : Act} (h0 : Has n l t0) {a : Act} {w : World} (hF : ∀ t, freeT ops t = true → a.eval (.tmp t) = t0.tmps.getD t undef) (hD : ∀ j d, waitsFor ops i j d = true → atI L j (a.eval (.tmp d)) w) :
    ∀ {li : Fr}, AllO n ops l L i li → ∀ x u, evL li x = some u → a.eval x = u := by
  have key : ∀ {li : Fr}, AllO n ops l L i li → ∀ t v, look li t = some v → a.eval (.tmp t) = v := by
    intro li
    induction li with
    | nil => intro _ t v h; cases h
    | cons p r ih =>
      intro h t v hv
      unfold look at hv
      cases hb : Nat.beq p.1 t with
      | true =>
        simp only [hb, cond_true, Option.some.injEq] at hv
        rw [← Nat.eq_of_beq_eq_true hb, ← hv]
        exact h.1 t0 h0 a w hF hD
      | false =>
        simp only [hb, cond_false] at hv
        exact ih h.2 t v hv
  intro li hli x u hx
  cases x with
  | tmp t => exact key hli t u hx
  | const c => exact Option.some.inj hx
  | global g => exact Option.some.inj hx
  | func f => exact Option.some.inj hx
theorem execOp_guard (ev : Operand → Value) (dst : Option Tmp) (op : Op) (ty : TypeId) (pos pos' : String) (aft aft' : Array Edge) (g g' : Option (Nat × Bool)) : execOp ev ⟨dst, op, ty, pos, aft, g⟩ = execOp ev ⟨dst, op, ty, pos', aft', g'⟩ := by unfold execOp; rfl
variable {d : Nat} {op : Op} {ty : TypeId} {pos : String} {aft : Array Edge} {v : Value} {gd : Option (Nat × Bool)}
theorem rgV (li : Fr) (hi : ops[i]? = some ⟨some d, op, ty, pos, aft, gd⟩) (hw : Wants ops L i ⟨some d, op, ty, pos, aft, gd⟩) (hli : AllO n ops l L i li) (hr : ∀ w, Below W.heap.size W w → Runs P li ⟨some d, op, ty, pos, #[], none⟩ w v w) (hI : atI L i = isV v) : RG P n ops Q l W L i :=
  fun a ha => st_value hi hw fun b w hF hG hD => ⟨v, w, by rw [execOp_guard b.eval _ _ _ _ pos _ #[] _ none]; exact hr w hG b.eval (allO_has ha hF hD hli), by rw [hI]; rfl, Below.refl _ _⟩
theorem rgVe (li : Fr) {v' : Value} (hi : ops[i]? = some ⟨some d, op, ty, pos, aft, gd⟩) (hw : Wants ops L i ⟨some d, op, ty, pos, aft, gd⟩) (hli : AllO n ops l L i li) (hr : ∀ w, Below W.heap.size W w → Runs P li ⟨some d, op, ty, pos, #[], none⟩ w v w) (he : v = v') (hI : atI L i = isV v') : RG P n ops Q l W L i := by
  subst he; exact rgV li hi hw hli hr hI
theorem rgP (li : Fr) {p : Asr} (hi : ops[i]? = some ⟨some d, op, ty, pos, aft, gd⟩) (hw : Wants ops L i ⟨some d, op, ty, pos, aft, gd⟩) (hli : AllO n ops l L i li) (hr : ∀ w, Below W.heap.size W w → Runs P li ⟨some d, op, ty, pos, #[], none⟩ w v w) (hp : ∀ w, Below W.heap.size W w → p v w) (hI : atI L i = p) : RG P n ops Q l W L i :=
  fun a ha => st_value hi hw fun b w hF hG hD => ⟨v, w, by rw [execOp_guard b.eval _ _ _ _ pos _ #[] _ none]; exact hr w hG b.eval (allO_has ha hF hD hli), by rw [hI]; exact hp w hG, Below.refl _ _⟩
theorem w_free {o : Oper} (h : o.guard = none) : Wants ops L i o := .inl h
theorem w_yes {o : Oper} {g : Nat} {b : Bool} (d : Nat) (h : o.guard = some (g, b)) (hd : (ops[g]?).bind (·.dst) = some d) (hw : waitsFor ops i g d = true) (hL : atI L g = isV (.bool b)) : Wants ops L i o := .inr ⟨g, b, d, h, hd, hw, hL⟩
def AllP (n : Nat) (ops : Array Oper) (l : Fr) (L : List Asr) (i : Nat) : List Operand → List Asr → Prop
  | [], [] => True
  | x :: xs, p :: ps => (∀ a, Has n l a → OpI ops a.tmps L i x p) ∧ AllP n ops l L i xs ps
  | _, _ => False
def Holds : List Asr → List Value → World → Prop
  | [], [], _ => True
  | p :: ps, v :: vs, w => p v w ∧ Holds ps vs w
  | _, _, _ => False
theorem p_tmp {t : Nat} {p : Asr} (h : OpG n ops l L i t p) : ∀ a, Has n l a → OpI ops a.tmps L i (.tmp t) p := h
theorem allP_holds {t0 : Act} (h0 : Has n l t0) {a : Act} {w : World} (hF : ∀ t, freeT ops t = true → a.eval (.tmp t) = t0.tmps.getD t undef) (hD : ∀ j d, waitsFor ops i j d = true → atI L j (a.eval (.tmp d)) w) :
    ∀ {xs : List Operand} {ps : List Asr}, AllP n ops l L i xs ps → Holds ps (xs.map a.eval) w
  | [], [], _ => trivial
  | x :: xs, p :: ps, h => ⟨h.1 t0 h0 a w hF hD, allP_holds h0 hF hD h.2⟩
  | [], _ :: _, h => h.elim
  | _ :: _, [], h => h.elim
theorem rg_call {f : FuncId} {xs : List Operand} {ts : Array TypeId} (ps : List Asr) (hi : ops[i]? = some ⟨some d, .call { callee := .value (.func f), args := xs.toArray, argTypes := ts }, ty, pos, aft, gd⟩) (hgo : goesIn P f = true)
    (hw : Wants ops L i ⟨some d, .call { callee := .value (.func f), args := xs.toArray, argTypes := ts }, ty, pos, aft, gd⟩) (hp : AllP n ops l L i xs ps)
    {p : Asr} (hc : ∀ vs w, Below W.heap.size W w → Holds ps vs w → Calls P f vs.toArray w (Gives p w)) (hI : atI L i = p) : RG P n ops Q l W L i :=
  fun a ha => st_call hi rfl hgo hw fun b w hF hG hD => by
    have := hc (xs.map b.eval) w hG (allP_holds ha hF hD hp)
    subst hI
    rwa [show (xs.map b.eval).toArray = xs.toArray.map b.eval by simp] at this
theorem rg_row {T e : TypeId} {m s : Nat} {xs : List (Nat × Operand)} {z : Value} (ps : List Asr) (hi : ops[i]? = some ⟨some d, .buildSlice T m xs.toArray, ty, pos, aft, gd⟩) (hw : Wants ops L i ⟨some d, .buildSlice T m xs.toArray, ty, pos, aft, gd⟩)
    (hU : P.underlying T = some (.slice e)) (hs : ∀ w, (sizeOf e).run P w = .ok s w) (hz : ∀ w, (zeroValue e).run P w = .ok z w) (hm : Nat.ble (m * s) 16777216 = true) (hm0 : Nat.beq (m * s) 0 = false) (hp : AllP n ops l L i (xs.map (·.2)) ps)
    (hf : ∀ vs w, Below W.heap.size W w → Holds ps vs w → ∃ cs : List Value, Instr.fill (fun i => some (i * s, s)) ((Array.range (m * s)).map (z.cells[· % z.cells.size]!)) ((xs.map (·.1)).zip vs) = some cs.toArray ∧
      ∀ B w', w.heap.size = B → w'.heap[B]? = some (.cells cs.toArray e (0, 0)) → Below w.heap.size w w' → atI L i (.slice (some ⟨B, 0, none⟩) m m) w') : RG P n ops Q l W L i :=
  fun a ha => st_value hi hw fun b w hF hG hD => by
    obtain ⟨cs, h1, h2⟩ := hf _ w hG (allP_holds ha hF hD hp)
    have h4 : m * s ≤ 16777216 := Nat.le_of_ble_eq_true hm
    have h5 : m * s ≠ 0 := fun e => by rw [e] at hm0; cases hm0
    have h6 : ¬ (m * s > 2 ^ 24) := by omega
    have h7 : ((xs.map (·.1)).zip ((xs.map (·.2)).map b.eval)) = xs.map (fun p => (p.1, b.eval p.2)) := by
      clear hi hw hp h1 hf h2
      induction xs with
      | nil => rfl
      | cons x xs ih => simp only [List.map_cons, List.zip_cons_cons, ih]
    rw [h7] at h1
    have hB : Below w.heap.size w (w.alloc (.cells cs.toArray e)) := (Below.refl _ _).alloc (Nat.le_refl _) _
    refine ⟨_, w.alloc (.cells cs.toArray e), ?_, h2 _ _ rfl (heap_alloc_new w _) hB, hB⟩
    unfold execOp
    simp only []
    rw [show (Array.map (fun p => (p.1, b.eval p.2)) xs.toArray) = (xs.map (fun p => (p.1, b.eval p.2))).toArray by simp]
    simp only [Instr.buildSlice, Sem.run_bind, run_underlying hU, Result.andThen_ok, hs, if_neg h6, if_neg h5, hz, Sem.run_pure, h1, newRow, run_newObj_alloc]
def FinI : List Oper → List Asr → Fr → (Fr → World → Prop) → World → Prop
  | [], _, l, K, W => K l W
  | o :: os, L, l, K, W => ∀ v, atI L 0 v W → FinI os L.tail ((match o.dst with | some d => [(d, v)] | none => []) ++ l) K W
theorem fin_v {c : Value} {K : Fr → World → Prop} {dst : Nat} {op : Op} {ty : TypeId} {pos : String} {aft : Array Edge} {g : Option (Nat × Bool)} (h : FinI os L ((dst, c) :: l) K W) : FinI (⟨some dst, op, ty, pos, aft, g⟩ :: os) (isV c :: L) l K W := fun v hv => by
  have : v = c := hv
  subst this; exact h
theorem fin_p {p : Asr} {K : Fr → World → Prop} {dst : Nat} {op : Op} {ty : TypeId} {pos : String} {aft : Array Edge} {g : Option (Nat × Bool)} (h : ∀ v, p v W → FinI os L ((dst, v) :: l) K W) : FinI (⟨some dst, op, ty, pos, aft, g⟩ :: os) (p :: L) l K W := fun v hv => h v hv
theorem fin_nil {K : Fr → World → Prop} (h : K l W) : FinI [] L l K W := h
theorem atI_tail (L : List Asr) (i : Nat) : atI L.tail i = atI L (i + 1) := by cases L <;> rfl
theorem fin_has {a : Act} {K : Fr → World → Prop} {G : Prop} : ∀ (os : List Oper) (L : List Asr) (l : Fr), (∀ i d, i < os.length → (os[i]?).bind (·.dst) = some d → atI L i (a.tmps.getD d undef) W) → a.tmps.size = n → a.defers = [] →
    (∀ t v, look l t = some v → (∀ o ∈ os, o.dst ≠ some t) → a.tmps.getD t undef = v) → (∀ o ∈ os, ∃ d, o.dst = some d) → (hK : ∀ l', K l' W → Has n l' a → G) → FinI os L l K W → G
  | [], L, l, hI, hs, hd, hl, _, hK, h => hK l h ⟨hs, hd, fun t v hv => hl t v hv (fun o ho => by cases ho)⟩
  | o :: os, L, l, hI, hs, hd, hl, hdst, hK, h => by
    obtain ⟨d, hod⟩ := hdst o List.mem_cons_self
    have h0 := hI 0 d (by simp) (by simp [hod])
    have h1 := h _ h0
    refine fin_has os L.tail _ (fun i e hi he => by rw [atI_tail]; exact hI (i + 1) e (by simpa using hi) (by simpa using he)) hs hd ?_ (fun o ho => hdst o (List.mem_cons_of_mem _ ho)) hK h1
    intro t v hv hno
    rw [hod] at hv
    simp only [List.cons_append, List.nil_append] at hv
    unfold look at hv
    cases hb : Nat.beq d t with
    | true =>
      simp only [hb, cond_true, Option.some.injEq] at hv
      rw [← Nat.eq_of_beq_eq_true hb]; exact hv
    | false =>
      simp only [hb, cond_false] at hv
      refine hl t v hv (fun o' ho' => ?_)
      rcases List.mem_cons.1 ho' with rfl | ho'
      · rw [hod]; intro e; rw [Option.some.inj e, Nat.beq_refl] at hb; cases hb
      · exact hno o' ho'
theorem regD {id : Nat} (hm : P.follows .mixedOrders = true) (L : List Asr) (hS : St w0 O G K W) (ht : tidyR os.toArray n = true) (hdst : os.all (fun o => o.dst.isSome) = true) {m : Nat} (hlen : os.length = m)
    (hstep : AllG P n os.toArray Q l W L m 0) (hst : StabL L)
    (hfin : ∀ W', Below W.heap.size W W' → St w0 O G ((W.heap.size, W') :: K) W' → FinI os L l (fun l' W' => XF Q .normal n l' W') W') : CodeF P n (.region id os.toArray true) Q l W := fun a ha => by
  subst hlen
  refine wp_region_steps hm L (by rw [ha.size]; exact ht) hst (by have := allG_from ha hstep; simpa using this) ?_
  intro a' W' hs hd hf hG hI
  refine fin_has os L l (fun i d hi hd' => hI i d (by simpa using hi) (by simpa using hd')) (hs.trans ha.size) (hd.trans ha.defers) ?_ (fun o ho => ?_) (fun l' h ha' => h a' ha') (hfin W' hG (hS.call hG))
  · intro t v hv hno
    rw [hf t (by unfold freeT; rw [Array.all_eq_true']; intro o ho; simpa using hno o (by simpa using ho))]
    exact ha.at_ t v hv
  · have := List.all_eq_true.1 hdst o ho
    exact Option.isSome_iff_exists.1 this
theorem regDL {id : Nat} {o : Oper} (hm : P.follows .mixedOrders = true) (L : List Asr) (hS : St w0 O G K W) (hl : lastR (os ++ [o]).toArray os.length = true) (ht : tidyR (os ++ [o]).toArray n = true) (hdst : os.all (fun o => o.dst.isSome) = true) (hfree : ∀ d, o.dst = some d → look l d = none)
    (hstep : AllG P n (os ++ [o]).toArray Q l W L os.length 0) (hst : StabL L)
    (hfin : ∀ W', Below W.heap.size W W' → St w0 O G ((W.heap.size, W') :: K) W' → FinI os L l (fun l' W' => OpsF P n (os ++ [o]).toArray Q [o] l' W') W') : CodeF P n (.region id (os ++ [o]).toArray true) Q l W := fun a ha => by
  refine wp_region_steps_last hm os.length L hl (by rw [ha.size]; exact ht) hst (allG_from ha hstep) ?_
  intro a' W' hs hd hf hG hI
  have hk : ((os ++ [o]).toArray)[os.length]? = some o := by simp
  refine fin_has os L l (fun i d hi hd' => hI i d hi (by simp [List.getElem?_append_left hi]; simpa using hd')) (hs.trans ha.size) (hd.trans ha.defers) ?_ (fun o ho => ?_) (fun l' h ha' => ?_) (hfin W' hG (hS.call hG))
  · intro t v hv hno
    rw [hf t (by
      unfold freeT; rw [Array.all_eq_true']; intro o' ho'
      have : o' ∈ os ++ [o] := by simpa using ho'
      rcases List.mem_append.1 this with h1 | h1
      · simpa using hno o' h1
      · simp only [List.mem_singleton] at h1
        subst h1
        cases hx : o'.dst with
        | none => simp
        | some d => simp; intro e; subst e; rw [hfree d hx] at hv; cases hv)]
    exact ha.at_ t v hv
  · have := List.all_eq_true.1 hdst o ho
    exact Option.isSome_iff_exists.1 this
  · have h1 := h a' ha'
    unfold wpOp
    rw [hk]
    exact h1
theorem regDK {id : Nat} {o : Oper} (hm : P.follows .mixedOrders = true) (L : List Asr) (k : Nat) (hS : St w0 O G K W) (hk : os[k]? = some o) (hlen : os.length = k + 1) (hl : lastR os.toArray k = true) (ht : tidyR os.toArray n = true) (hdst : (os.take k).all (fun o => o.dst.isSome) = true) (hfree : ∀ d, o.dst = some d → look l d = none)
    (hstep : AllG P n os.toArray Q l W L k 0) (hst : StabL L)
    (hfin : ∀ W', Below W.heap.size W W' → St w0 O G ((W.heap.size, W') :: K) W' → FinI (os.take k) L l (fun l' W' => OpsF P n os.toArray Q [o] l' W') W') : CodeF P n (.region id os.toArray true) Q l W := by
  have e : os = os.take k ++ [o] := by
    apply List.ext_getElem?
    intro j
    by_cases hj : j < k
    · rw [List.getElem?_append_left (by simp; omega), List.getElem?_take, if_pos hj]
    · by_cases hj2 : j = k
      · subst hj2; rw [List.getElem?_append_right (by simp; omega), hk]; simp [show min j os.length = j by omega]
      · rw [List.getElem?_eq_none (by omega), List.getElem?_eq_none (by simp; omega)]
  have hkl : (os.take k).length = k := by simp; omega
  generalize hg : os.take k = os1 at *
  subst hkl
  subst e
  exact regDL hm L hS hl ht hdst hfree hstep hst hfin
theorem holds_isV : ∀ {us vs : List Value} {w : World}, Holds (us.map isV) vs w → vs = us
  | [], [], _, _ => rfl
  | u :: us, v :: vs, w, h => by rw [holds_isV h.2]; congr 1; exact h.1
  | [], _ :: _, _, h => h.elim
  | _ :: _, [], _, h => h.elim
theorem atI_get : ∀ (L : List Asr) (i : Nat), i < L.length → some (atI L i) = L[i]?
  | [], i, h => by simp at h
  | p :: L, 0, _ => rfl
  | p :: L, i + 1, h => by rw [List.getElem?_cons_succ]; exact atI_get L i (by simpa using h)
theorem at_top {p : Asr} {Lr : List Asr} (h : Lr.length = i) : atI (p :: Lr).reverse i = p := by
  have := atI_get (p :: Lr).reverse i (by simp; omega)
  rw [List.getElem?_reverse (by simp; omega)] at this
  simp only [List.length_cons, h, show i + 1 - 1 - i = 0 by omega, List.getElem?_cons_zero, Option.some.injEq] at this
  exact this
theorem at_dep {Lr : List Asr} {j : Nat} {p : Asr} (h : Lr.length = i + 1) (hj : Nat.ble j i = true) (hL : atI Lr (i - j) = p) : atI Lr.reverse j = p := by
  have hj' : j ≤ i := Nat.le_of_ble_eq_true hj
  have h1 := atI_get Lr.reverse j (by simp; omega)
  rw [List.getElem?_reverse (by omega)] at h1
  have h2 := atI_get Lr (i - j) (by omega)
  rw [show Lr.length - 1 - j = i - j by omega, ← h2, hL] at h1
  exact Option.some.inj h1
theorem RG.ext {L1 L2 : List Asr} (ht : tidyR ops n = true) (hag : ∀ j, j ≤ i → atI L1 j = atI L2 j) (h : RG P n ops Q l W L1 i) : RG P n ops Q l W L2 i := fun a ha => by
  have h1 := h a ha
  intro b w hF hG hD
  have hlt : ∀ j d, waitsFor ops i j d = true → j < i := fun j d hw => by
    cases ho : ops[i]? with
    | none => simp [waitsFor, ho] at hw
    | some o =>
      simp only [waitsFor, ho, Bool.and_eq_true, beq_iff_eq] at hw
      obtain ⟨e, he, h2⟩ := Array.any_eq_true'.1 hw.1
      simp only [Bool.and_eq_true, beq_iff_eq] at h2
      rw [← h2.1]; exact tidy_after ht ho e he h2.2
  have h2 := h1 b w hF hG (fun j d hw => by rw [hag j (Nat.le_of_lt (hlt j d hw))]; exact hD j d hw)
  rw [hag i (Nat.le_refl _)] at h2
  exact h2
def BL (P : Program) (n : Nat) (ops : Array Oper) (Q : Exit → Act → World → Prop) (l : Fr) (W : World) (Goal : List Asr → Prop) : Nat → List Asr → Nat → Prop
  | 0, Lr, _ => Goal Lr
  | m + 1, Lr, k => ∃ p, Stab p ∧ RG P n ops Q l W (p :: Lr).reverse k ∧ BL P n ops Q l W Goal m (p :: Lr) (k + 1)
variable {Goal : List Asr → Prop}
theorem bl_nil {Lr : List Asr} {k : Nat} (h : Goal Lr) : BL P n ops Q l W Goal 0 Lr k := h
theorem bl_cons {m k : Nat} {Lr : List Asr} (k' : Nat) (hk : k + 1 = k') (p : Asr) (hs : Stab p) (h : RG P n ops Q l W (p :: Lr).reverse k) (hr : BL P n ops Q l W Goal m (p :: Lr) k') : BL P n ops Q l W Goal (m + 1) Lr k := by
  subst hk; exact ⟨p, hs, h, hr⟩
theorem stabL_of : ∀ {L : List Asr}, (∀ p ∈ L, Stab p) → StabL L
  | [], _ => trivial
  | p :: L, h => ⟨h p List.mem_cons_self, stabL_of fun q hq => h q (List.mem_cons_of_mem _ hq)⟩
theorem atI_append {A B : List Asr} {j : Nat} (h : j < A.length) : atI (A ++ B) j = atI A j := by
  have h1 := atI_get (A ++ B) j (by simp; omega)
  have h2 := atI_get A j h
  rw [List.getElem?_append_left h, ← h2] at h1
  exact Option.some.inj h1
theorem bl_run (ht : tidyR ops n = true) : ∀ (m k : Nat) (Lr : List Asr), Lr.length = k → (∀ p ∈ Lr, Stab p) → (∀ i, i < k → RG P n ops Q l W Lr.reverse i) → BL P n ops Q l W Goal m Lr k →
    ∃ Lr', Lr'.length = k + m ∧ (∀ p ∈ Lr', Stab p) ∧ (∀ i, i < k + m → RG P n ops Q l W Lr'.reverse i) ∧ Goal Lr'
  | 0, k, Lr, hl, hs, hg, h => ⟨Lr, hl, hs, hg, h⟩
  | m + 1, k, Lr, hl, hs, hg, ⟨p, hp, hr, hn⟩ => by
    obtain ⟨L', h1, h2, h3, h4⟩ := bl_run ht m (k + 1) (p :: Lr) (by simp [hl]) (fun q hq => by
      rcases List.mem_cons.1 hq with rfl | hq
      · exact hp
      · exact hs q hq) (fun i hi => by
      by_cases hik : i = k
      · subst hik; exact hr
      · refine RG.ext ht (fun j hj => ?_) (hg i (by omega))
        rw [List.reverse_cons, atI_append (by simp; omega)]) hn
    exact ⟨L', by omega, h2, fun i hi => h3 i (by omega), h4⟩
theorem allG_of {L : List Asr} : ∀ (m k : Nat), (∀ i, i < k + m → RG P n ops Q l W L i) → AllG P n ops Q l W L m k
  | 0, _, _ => trivial
  | m + 1, k, h => ⟨h k (by omega), allG_of m (k + 1) fun i hi => h i (by omega)⟩
theorem regB {id : Nat} {m : Nat} (hm : P.follows .mixedOrders = true) (hS : St w0 O G K W) (ht : tidyR os.toArray n = true) (hdst : os.all (fun o => o.dst.isSome) = true) (hlen : os.length = m)
    (h : BL P n os.toArray Q l W (fun Lr => ∀ W', Below W.heap.size W W' → St w0 O G ((W.heap.size, W') :: K) W' → FinI os Lr.reverse l (fun l' W' => XF Q .normal n l' W') W') m [] 0) : CodeF P n (.region id os.toArray true) Q l W := by
  obtain ⟨Lr, h1, h2, h3, h4⟩ := bl_run ht m 0 [] rfl (fun p hp => by cases hp) (fun i hi => by omega) h
  exact regD hm Lr.reverse hS ht hdst hlen (allG_of m 0 (by simpa using h3)) (stabL_of fun p hp => h2 p (List.mem_reverse.1 hp)) h4
theorem regBK {id : Nat} {o : Oper} (hm : P.follows .mixedOrders = true) (k : Nat) (hS : St w0 O G K W) (hk : os[k]? = some o) (hlen : os.length = k + 1) (hl : lastR os.toArray k = true) (ht : tidyR os.toArray n = true) (hdst : (os.take k).all (fun o => o.dst.isSome) = true) (hfree : ∀ d, o.dst = some d → look l d = none)
    (h : BL P n os.toArray Q l W (fun Lr => ∀ W', Below W.heap.size W W' → St w0 O G ((W.heap.size, W') :: K) W' → FinI (os.take k) Lr.reverse l (fun l' W' => OpsF P n os.toArray Q [o] l' W') W') k [] 0) : CodeF P n (.region id os.toArray true) Q l W := by
  obtain ⟨Lr, h1, h2, h3, h4⟩ := bl_run ht k 0 [] rfl (fun p hp => by cases hp) (fun i hi => by omega) h
  exact regDK hm Lr.reverse k hS hk hlen hl ht hdst hfree (allG_of k 0 (by simpa using h3)) (stabL_of fun p hp => h2 p (List.mem_reverse.1 hp)) h4
end
end Go.Proofs.YtjcminoaiieckaaGreatDoor
namespace Go.Proofs.YtjcminoaiieckaaGreatDoor
open Go Go.RowKit
theorem followsM : Tryz.prog.follows .mixedOrders = true := by kernel_rfl
theorem bld_25_0_1 (v0 : Int) (v1 : Int) : Tryz.prog.built 25 [(0, .int .i64 v0), (1, .int .i64 v1)] = some #[.int .i64 v0, .int .i64 v1, .slice none 0 0] := by kernel_rfl
theorem bld_33_0 (v0 : Bool) : Tryz.prog.built 33 [(0, .bool v0)] = some #[.bool v0, .int .i64 0, .int .u64 0, .slice none 0 0, .slice none 0 0, .slice none 0 0] := by kernel_rfl
theorem bld_33_1 (v1 : Int) : Tryz.prog.built 33 [(1, .int .i64 v1)] = some #[.bool false, .int .i64 v1, .int .u64 0, .slice none 0 0, .slice none 0 0, .slice none 0 0] := by kernel_rfl
theorem bld_33_3 (v3a : Option Addr) (v3l : Nat) (v3c : Nat) : Tryz.prog.built 33 [(3, .slice v3a v3l v3c)] = some #[.bool false, .int .i64 0, .int .u64 0, .slice none 0 0, .slice v3a v3l v3c, .slice none 0 0] := by kernel_rfl
theorem bld_73_0_1_2 (v0 : Int) (v1 : Int) (v2 : Int) : Tryz.prog.built 73 [(0, .int .u64 v0), (1, .int .i64 v1), (2, .int .i64 v2)] = some #[.int .u64 v0, .int .i64 v1, .int .i64 v2] := by kernel_rfl
theorem bs_139_2 (v0 : Int) (v1 : Int) : Instr.fill (fun i => some (i * 1, 1)) ((Array.range (2 * 1)).map ((Value.cells (.int .i64 0))[· % (Value.cells (.int .i64 0)).size]!)) [(0, .int .i64 v0), (1, .int .i64 v1)] = some (List.toArray [.int .i64 v0, .int .i64 v1]) := by kernel_rfl
theorem bs_30_1 (v00 : Value) (v01 : Value) (v02 : Value) : Instr.fill (fun i => some (i * 3, 3)) ((Array.range (1 * 3)).map ((Value.cells (.agg #[.int .u64 0, .int .i64 0, .int .i64 0]))[· % (Value.cells (.agg #[.int .u64 0, .int .i64 0, .int .i64 0])).size]!)) [(0, .agg #[v00, v01, v02])] = some (List.toArray [v00, v01, v02]) := by kernel_rfl
theorem bs_31_1 (v00 : Value) (v01 : Value) (v02 : Value) (v03 : Value) (v04 : Value) (v05 : Value) : Instr.fill (fun i => some (i * 6, 6)) ((Array.range (1 * 6)).map ((Value.cells (.agg #[.bool false, .int .i64 0, .int .u64 0, .slice none 0 0, .slice none 0 0, .slice none 0 0]))[· % (Value.cells (.agg #[.bool false, .int .i64 0, .int .u64 0, .slice none 0 0, .slice none 0 0, .slice none 0 0])).size]!)) [(0, .agg #[v00, v01, v02, v03, v04, v05])] = some (List.toArray [v00, v01, v02, v03, v04, v05]) := by kernel_rfl
theorem bs_31_2 (v00 : Value) (v01 : Value) (v02 : Value) (v03 : Value) (v04 : Value) (v05 : Value) (v10 : Value) (v11 : Value) (v12 : Value) (v13 : Value) (v14 : Value) (v15 : Value) : Instr.fill (fun i => some (i * 6, 6)) ((Array.range (2 * 6)).map ((Value.cells (.agg #[.bool false, .int .i64 0, .int .u64 0, .slice none 0 0, .slice none 0 0, .slice none 0 0]))[· % (Value.cells (.agg #[.bool false, .int .i64 0, .int .u64 0, .slice none 0 0, .slice none 0 0, .slice none 0 0])).size]!)) [(0, .agg #[v00, v01, v02, v03, v04, v05]), (1, .agg #[v10, v11, v12, v13, v14, v15])] = some (List.toArray [v00, v01, v02, v03, v04, v05, v10, v11, v12, v13, v14, v15]) := by kernel_rfl
theorem bs_31_3 (v00 : Value) (v01 : Value) (v02 : Value) (v03 : Value) (v04 : Value) (v05 : Value) (v10 : Value) (v11 : Value) (v12 : Value) (v13 : Value) (v14 : Value) (v15 : Value) (v20 : Value) (v21 : Value) (v22 : Value) (v23 : Value) (v24 : Value) (v25 : Value) : Instr.fill (fun i => some (i * 6, 6)) ((Array.range (3 * 6)).map ((Value.cells (.agg #[.bool false, .int .i64 0, .int .u64 0, .slice none 0 0, .slice none 0 0, .slice none 0 0]))[· % (Value.cells (.agg #[.bool false, .int .i64 0, .int .u64 0, .slice none 0 0, .slice none 0 0, .slice none 0 0])).size]!)) [(0, .agg #[v00, v01, v02, v03, v04, v05]), (1, .agg #[v10, v11, v12, v13, v14, v15]), (2, .agg #[v20, v21, v22, v23, v24, v25])] = some (List.toArray [v00, v01, v02, v03, v04, v05, v10, v11, v12, v13, v14, v15, v20, v21, v22, v23, v24, v25]) := by kernel_rfl
theorem fa_25_0 (w : World) (b o : Nat) : (Instr.fieldAt 25 (.pointer (some ⟨b, o, none⟩)) 0).run Tryz.prog w = .ok (.pointer (some ⟨b, o + 0, none⟩)) w := by
  simp [Instr.fieldAt, run_underlying Tryz.underlying25, Instr.sureAddr, go_sem, Addr.add_lit]
theorem fa_25_1 (w : World) (b o : Nat) : (Instr.fieldAt 25 (.pointer (some ⟨b, o, none⟩)) 1).run Tryz.prog w = .ok (.pointer (some ⟨b, o + 1, none⟩)) w := by
  simp [Instr.fieldAt, run_underlying Tryz.underlying25, Instr.sureAddr, go_sem, Addr.add_lit]
theorem fa_25_2 (w : World) (b o : Nat) : (Instr.fieldAt 25 (.pointer (some ⟨b, o, none⟩)) 2).run Tryz.prog w = .ok (.pointer (some ⟨b, o + 2, none⟩)) w := by
  simp [Instr.fieldAt, run_underlying Tryz.underlying25, Instr.sureAddr, go_sem, Addr.add_lit]
theorem fa_29_1 (w : World) (b o : Nat) : (Instr.fieldAt 29 (.pointer (some ⟨b, o, none⟩)) 1).run Tryz.prog w = .ok (.pointer (some ⟨b, o + 1, none⟩)) w := by
  simp [Instr.fieldAt, run_underlying Tryz.underlying29, Instr.sureAddr, go_sem, Addr.add_lit]
theorem fa_33_0 (w : World) (b o : Nat) : (Instr.fieldAt 33 (.pointer (some ⟨b, o, none⟩)) 0).run Tryz.prog w = .ok (.pointer (some ⟨b, o + 0, none⟩)) w := by
  simp [Instr.fieldAt, run_underlying Tryz.underlying33, Instr.sureAddr, go_sem, Addr.add_lit]
theorem fa_33_1 (w : World) (b o : Nat) : (Instr.fieldAt 33 (.pointer (some ⟨b, o, none⟩)) 1).run Tryz.prog w = .ok (.pointer (some ⟨b, o + 1, none⟩)) w := by
  simp [Instr.fieldAt, run_underlying Tryz.underlying33, Instr.sureAddr, go_sem, Addr.add_lit]
theorem fa_33_2 (w : World) (b o : Nat) : (Instr.fieldAt 33 (.pointer (some ⟨b, o, none⟩)) 2).run Tryz.prog w = .ok (.pointer (some ⟨b, o + 2, none⟩)) w := by
  simp [Instr.fieldAt, run_underlying Tryz.underlying33, Instr.sureAddr, go_sem, Addr.add_lit]
theorem fa_33_3 (w : World) (b o : Nat) : (Instr.fieldAt 33 (.pointer (some ⟨b, o, none⟩)) 3).run Tryz.prog w = .ok (.pointer (some ⟨b, o + 4, none⟩)) w := by
  simp [Instr.fieldAt, run_underlying Tryz.underlying33, Instr.sureAddr, go_sem, Addr.add_lit]
theorem fa_33_4 (w : World) (b o : Nat) : (Instr.fieldAt 33 (.pointer (some ⟨b, o, none⟩)) 4).run Tryz.prog w = .ok (.pointer (some ⟨b, o + 5, none⟩)) w := by
  simp [Instr.fieldAt, run_underlying Tryz.underlying33, Instr.sureAddr, go_sem, Addr.add_lit]
theorem fa_73_0 (w : World) (b o : Nat) : (Instr.fieldAt 73 (.pointer (some ⟨b, o, none⟩)) 0).run Tryz.prog w = .ok (.pointer (some ⟨b, o + 0, none⟩)) w := by
  simp [Instr.fieldAt, run_underlying Tryz.underlying73, Instr.sureAddr, go_sem, Addr.add_lit]
theorem fa_73_1 (w : World) (b o : Nat) : (Instr.fieldAt 73 (.pointer (some ⟨b, o, none⟩)) 1).run Tryz.prog w = .ok (.pointer (some ⟨b, o + 1, none⟩)) w := by
  simp [Instr.fieldAt, run_underlying Tryz.underlying73, Instr.sureAddr, go_sem, Addr.add_lit]
theorem fa_73_2 (w : World) (b o : Nat) : (Instr.fieldAt 73 (.pointer (some ⟨b, o, none⟩)) 2).run Tryz.prog w = .ok (.pointer (some ⟨b, o + 2, none⟩)) w := by
  simp [Instr.fieldAt, run_underlying Tryz.underlying73, Instr.sureAddr, go_sem, Addr.add_lit]
theorem goes_10 : goesIn Tryz.prog 10 = true := by kernel_rfl
theorem goes_11 : goesIn Tryz.prog 11 = true := by kernel_rfl
theorem goes_12 : goesIn Tryz.prog 12 = true := by kernel_rfl
theorem goes_125 : goesIn Tryz.prog 125 = true := by kernel_rfl
theorem goes_126 : goesIn Tryz.prog 126 = true := by kernel_rfl
theorem goes_127 : goesIn Tryz.prog 127 = true := by kernel_rfl
theorem goes_14 : goesIn Tryz.prog 14 = true := by kernel_rfl
theorem goes_18 : goesIn Tryz.prog 18 = true := by kernel_rfl
theorem goes_19 : goesIn Tryz.prog 19 = true := by kernel_rfl
theorem goes_21 : goesIn Tryz.prog 21 = true := by kernel_rfl
theorem goes_22 : goesIn Tryz.prog 22 = true := by kernel_rfl
theorem goes_27 : goesIn Tryz.prog 27 = true := by kernel_rfl
theorem goes_29 : goesIn Tryz.prog 29 = true := by kernel_rfl
theorem goes_33 : goesIn Tryz.prog 33 = true := by kernel_rfl
theorem goes_37 : goesIn Tryz.prog 37 = true := by kernel_rfl
theorem goes_38 : goesIn Tryz.prog 38 = true := by kernel_rfl
theorem goes_39 : goesIn Tryz.prog 39 = true := by kernel_rfl
theorem goes_41 : goesIn Tryz.prog 41 = true := by kernel_rfl
theorem goes_45 : goesIn Tryz.prog 45 = true := by kernel_rfl
theorem goes_46 : goesIn Tryz.prog 46 = true := by kernel_rfl
theorem goes_47 : goesIn Tryz.prog 47 = true := by kernel_rfl
theorem goes_52 : goesIn Tryz.prog 52 = true := by kernel_rfl
theorem goes_55 : goesIn Tryz.prog 55 = true := by kernel_rfl
theorem goes_56 : goesIn Tryz.prog 56 = true := by kernel_rfl
theorem goes_58 : goesIn Tryz.prog 58 = true := by kernel_rfl
theorem goes_63 : goesIn Tryz.prog 63 = true := by kernel_rfl
theorem goes_65 : goesIn Tryz.prog 65 = true := by kernel_rfl
theorem goes_66 : goesIn Tryz.prog 66 = true := by kernel_rfl
theorem goes_67 : goesIn Tryz.prog 67 = true := by kernel_rfl
theorem goes_77 : goesIn Tryz.prog 77 = true := by kernel_rfl
theorem goes_78 : goesIn Tryz.prog 78 = true := by kernel_rfl
theorem goes_79 : goesIn Tryz.prog 79 = true := by kernel_rfl
theorem goes_82 : goesIn Tryz.prog 82 = true := by kernel_rfl
theorem goes_83 : goesIn Tryz.prog 83 = true := by kernel_rfl
theorem goes_84 : goesIn Tryz.prog 84 = true := by kernel_rfl
theorem goes_85 : goesIn Tryz.prog 85 = true := by kernel_rfl
theorem goes_86 : goesIn Tryz.prog 86 = true := by kernel_rfl
theorem goes_9 : goesIn Tryz.prog 9 = true := by kernel_rfl
theorem goes_91 : goesIn Tryz.prog 91 = true := by kernel_rfl
theorem goes_93 : goesIn Tryz.prog 93 = true := by kernel_rfl
theorem inf_33 : Tryz.prog.info? 33 = some Tryz.t33 := by kernel_rfl
theorem inf_9 : Tryz.prog.info? 9 = some Tryz.t9 := by kernel_rfl
end Go.Proofs.YtjcminoaiieckaaGreatDoor
namespace Go.Proofs.YtjcminoaiieckaaGreatDoor
open Go Go.RowKit
set_option linter.unusedVariables false
theorem VRow.agree {A W : World} {lo : Nat} {a : Option Addr} {vs : List Value} (h : VRow A a vs) (hl : ∀ ad, a = some ad → lo ≤ ad.block) (hg : Agree lo A W) : VRow W a vs := by
  rcases h with h | ⟨b, off, rfl, hc⟩
  · exact .inl h
  · exact .inr ⟨b, off, rfl, fun i v hi => hg.cell (p := ⟨b, off + i, none⟩) (hl ⟨b, off, none⟩ rfl) (hc i v hi)⟩
theorem CRow.agree {A W : World} {lo : Nat} {a : Option Addr} {cs : List Cl} (h : CRow A a cs) (hl : ∀ ad, a = some ad → lo ≤ ad.block) (hg : Agree lo A W) : CRow W a cs := by
  rcases h with h | ⟨b, off, rfl, hc⟩
  · exact .inl h
  · exact .inr ⟨b, off, rfl, fun i c hi => ⟨hg.cell (p := ⟨b, _, none⟩) (hl ⟨b, off, none⟩ rfl) (hc i c hi).1, hg.cell (p := ⟨b, _, none⟩) (hl ⟨b, off, none⟩ rfl) (hc i c hi).2.1, hg.cell (p := ⟨b, _, none⟩) (hl ⟨b, off, none⟩ rfl) (hc i c hi).2.2⟩⟩
theorem W6.agree {A W : World} {lo b o : Nat} {f : WF} (h : W6 A b o f) (hb : lo ≤ b) (hg : Agree lo A W) : W6 W b o f :=
  ⟨hg.cell hb h.1, hg.cell hb h.2.1, hg.cell hb h.2.2.1, hg.cell hb h.2.2.2.1, hg.cell hb h.2.2.2.2.1, hg.cell hb h.2.2.2.2.2⟩
theorem PNew.agree {n : Nat} {A W : World} {t d : Int} {f : WF} {a : PF} (h : PNew n A t d f a) (hg : Agree n A W) : PNew n W t d f a :=
  ⟨⟨⟨h.is.at_.rows.agree h.ra hg, h.is.at_.rl, h.is.at_.g64, h.is.at_.r64, h.is.at_.cells.agree h.ca hg, h.is.at_.cl, h.is.at_.bits, h.is.at_.cmax⟩, h.is.pf, h.is.ok, h.is.pl⟩, h.ra, h.ca⟩
theorem XNew.agree {n : Nat} {A W : World} {S : PS} {f : WF} {x : PX} (h : XNew n A S f x) (hg : Agree n A W) : XNew n W S f x := by
  cases S <;> cases x <;> first | exact h.elim | exact PNew.agree h hg | skip
  obtain ⟨h1, h2, h3, h4, blk, g, k, h5, h0, h6, h7, h8, h9⟩ := h
  exact ⟨h1, h2, h3, h4, blk, g, k, h5, h0, h6.agree h0 hg, h7.agree h0 hg, h8.agree hg, h9.agree hg⟩
theorem W6.cells {w : World} {b o : Nat} {f : WF} (h : W6 w b o f) : CellsAt w b o f.six := ⟨h.1, h.2.1, h.2.2.1, h.2.2.2.1, h.2.2.2.2.1, h.2.2.2.2.2, trivial⟩
theorem W6.of_cells {w : World} {b o : Nat} {f : WF} (h : CellsAt w b o f.six) : W6 w b o f := ⟨h.1, h.2.1, h.2.2.1, h.2.2.2.1, h.2.2.2.2.1, h.2.2.2.2.2.1⟩
abbrev SF.three (f : SF) : List Value := [.int .i64 f.tag, .int .i64 f.dim, .slice f.a f.len f.cap]
theorem S3.cells {w : World} {b o : Nat} {f : SF} (h : S3 w b o f) : CellsAt w b o f.three := ⟨h.1, h.2.1, h.2.2, trivial⟩
abbrev costF (c : Int) : WF := ⟨false, c, 0, none, 0, 0, [], none, 0, 0, [], none, 0, 0⟩
abbrev factsF (g : Nat) (a : Option Addr) (cap : Nat) (rows : List Nat) : WF := ⟨false, 0, g, a, rows.length, cap, rows, none, 0, 0, [], none, 0, 0⟩
abbrev cellsF (a : Option Addr) (cap : Nat) (cs : List Cl) : WF := ⟨false, 0, 0, none, 0, 0, [], a, cs.length, cap, cs, none, 0, 0⟩
theorem new_cost {n : Nat} {W : World} {t d c : Int} (h : OkP t d (pC c)) : PNew n W t d (costF c) (pC c) :=
  ⟨⟨⟨.inl rfl, rfl, (by show (0 : Nat) < _; decide), (fun r hr => by cases hr), .inl rfl, rfl, (fun c hc => by cases hc), (by show (0 : Nat) ≤ _; decide)⟩, rfl, h, rfl⟩, (fun ad e => by cases e), (fun ad e => by cases e)⟩
theorem new_facts {n : Nat} {W : World} {t d : Int} {g : Nat} {a : Option Addr} {cap : Nat} {rows : List Nat} (h : OkP t d (pF g rows)) (hg : g < 18446744073709551616) (hr : ∀ r ∈ rows, r < 18446744073709551616) (hv : VRow W a (u64s rows)) (hl : ∀ ad, a = some ad → n ≤ ad.block) : PNew n W t d (factsF g a cap rows) (pF g rows) :=
  ⟨⟨⟨hv, rfl, hg, hr, .inl rfl, rfl, (fun c hc => by cases hc), by simp [maxLen]⟩, rfl, h, rfl⟩, hl, (fun ad e => by cases e)⟩
theorem new_cells {n : Nat} {W : World} {t d : Int} {a : Option Addr} {cap : Nat} {cs : List Cl} (h : OkP t d (pX cs)) (hb : Bits cs) (hm : cs.length ≤ maxLen) (hv : CRow W a cs) (hl : ∀ ad, a = some ad → n ≤ ad.block) : PNew n W t d (cellsF a cap cs) (pX cs) :=
  ⟨⟨⟨.inl rfl, rfl, (by show (0 : Nat) < _; decide), (fun r hr => by cases hr), hv, rfl, hb, hm⟩, rfl, h, rfl⟩, (fun ad e => by cases e), hl⟩
theorem PIs.z {w : World} {t n : Int} {f : WF} {x : PF} (h : PIs w t n f x) : x.z = f.z := by rw [← h.pf]; rfl
theorem PIs.zero {w : World} {t n : Int} {f : WF} {x : PF} (h : PIs w t n f x) (hz : f.z = true) : x = zeroP := by
  have h1 := h.z; have h2 := h.ok
  rw [hz] at h1
  cases h2 <;> first | rfl | cases h1
theorem pf_inj {f : WF} {x : PF} (h : f.pf = x) : f.z = x.z ∧ f.c = x.c ∧ f.g = x.g ∧ f.rows = x.rows ∧ f.cells = x.cells := by subst h; exact ⟨rfl, rfl, rfl, rfl, rfl⟩
theorem PIs.k1 {w : World} {n : Int} {f : WF} {x : PF} (h : PIs w 1 n f x) (hz : f.z = false) : x = pC 0 := by
  rcases okP_1 h.ok with rfl | rfl
  · rw [(pf_inj h.pf).1] at hz; cases hz
  · rfl
theorem PIs.k2 {w : World} {n : Int} {f : WF} {x : PF} (h : PIs w 2 n f x) (hz : f.z = false) : x = pC f.c ∧ 0 ≤ f.c ∧ f.c ≤ n := by
  rcases okP_2 h.ok with rfl | ⟨c, rfl, h0, h1⟩
  · rw [(pf_inj h.pf).1] at hz; cases hz
  · have : f.c = c := (pf_inj h.pf).2.1
    subst this; exact ⟨rfl, h0, h1⟩
theorem PIs.k3 {w : World} {m : Nat} {f : WF} {x : PF} (h : PIs w 3 m f x) (hz : f.z = false) : x = pF f.g f.rows ∧ Good m f.g f.rows := by
  rcases okP_3 h.ok with rfl | ⟨g, rows, rfl, h0⟩
  · rw [(pf_inj h.pf).1] at hz; cases hz
  · have h1 : f.g = g := (pf_inj h.pf).2.2.1
    have h2 : f.rows = rows := (pf_inj h.pf).2.2.2.1
    subst h1; subst h2; exact ⟨rfl, h0⟩
theorem PIs.k4 {w : World} {m : Nat} {f : WF} {x : PF} (h : PIs w 4 m f x) (hz : f.z = false) : x = pX f.cells ∧ Val m f.cells := by
  rcases okP_4 h.ok with rfl | ⟨cs, rfl, h0⟩
  · rw [(pf_inj h.pf).1] at hz; cases hz
  · have h1 : f.cells = cs := (pf_inj h.pf).2.2.2.2
    subst h1; exact ⟨rfl, h0⟩
theorem row_own {W : World} {B : Nat} {T : TypeId} {a b : Int} (h : W.heap[B]? = some (.cells (List.toArray [.int .i64 a, .int .i64 b]) T (0, 0))) : Row W (some ⟨B, 0, none⟩) [a, b] := by
  refine .inr ⟨B, 0, rfl, fun i hi => ?_⟩
  match i, hi with
  | 0, _ => exact cell_own h rfl
  | 1, _ => exact cell_own h rfl
theorem then_is (d : Int) (a b : Option Addr) (capa capb : Nat) (xs ys : List Cl) (w : World) (ht : Tabs w) (hma : xs.length ≤ maxLen) (hmb : ys.length ≤ maxLen) (hra : CRow w a xs) (hrb : CRow w b ys) (hba : Bits xs) (hbb : Bits ys) (c : Int) (hc : chk2C d xs ys = c) (la lb : Nat) (hla : xs.length = la) (hlb : ys.length = lb) :
    Calls Tryz.prog 86 #[.int .i64 d, .slice a la capa, .slice b lb capb] w (CellsRet (thenR d xs ys) c w) := by
  subst hla; subst hlb; exact then_any d a b capa capb xs ys w ht hma hmb hra hrb hba hbb c hc
theorem plain_ne5 {t n : Int} {l : Nat} (h : plainB t n l = true) : t ≠ 5 := pl_pair h
section
variable {w W : World} {k : Nat} {n : Int} {f g : WF} {x y : PF}
theorem wret_one {t : Int} {f : WF} {x : PF} (h : PNew w.heap.size W t n f x) (hb : Below w.heap.size w W) : WRet (.one t n) (.one x) w (.returned f.val) W := ⟨f, rfl, h, hb⟩
theorem ext_zL {t : Int} (hx : PIs w t n f x) (hz : f.z = true) (hb : Below w.heap.size w W) : WRet (.one t n) (.one (extP t n x y)) w (.returned zeroF.val) W := by
  rw [hx.zero hz, ext_zl]; exact wret_one (zero_new _ _ _ _) hb
theorem ext_zR {t : Int} (hy : PIs w t n g y) (hz : g.z = true) (hb : Below w.heap.size w W) : WRet (.one t n) (.one (extP t n x y)) w (.returned zeroF.val) W := by
  rw [hy.zero hz, ext_zr]; exact wret_one (zero_new _ _ _ _) hb
theorem ext_f1 (hx : PIs w 1 n f x) (hy : PIs w 1 n g y) (hf : f.z = false) (hg : g.z = false) : PNew k W 1 n (costF 0) (extP 1 n x y) := by
  rw [hx.k1 hf, hy.k1 hg, ext_1]; exact new_cost (.bool rfl)
theorem ext_f2 (hp : plainB 2 n 0 = true) (hx : PIs w 2 n f x) (hy : PIs w 2 n g y) (hf : f.z = false) (hg : g.z = false) : PNew k W 2 n (costF (sumR n [f.c, g.c])) (extP 2 n x y) := by
  obtain ⟨rfl, h0, h1⟩ := hx.k2 hf
  obtain ⟨rfl, h2, h3⟩ := hy.k2 hg
  obtain ⟨d0, d1, _⟩ := plainB_dim hp
  have hs : sumR n [f.c, g.c] = min (f.c + g.c) n := by
    rw [sum_two (chk2_iff.2 ⟨d0, d1, ⟨by omega, by omega⟩, by omega, by omega⟩)]
    unfold added; rw [if_neg (by omega)]
  rw [ext_2, hs]
  exact new_cost (.cost _ rfl (by omega) (by omega))
theorem ext_f3 {m : Nat} {a : Option Addr} {cap : Nat} (hx : PIs w 3 m f x) (hy : PIs w 3 m g y) (hf : f.z = false) (hg : g.z = false) (hv : VRow W a (u64s (extV m f.g f.rows g.g g.rows))) (hl : ∀ ad, a = some ad → k ≤ ad.block) : PNew k W 3 m (factsF (extG m f.g f.rows g.g g.rows) a cap (extV m f.g f.rows g.g g.rows)) (extP 3 m x y) := by
  obtain ⟨hx', h0⟩ := hx.k3 hf
  obtain ⟨hy', h1⟩ := hy.k3 hg
  rw [hx', hy', ext_3]
  exact new_facts (.facts m _ _ rfl rfl (h0.extT h1)) (h0.extT h1).g64 (h0.extT h1).r64 hv hl
theorem ext_f4 {m : Nat} {a : Option Addr} {cap : Nat} (hx : PIs w 4 m f x) (hy : PIs w 4 m g y) (hf : f.z = false) (hg : g.z = false) (hv : CRow W a (thenR m f.cells g.cells)) (hl : ∀ ad, a = some ad → k ≤ ad.block) : PNew k W 4 m (cellsF a cap (thenR m f.cells g.cells)) (extP 4 m x y) := by
  obtain ⟨hx', h0⟩ := hx.k4 hf
  obtain ⟨hy', h1⟩ := hy.k4 hg
  have e : thenR m f.cells g.cells = thenC f.cells g.cells := by unfold thenR; rw [if_pos (h0.chk2 h1)]
  have hv2 := val_then h0 h1
  rw [e] at hv ⊢
  rw [hx', hy', ext_4]
  exact new_cells (.cells m _ rfl rfl hv2) hv2.bits (by have := hv2.le; have := hv2.len; unfold maxLen; omega) hv hl
theorem comb_f1 (hx : PIs w 1 n f x) (hy : PIs w 1 n g y) (hf : f.z = false) (hg : g.z = false) : PNew k W 1 n (costF 0) (combP 1 n x y) := by
  rw [hx.k1 hf, hy.k1 hg, comb_1]; exact new_cost (.bool rfl)
theorem comb_f2 (hp : plainB 2 n 0 = true) (hx : PIs w 2 n f x) (hy : PIs w 2 n g y) (hf : f.z = false) (hg : g.z = false) : PNew k W 2 n (costF (leastR n [f.c, g.c])) (combP 2 n x y) := by
  obtain ⟨rfl, h0, h1⟩ := hx.k2 hf
  obtain ⟨rfl, h2, h3⟩ := hy.k2 hg
  obtain ⟨d0, d1, _⟩ := plainB_dim hp
  have hs : leastR n [f.c, g.c] = min f.c g.c := by
    rw [least_two (chk2_iff.2 ⟨d0, d1, ⟨by omega, by omega⟩, by omega, by omega⟩)]
    unfold lesser; rw [if_neg (by omega), if_neg (by omega)]
  rw [comb_2, hs]
  exact new_cost (.cost _ rfl (by omega) (by omega))
theorem comb_f3 {m : Nat} {a : Option Addr} {cap : Nat} (hx : PIs w 3 m f x) (hy : PIs w 3 m g y) (hf : f.z = false) (hg : g.z = false) (hv : VRow W a (u64s (combV m f.g f.rows g.g g.rows))) (hl : ∀ ad, a = some ad → k ≤ ad.block) : PNew k W 3 m (factsF (combG m f.g f.rows g.g g.rows) a cap (combV m f.g f.rows g.g g.rows)) (combP 3 m x y) := by
  obtain ⟨hx', h0⟩ := hx.k3 hf
  obtain ⟨hy', h1⟩ := hy.k3 hg
  rw [hx', hy', comb_3]
  exact new_facts (.facts m _ _ rfl rfl (h0.combT h1)) (h0.combT h1).g64 (h0.combT h1).r64 hv hl
theorem comb_f4 {m : Nat} {a : Option Addr} {cap : Nat} (hx : PIs w 4 m f x) (hy : PIs w 4 m g y) (hf : f.z = false) (hg : g.z = false) (hv : CRow W a (bothR m f.cells g.cells)) (hl : ∀ ad, a = some ad → k ≤ ad.block) : PNew k W 4 m (cellsF a cap (bothR m f.cells g.cells)) (combP 4 m x y) := by
  obtain ⟨hx', h0⟩ := hx.k4 hf
  obtain ⟨hy', h1⟩ := hy.k4 hg
  have e : bothR m f.cells g.cells = bothC f.cells g.cells := by unfold bothR; rw [if_pos (h0.chk2 h1)]
  have hv2 := val_both h0 h1
  rw [e] at hv ⊢
  rw [hx', hy', comb_4]
  exact new_cells (.cells m _ rfl rfl hv2) hv2.bits (by have := hv2.le; have := hv2.len; unfold maxLen; omega) hv hl
theorem one_f1 {t : Int} (hp : plainB t n 0 = true) (h3 : t ≠ 3) (h4 : t ≠ 4) : PNew k W t n (costF 0) (oneP t n) := by
  have h := one_okP hp
  have e : oneP t n = pC 0 := by unfold oneP; rw [if_neg h3, if_neg h4]
  rw [e] at h ⊢
  exact new_cost h
theorem one_f3 {m : Nat} {a : Option Addr} {cap : Nat} (hm : m ≤ 64) (hv : VRow W a (u64s (onesL m))) (hl : ∀ ad, a = some ad → k ≤ ad.block) : PNew k W 3 m (factsF 0 a cap (onesL m)) (oneP 3 m) := by
  rw [one_3]
  exact new_facts (.facts m _ _ rfl rfl (ones_good hm)) (by decide) (ones_good hm).r64 hv hl
theorem one_f4 {m : Nat} {a : Option Addr} {cap : Nat} (hm : m ≤ 64) (hv : CRow W a (unitC m)) (hl : ∀ ad, a = some ad → k ≤ ad.block) : PNew k W 4 m (cellsF a cap (unitC m)) (oneP 4 m) := by
  have h := val_unit hm
  rw [one_4]
  exact new_cells (.cells m _ rfl rfl h) h.bits (by have := h.len; unfold maxLen; omega) hv hl
theorem dim3 {t : Int} {l : Nat} (h : plainB t n l = true) (ht : t = 3 ∨ t = 4) : ∃ m : Nat, n = m ∧ m ≤ 64 := by
  obtain ⟨d0, _, _, d3⟩ := plainB_dim h
  exact ⟨n.toNat, by omega, by have := d3 ht; omega⟩
theorem Tabs.c {w : World} (h : Tabs w) : TabC w := ⟨h.ctz⟩
end
def SIs (w : World) : PS → SF → Prop
  | .one t n, f => ∃ a c, f = ⟨t, n, a, 0, c⟩
  | .two t n u m, f => ∃ b off c a1 c1 a2 c2, f = ⟨5, 0, some ⟨b, off, none⟩, 2, c⟩ ∧ S3 w b off ⟨t, n, a1, 0, c1⟩ ∧ S3 w b (off + 3) ⟨u, m, a2, 0, c2⟩
theorem SIs.below {w w' : World} {S : PS} {f : SF} (h : SIs w S f) (hb : Below w.heap.size w w') : SIs w' S f := by
  cases S with
  | one t n => exact h
  | two t n u m =>
    obtain ⟨b, off, c, a1, c1, a2, c2, h1, h2, h3⟩ := h
    exact ⟨b, off, c, a1, c1, a2, c2, h1, h2.below hb, h3.below hb⟩
def isNew (lo : Nat) (S : PS) (x : PX) : Asr := fun v w => ∃ f : WF, v = f.val ∧ XNew lo w S f x
theorem stab_isNew {lo : Nat} {S : PS} {x : PX} : Stab (isNew lo S x) := fun v w w' ⟨f, h1, h2⟩ hb => ⟨f, h1, h2.below hb⟩
theorem wret_gives {P : Program} {f : FuncId} {vs : Array Value} {w : World} {S : PS} {x : PX} {lo : Nat} (hlo : lo ≤ w.heap.size) (h : Calls P f vs w (WRet S x w)) : Calls P f vs w (Gives (isNew lo S x) w) := h.mono fun e w' ⟨f, he, hn, hb⟩ => ⟨f.val, he, ⟨f, rfl, hn.mono hlo⟩, hb⟩
theorem holds2 {p q : Asr} {vs : List Value} {w : World} (h : Holds [p, q] vs w) : ∃ a b, vs = [a, b] ∧ p a w ∧ q b w := by
  match vs, h with
  | [a, b], h => exact ⟨a, b, rfl, h.1, h.2.1⟩
theorem pair_gives {w : World} {lo : Nat} {t n u m : Int} {a b : PF} {vs : List Value} (hlo : lo ≤ w.heap.size) (h : Holds [isNew lo (.one t n) (.one a), isNew lo (.one u m) (.one b)] vs w) : Calls Tryz.prog 67 vs.toArray w (Gives (isNew lo (.two t n u m) (.two a b)) w) := by
  obtain ⟨v1, v2, rfl, ⟨f, rfl, hf⟩, g, rfl, hg⟩ := holds2 h
  refine (pair_is f g w).mono ?_
  rintro e w' ⟨blk, rfl, h6, h7, hb1, hb⟩
  exact ⟨_, rfl, ⟨pairF blk, rfl, pair_new h6 h7 (Nat.le_trans hlo hb1) (PNew.below hf hb) (PNew.below hg hb)⟩, hb⟩
end Go.Proofs.YtjcminoaiieckaaGreatDoor
namespace Go.Proofs.YtjcminoaiieckaaGreatDoor
open Go.RowKit
set_option linter.unusedVariables false
attribute [local go_sem ↓] Go.wp_at_zero Go.wp_at_succ
theorem urow_of_own {w : World} {base : Nat} {v : Value} {n : Nat} {rows : List Nat} (h : w.ownsRow base 26 1 v n (u64s rows)) :
    n = rows.length ∧ ∃ a cap, v = .slice a n cap ∧ VRow w a (u64s rows) ∧ ∀ ad, a = some ad → base ≤ ad.block := by
  have hl := h.1
  rw [u64s_length] at hl
  refine ⟨by omega, ?_⟩
  rcases h.2 with ⟨rfl, hn⟩ | ⟨g, cap, cur, rfl, hg, hh, h1, h2, h3, h4⟩
  · have : rows = [] := List.length_eq_zero_iff.1 (by omega)
    subst this
    exact ⟨none, 0, by rw [hn], .inl rfl, fun ad e => by cases e⟩
  · refine ⟨some ⟨g, 0, none⟩, cap, rfl, .inr ⟨g, 0, rfl, fun i u hi => ?_⟩, fun ad e => by cases e; exact hg⟩
    rw [← h4] at hi
    rw [List.getElem?_take] at hi
    split at hi
    · unfold World.cell?
      simp only [hh, Nat.zero_add]
      simpa using hi
    · cases hi
theorem PIs.rows64 {w : World} {t n : Int} {l : Nat} {f : WF} {a : PF} (h : PIs w t n f a) : f.rl ≤ 64 ∧ f.cl ≤ 64 := by
  have h1 := h.at_.rl; have h2 := h.at_.cl; have h3 := h.pf; have h4 := h.ok
  subst h3
  unfold WF.pf at h4
  generalize hr : f.rows = rows at *
  generalize hc : f.cells = cells at *
  generalize f.g = g at *
  generalize f.z = z at *
  generalize f.c = c at *
  have key : rows.length ≤ 64 ∧ cells.length ≤ 64 := by
    generalize hp : (⟨z, c, g, rows, cells⟩ : PF) = p at h4
    cases h4 with
    | zero => cases hp; exact ⟨by decide, by decide⟩
    | bool h => cases hp; exact ⟨by decide, by decide⟩
    | cost c h h0 h1 => cases hp; exact ⟨by decide, by decide⟩
    | facts m g rows h hn hg => cases hp; exact ⟨by rw [hg.hl]; exact hg.hm, by decide⟩
    | cells m cs h hn hv => cases hp; exact ⟨by decide, by rw [hv.len]; exact hv.le⟩
  omega
theorem cclone_is (a : Option Addr) (cap : Nat) (cs : List Cl) (w : World) (hm : cs.length ≤ 64) (hrow : CRow w a cs) (n : Nat) (hn : cs.length = n) :
    Calls Tryz.prog 83 #[.slice a n cap] w fun e w' => ∃ a2 c2, e = .returned (.slice a2 n c2) ∧ CRow w' a2 cs ∧ (∀ ad, a2 = some ad → w.heap.size ≤ ad.block) ∧ Below w.heap.size w w' := by
  subst hn
  refine (clone_any a cap cs w hm hrow).mono ?_
  rintro e w' ⟨v, rfl, hown, hb⟩
  obtain ⟨_, a2, c2, rfl, hr, hl⟩ := crow_of_own hown
  exact ⟨a2, c2, rfl, hr, fun ad e => (hl ad e).1, hb⟩
set_option maxRecDepth 100000 in
set_option maxHeartbeats 4000000 in
theorem copied_plain (t n : Int) (f : WF) (x : PF) (w : World) (h : PIs w t n f x) :
    Calls Tryz.prog 55 #[f.val] w fun e w' => ∃ g : WF, e = .returned g.val ∧ PNew w.heap.size w' t n g x ∧ Below w.heap.size w w' := by
  obtain ⟨r64, c64⟩ := h.rows64 (l := 0)
  have HI := Lib.hid h
  have hrl := h.at_.rl; have hcl := h.at_.cl; have hpl := h.pl
  obtain ⟨z, c, g, ra, rl, rc, rows, ca, cl, cc, cells, pa, pl, pc⟩ := f
  dsimp only at hrl hcl hpl r64 c64
  subst hpl
  show Calls Tryz.prog 55 #[.agg #[.bool z, .int .i64 c, .int .u64 (g : Int), .slice ra rl rc, .slice ca cl cc, .slice pa 0 pc]] w _
  have HRL := Lib.hid hrl; have HCL := Lib.hid hcl
  obtain ⟨t0, t1⟩ := two_boxes2 w #[.bool z, .int .i64 c, .int .u64 (g : Int), .slice ra rl rc, .slice ca cl cc, .slice pa 0 pc] #[.bool false, .int .i64 0, .int .u64 0, .slice none 0 0, .slice none 0 0, .slice none 0 0] 33 33
  have T0 := Lib.hid t0; have T1 := Lib.hid t1
  have hB := Lib.hid (wbox w #[.bool z, .int .i64 c, .int .u64 (g : Int), .slice ra rl rc, .slice ca cl cc, .slice pa 0 pc] #[.bool false, .int .i64 0, .int .u64 0, .slice none 0 0, .slice none 0 0, .slice none 0 0] 33 33)
  have hsz : ((w.alloc (.cells #[.bool z, .int .i64 c, .int .u64 (g : Int), .slice ra rl rc, .slice ca cl cc, .slice pa 0 pc] 33)).alloc (.cells #[.bool false, .int .i64 0, .int .u64 0, .slice none 0 0, .slice none 0 0, .slice none 0 0] 33)).heap.size = w.heap.size + 1 + 1 := by simp
  obtain ⟨W0, hW0⟩ : ∃ W, (w.alloc (.cells #[.bool z, .int .i64 c, .int .u64 (g : Int), .slice ra rl rc, .slice ca cl cc, .slice pa 0 pc] 33)).alloc (.cells #[.bool false, .int .i64 0, .int .u64 0, .slice none 0 0, .slice none 0 0, .slice none 0 0] 33) = W := ⟨_, rfl⟩
  rw [hW0] at hB T0 T1 hsz
  have HSZ := Lib.hid hsz
  obtain ⟨x0, x1, x2, x3, x4, x5⟩ := six_cells T0.out
  have HAT : Hid (WF.At w ⟨z, c, g, ra, rl, rc, rows, ca, cl, cc, cells, pa, 0, pc⟩) := h.at_
  have R64 := Lib.hid r64; have C64 := Lib.hid c64
  clear t0 t1 hsz h hrl hcl r64 c64
  go_enter Tryz.func55, Tryz.ntmps55
  go_wp2_with fail
  refine (clone_is ra rc rows _ (by rw [HRL.out]; exact Nat.le_trans R64.out (by decide)) (HAT.out.rows.below hB.out) rl HRL.out).mono ?_
  rintro e w1 ⟨v, rfl, hown, hb1⟩
  obtain ⟨a1, c1, rfl, hv1, hl1⟩ := (urow_of_own hown).2
  have HV1 := Lib.hid hv1; have HL1 := Lib.hid hl1
  clear hown hv1 hl1 x0 x1 x2 x3 x4 x5
  have U0 := Lib.hid (heap_old T0.out hb1); have U1 := Lib.hid (heap_old T1.out hb1)
  have hB1 := Lib.hid (hB.out.trans (hb1.mono hB.out.size))
  obtain ⟨x0, x1, x2, x3, x4, x5⟩ := six_cells U0.out
  have f3 := six_frozen U0.out 3
  have V0 := Lib.hid (heap_setCell_same w1 w.heap.size 3 _ _ (.slice a1 rl c1) U0.out)
  have hne : w.heap.size + 1 ≠ w.heap.size := by omega
  have V1 := Lib.hid (heap_other (B := w.heap.size) (j := 3) (c := .slice a1 rl c1) U1.out hne)
  have hB2 := Lib.hid (hB1.out.setCell (p := ⟨w.heap.size, 3, none⟩) (Nat.le_refl _) (.slice a1 rl c1))
  have hs1 : W0.heap.size ≤ (w1.setCell ⟨w.heap.size, 3, none⟩ (.slice a1 rl c1)).heap.size := by simpa [World.setCell] using hb1.size
  have HS1 := Lib.hid hs1
  obtain ⟨W1, hW1⟩ : ∃ W, w1.setCell ⟨w.heap.size, 3, none⟩ (.slice a1 rl c1) = W := ⟨_, rfl⟩
  have HA1 := Lib.hid (HV1.out.above HL1.out ((Above.refl W0.heap.size w1).setCell (p := ⟨w.heap.size, 3, none⟩) (by have := HSZ.out; show w.heap.size < _; omega) (.slice a1 rl c1)))
  rw [hW1] at V0 V1 hB2 HS1 HA1
  clear hs1 hne x0 x1 x2 x4 x5
  obtain ⟨y0, y1, y2, y3, y4, y5⟩ := six_cells V0.out
  go_wp2_with fail
  refine (cclone_is ca cc cells _ (by rw [HCL.out]; exact C64.out) (HAT.out.cells.below hB2.out) cl HCL.out).mono ?_
  rintro e w2 ⟨a2, c2, rfl, hv2, hl2, hb2⟩
  have HV2 := Lib.hid hv2; have HL2 := Lib.hid hl2
  clear hv2 hl2 x3 y0 y1 y2 y3 y4 y5 f3
  have Y0 := Lib.hid (heap_old V0.out hb2); have Y1 := Lib.hid (heap_old V1.out hb2)
  obtain ⟨x0, x1, x2, x3, x4, x5⟩ := six_cells Y0.out
  have f4 := six_frozen Y0.out 4
  have hB3 := Lib.hid (hB2.out.trans (hb2.mono hB2.out.size))
  have Z0 := Lib.hid (heap_setCell_same w2 w.heap.size 4 _ _ (.slice a2 cl c2) Y0.out)
  have hne : w.heap.size + 1 ≠ w.heap.size := by omega
  have Z1 := Lib.hid (heap_other (B := w.heap.size) (j := 4) (c := .slice a2 cl c2) Y1.out hne)
  have hB4 := Lib.hid (hB3.out.setCell (p := ⟨w.heap.size, 4, none⟩) (Nat.le_refl _) (.slice a2 cl c2))
  have HR1 := Lib.hid ((HA1.out.below hb2).above HL1.out ((Above.refl W0.heap.size w2).setCell (p := ⟨w.heap.size, 4, none⟩) (by have := HSZ.out; show w.heap.size < _; omega) (.slice a2 cl c2)))
  have HL3 : Hid (∀ ad, a2 = some ad → W0.heap.size ≤ ad.block) := fun ad e => Nat.le_trans HS1.out (HL2.out ad e)
  have HR2 := Lib.hid (HV2.out.above HL3.out ((Above.refl W0.heap.size w2).setCell (p := ⟨w.heap.size, 4, none⟩) (by have := HSZ.out; show w.heap.size < _; omega) (.slice a2 cl c2)))
  obtain ⟨W2, hW2⟩ : ∃ W, w2.setCell ⟨w.heap.size, 4, none⟩ (.slice a2 cl c2) = W := ⟨_, rfl⟩
  rw [hW2] at Z0 Z1 hB4 HR1 HR2
  clear hne
  obtain ⟨p0, p1, p2, p3, p4, p5⟩ := six_cells Z0.out
  have f5 := six_frozen Z0.out 5
  go_wp2_with fail
  go_loopw [3, 19] (fun p i wr => p = .slice none 0 0 ∧ i = .int .i64 0 ∧ W2 = wr) (fun _ _ _ => 0)
  case atStart => exact ⟨rfl, rfl, rfl⟩
  case round =>
    obtain ⟨rfl, rfl, rfl⟩ := hrel
    have N0 := Lib.hid (heap_setCell_same W2 w.heap.size 5 _ _ (.slice none 0 0) Z0.out)
    have hne : w.heap.size + 1 ≠ w.heap.size := by omega
    have N1 := Lib.hid (heap_other (B := w.heap.size) (j := 5) (c := .slice none 0 0) Z1.out hne)
    obtain ⟨W3, hW3⟩ : ∃ W, W2.setCell ⟨w.heap.size, 5, none⟩ (.slice none 0 0) = W := ⟨_, rfl⟩
    rw [hW3] at N0 N1
    have K0 := N0.out
    obtain ⟨q0, q1, q2, q3, q4, q5⟩ := six_cells N0.out
    obtain ⟨r0, r1, r2, r3, r4, r5⟩ := six_cells N1.out
    have g0 := six_frozen N1.out 0; have g1 := six_frozen N1.out 1; have g2 := six_frozen N1.out 2; have g3 := six_frozen N1.out 3; have g4 := six_frozen N1.out 4; have g5 := six_frozen N1.out 5
    have hA3 : Above W0.heap.size W2 W3 := by rw [← hW3]; exact (Above.refl W0.heap.size W2).setCell (p := ⟨w.heap.size, 5, none⟩) (by have := HSZ.out; show w.heap.size < _; omega) _
    have HA3 := Lib.hid hA3
    have hB5 : Hid (Below w.heap.size w W3) := by show Below _ _ _; rw [← hW3]; exact hB4.out.setCell (p := ⟨w.heap.size, 5, none⟩) (Nat.le_refl _) _
    clear K0 hne hA3
    go_wp2_with fail
    have NS := Lib.hid (six_set (v0 := .bool z) (v1 := .int .i64 c) (v2 := .int .u64 (g : Int)) (v3 := .slice a1 rl c1) (v4 := .slice a2 cl c2) (v5 := .slice none 0 0) N1.out)
    obtain ⟨s0, s1, s2, s3, s4, s5⟩ := six_cells NS.out
    have hlt := HSZ.out
    refine bodyPost_ret (v := .agg #[.bool z, .int .i64 c, .int .u64 (g : Int), .slice a1 rl c1, .slice a2 cl c2, .slice none 0 0]) ?_ rfl ⟨⟨z, c, g, a1, rl, c1, rows, a2, cl, c2, cells, none, 0, 0⟩, rfl, ?_, put6_below _ _ _ _ _ _ hB5.out (Nat.le_succ _)⟩
    rotate_left
    · have hA6 := put6_above (.bool z) (.int .i64 c) (.int .u64 (g : Int)) (.slice a1 rl c1) (.slice a2 cl c2) (.slice none 0 0) HA3.out (B := w.heap.size + 1) (by omega)
      have hAt := WF.At.mk (f := ⟨z, c, g, a1, rl, c1, rows, a2, cl, c2, cells, none, 0, 0⟩) (HR1.out.above HL1.out hA6) HRL.out HAT.out.g64 HAT.out.r64 (HR2.out.above HL3.out hA6) HCL.out HAT.out.bits HAT.out.cmax
      have hPf : WF.pf ⟨z, c, g, a1, rl, c1, rows, a2, cl, c2, cells, none, 0, 0⟩ = x := HI.out.pf
      exact (PNew.mk (n := W0.heap.size) ⟨hAt, hPf, HI.out.ok, rfl⟩ HL1.out HL3.out).mono (by omega)
    · simp [results, Tryz.results55, go_sem, s0, s1, s2, s3, s4, s5]
end Go.Proofs.YtjcminoaiieckaaGreatDoor
