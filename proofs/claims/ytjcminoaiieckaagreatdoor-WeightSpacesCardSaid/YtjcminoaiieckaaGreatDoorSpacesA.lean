import Derived.Lib.TrailingZeros
import Derived.Laws.OwnMore
import Derived.OwnWalk
import Derived.IntWalk
import Derived.Laws.Tables
import Derived.Laws.Concat
import Derived.Laws.MakeOwn
import Derived.Test.YtjcminoaiieckaaGreatDoorProg
import Derived.Test.YtjcminoaiieckaaGreatDoorRingA
import Derived.Test.YtjcminoaiieckaaGreatDoorRingB
import Derived.Test.YtjcminoaiieckaaGreatDoorRingC
import Derived.Test.YtjcminoaiieckaaGreatDoorRingD
set_option linter.unusedVariables false
set_option linter.unusedSimpArgs false
set_option linter.unusedSectionVars false
set_option linter.unnecessarySimpa false
namespace Go.Proofs.YtjcminoaiieckaaGreatDoor
def lanes (c : Nat) : Nat → Nat
  | 0 => 0
  | m + 1 => 256 * lanes c m + c
def py (m x : Nat) : Nat := (x / 2 &&& lanes 85 m) + (x &&& lanes 85 m)
end Go.Proofs.YtjcminoaiieckaaGreatDoor
namespace Go.Proofs.YtjcminoaiieckaaGreatDoor
open Go.RowKit
set_option linter.unusedVariables false
theorem worth_at (i : Int) (j v : Nat) (hj : i.toNat = j) (hv : 2 ^ j = v) (hi : i ≤ 63) (w : World) : Calls Tryz.prog 69 #[.int .i64 i] w fun e w' => e = .returned (.int .u64 v) ∧ w = w' := by
  subst hv hj; exact worth_any i hi w
end Go.Proofs.YtjcminoaiieckaaGreatDoor
namespace Go.Proofs.YtjcminoaiieckaaGreatDoor
open Go.RowKit
set_option linter.unusedVariables false
set_option maxRecDepth 100000 in
set_option maxHeartbeats 4000000 in
theorem oneR_is (n : Int) (w : World) (e0 : Int) (he : oneE n = e0) (ys : List Nat) (hys : oneV n = ys) :
    Calls Tryz.prog 68 #[.int .i64 n] w (FOwn 0 ys e0 w) := by
  have hB0 : Below w.heap.size w (w.alloc (.cells #[.int .u64 0, .slice none 0 0] 29)) := (Below.refl _ _).alloc (Nat.le_refl _) _
  have T0 := Lib.hid (heapV_new w (.cells #[.int .u64 0, .slice none 0 0] 29))
  obtain ⟨i0, hi, hz0, hz1, hz2⟩ := info_parts infoU
  cases hd : dimB n
  · obtain rfl : 31 = e0 := by rw [← he, oneE, hd]; rfl
    obtain rfl : [] = ys := by rw [← hys, oneV, hd]; rfl
    have HD := Lib.hid hd
    obtain ⟨d0, d1, df⟩ := two_cells T0.out
    have f0 := df 0; have f1 := df 1
    clear df hd he hys
    go_enter Tryz.func68, Tryz.ntmps68
    go_wp2_with fail
    refine (dim_is n false HD.out _).mono ?_
    rintro e w1 ⟨rfl, rfl⟩
    go_wp2
    refine bodyPost_ret (v := .tuple #[.agg #[.int .u64 0, .slice none 0 0], .int .i64 31]) ?_ rfl (fown_nil 31 hB0)
    simp [results, Tryz.results68, go_sem, d0, d1]
  · have HD := Lib.hid hd
    obtain ⟨m, rfl, hm⟩ := dim_nat hd
    obtain rfl : 0 = e0 := by rw [← he, oneE, hd]; rfl
    have HY : Hid (onesL m = ys) := by show _ = _; rw [← hys, oneV, hd, if_pos rfl, Int.toNat_natCast]
    have HYL : Hid (ys.length = m) := by show _ = _; rw [← HY.out, onesL_length]
    clear hd he hys
    obtain ⟨t0, t1⟩ := two_boxes w #[.int .u64 0, .slice none 0 0] #[.int .u64 0, .slice none 0 0] 29
    have A0 := Lib.hid t0; have A1 := Lib.hid t1
    clear t0 t1
    go_enter Tryz.func68, Tryz.ntmps68
    go_wp2_with fail
    refine (dim_is m true HD.out _).mono ?_
    rintro e w1 ⟨rfl, rfl⟩
    go_wp2_with fail
    go_loopw [5] (fun i wr => ∃ (k : Nat) (v : Value), k ≤ m ∧ i = .int .i64 k ∧ Hid (wr.heap[w.heap.size]? = some (.cells #[.int .u64 0, .slice none 0 0] 29 (0, 0))) ∧ Hid (wr.heap[w.heap.size + 1]? = some (.cells #[.int .u64 0, v] 29 (0, 0))) ∧ Hid (wr.ownsRow w.heap.size 26 1 v k (u64s (ys.take k))) ∧ Below w.heap.size w wr) (fun i _ => m - (intOf i).toNat)
    case atStart => exact ⟨0, .slice none 0 0, Nat.zero_le _, rfl, A0, A1, World.ownsRow_nil _ _ _ _, hB0.alloc (by simp) _⟩
    case round =>
      obtain ⟨k, v, hk, rfl, B1, B2, HO, hb⟩ := hrel
      obtain ⟨e0, e1, ef⟩ := two_cells B2.out
      have ef1 := ef 1
      by_cases hlt : k < m
      · obtain ⟨y, hy⟩ : ∃ y : Nat, 2 ^ k = y := ⟨_, rfl⟩
        have HYK := Lib.hid hy
        have HT : Hid (ys.take (k + 1) = ys.take k ++ [y]) := by
          show _ = _
          have h2 : ys[k]? = some y := by rw [← HY.out, onesL_at hlt, hy]
          obtain ⟨hk2, e⟩ := List.getElem?_eq_some_iff.1 h2
          rw [List.take_succ_eq_append_getElem hk2, e]
        have q1 : (wr.alloc (.cells #[.int .u64 (y : Int)] 26)).cell? ⟨w.heap.size + 1, 1, none⟩ = some v := (two_cells (heap_allocd B2.out _)).2.1
        clear hy ef
        go_wp2_with fail
        go_region_law (first | (refine step_append_lies (wr.drew.alloc (.cells #[.int .u64 (y : Int)] 26)) ?_ (.tmp 17) (.tmp 20) 27 ?_ w.heap.size 26 i0 _ 1 8 Tryz.underlying27 hi hz0 hz1 hz2 ?_ ?_ v k (u64s (ys.take k)) ?_ ?_ ⟨wr.heap.size, 0, none⟩ 1 1 [.int .u64 (y : Int)] ?_ ?_ ?_ ?_ ?_ ?_ ?_ ?_ (wr.heap.size + 1) ?_ ?_; rfl; rfl; rfl; omega; rfl; exact (HO.out : (wr.drew).ownsRow _ _ _ _ _ _).alloc _; rfl; rfl; exact (World.news_of_block (cs := #[.int .u64 (y : Int)]) (t := 26) (fr := (0, 0)) (heapV_new wr.drew _)); simp [Value.oneCell']; omega; (unfold maxLen; omega); omega; (have := hb.size; simp; omega); simp; intro gg cp w5 hown1 hgrow hat hlt5; have hB4 : Below w.heap.size w w5 := (hb.drew.alloc hb.size _).grown hgrow (by have := hb.size; simp; omega) (fun j e => (HO.out.lt j e).1); have D1 := Lib.hid (heap_grown (heap_allocd (w := wr.drew) B1.out (.cells #[.int .u64 (y : Int)] 26)) (by decide) ((HO.out : (wr.drew).ownsRow _ _ _ _ _ _).alloc _) hgrow); have D2 := Lib.hid (heap_grown (heap_allocd (w := wr.drew) B2.out (.cells #[.int .u64 (y : Int)] 26)) (by decide) ((HO.out : (wr.drew).ownsRow _ _ _ _ _ _).alloc _) hgrow); obtain ⟨_, d1, df⟩ := two_cells D2.out; have df1 := df 1; clear df) | (go_simp; go_at_call 69; refine (worth_at k k y rfl HYK.out (by omega) _).mono ?_; rintro e w3 ⟨rfl, rfl⟩) | fail)
        all_goals
          have HO5 := Lib.hid (show (w5.setCell ⟨w.heap.size + 1, 1, none⟩ (.slice (some ⟨gg, 0, none⟩) (k + 1) cp)).ownsRow w.heap.size 26 1 (.slice (some ⟨gg, 0, none⟩) (k + 1) cp) (k + 1) (u64s (ys.take (k + 1))) by
            rw [HT.out, u64s_snoc]; exact hown1.kept (grownBy_set w5 _ _ _) (.inr (not_row D2.out (by decide) hown1).symm))
          have N1 := Lib.hid (heap_other (B := w.heap.size + 1) (j := 1) (c := .slice (some ⟨gg, 0, none⟩) (k + 1) cp) D1.out (by omega))
          have N2 := Lib.hid (two_set1 (c := .slice (some ⟨gg, 0, none⟩) (k + 1) cp) D2.out)
          have NB := Lib.hid (hB4.setCell (p := ⟨w.heap.size + 1, 1, none⟩) (by simp) (.slice (some ⟨gg, 0, none⟩) (k + 1) cp))
          clear hown1 hgrow hat d1 df1 q1 e0 e1 ef1
          go_wp2
          go_roundw
          case rel => exact ⟨k + 1, _, by omega, by go_num, N1, N2, HO5, NB.out⟩
          case measure => simp [intOf]; omega
      · obtain rfl : k = m := by omega
        obtain ⟨r0, r1, rf⟩ := two_cells B1.out
        have rf0 := rf 0; have rf1 := rf 1
        have HO2 : Hid (wr.ownsRow w.heap.size 26 1 v k (u64s ys)) := by
          have := HO.out
          rwa [List.take_of_length_le (by rw [HYL.out]; exact Nat.le_refl _)] at this
        obtain ⟨a3, cap3, hv3⟩ := own_slice HO2.out
        subst hv3
        have N1 := Lib.hid (two_set1 (c := .slice a3 k cap3) (two_set0 (c := .int .u64 0) B1.out))
        obtain ⟨s0, s1, _⟩ := two_cells N1.out
        have HO5 := Lib.hid ((HO2.out.kept (grownBy_set _ _ 0 (.int .u64 0)) (.inr (not_row B1.out (by decide) HO2.out).symm)).kept (grownBy_set _ w.heap.size 1 (.slice a3 k cap3)) (.inr (not_row B1.out (by decide) HO2.out).symm))
        have HB5 := Lib.hid ((hb.setCell (p := ⟨w.heap.size, 0, none⟩) (Nat.le_refl _) (.int .u64 0)).setCell (p := ⟨w.heap.size, 1, none⟩) (Nat.le_refl _) (.slice a3 k cap3))
        clear rf ef
        go_wp2
        refine bodyPost_ret (v := .tuple #[.agg #[.int .u64 0, .slice a3 k cap3], .int .i64 0]) ?_ rfl (fown_own (gen := 0) HO5.out HB5.out 0)
        simp [results, Tryz.results68, go_sem, s0, s1]
end Go.Proofs.YtjcminoaiieckaaGreatDoor
namespace Go.Proofs.YtjcminoaiieckaaGreatDoor
open Go.RowKit
set_option linter.unusedVariables false
theorem flat_snoc (cs : List Cl) (c : Cl) : flat (cs ++ [c]) = flat cs ++ vals c := by simp [flat]
end Go.Proofs.YtjcminoaiieckaaGreatDoor
namespace Go.Proofs.YtjcminoaiieckaaGreatDoor
open Go.RowKit
set_option linter.unusedVariables false
theorem sameCl_eq {x y : Cl} : sameCl x y = true ↔ x = y := by
  obtain ⟨f, k, v⟩ := x; obtain ⟨f2, k2, v2⟩ := y
  simp [sameCl, and_assoc]
def sameC (xs ys : List Cl) : Bool := if xs.length = ys.length then (List.range xs.length).all fun i => match xs[i]?, ys[i]? with | some x, some y => sameCl x y | _, _ => true else false
theorem sameC_iff {xs ys : List Cl} : sameC xs ys = true ↔ xs = ys := by
  unfold sameC
  split
  · rename_i hl
    rw [List.all_eq_true]
    constructor
    · intro h
      apply List.ext_getElem? 
      intro i
      by_cases hi : i < xs.length
      · have := h i (List.mem_range.2 hi)
        rw [List.getElem?_eq_getElem hi, List.getElem?_eq_getElem (hl ▸ hi)] at this ⊢
        simp only at this
        rw [sameCl_eq.1 this]
      · rw [List.getElem?_eq_none (by omega), List.getElem?_eq_none (by omega)]
    · rintro rfl i hi
      have hi := List.mem_range.1 hi
      rw [List.getElem?_eq_getElem hi]
      exact sameCl_eq.2 rfl
  · rename_i hl
    simp
    intro e; exact hl (by rw [e])
theorem sameC_take {xs ys : List Cl} {k : Nat} {x y : Cl} (hl : xs.length = ys.length) (hk : k < xs.length) (hx : xs[k]? = some x) (hy : ys[k]? = some y) (h : sameCl x y = false) : sameC xs ys = false := by
  cases hs : sameC xs ys
  · rfl
  · rw [sameC_iff] at hs
    subst hs
    rw [hx] at hy
    cases hy
    rw [sameCl_eq.2 rfl] at h; cases h
end Go.Proofs.YtjcminoaiieckaaGreatDoor
namespace Go.Proofs.YtjcminoaiieckaaGreatDoor
open Go.RowKit
set_option linter.unusedVariables false
set_option maxRecDepth 100000 in
set_option maxHeartbeats 2000000 in
theorem equal_any (a b : Option Addr) (capa capb : Nat) (xs ys : List Cl) (w : World) (hm : xs.length ≤ maxLen) (hmb : ys.length ≤ maxLen) (hra : CRow w a xs) (hrb : CRow w b ys) (s : Bool) (hs : sameC xs ys = s) :
    Calls Tryz.prog 76 #[.slice a xs.length capa, .slice b ys.length capb] w fun e w' => e = .returned (.bool s) ∧ Below w.heap.size w w' := by
  unfold maxLen at hm hmb
  have HRA := Lib.hid hra; have HRB := Lib.hid hrb; have HS := Lib.hid hs
  clear hra hrb hs
  by_cases hl : xs.length = ys.length
  · have g1 : xs.length ≤ ys.length := by omega
    have g2 : ys.length ≤ xs.length := by omega
    have hne : ((xs.length : Int) != (ys.length : Int)) = false := by simp; omega
    have HL := Lib.hid hl
    clear hl
    go_enter Tryz.func76, Tryz.ntmps76
    go_wp2
    go_loopw [13] (fun i wr => ∃ k : Nat, k ≤ xs.length ∧ i = .int .i64 k ∧ Hid (∀ (j : Nat) x y, j < k → xs[j]? = some x → ys[j]? = some y → x = y) ∧ Below w.heap.size w wr) (fun i _ => xs.length - (intOf i).toNat)
    case atStart => exact ⟨0, Nat.zero_le _, rfl, (fun j x y h => by omega), Below.refl _ _⟩
    case round =>
      obtain ⟨k, hk, rfl, HE, hb⟩ := hrel
      by_cases hlt : k < xs.length
      · obtain ⟨ba, offa, x, rfl, hx, hba, a0, a1, a2⟩ := (HRA.out.below hb).at_ hlt
        obtain ⟨bb, offb, y, rfl, hy, hbb, b0, b1, b2⟩ := (HRB.out.below hb).at_ (show k < ys.length by omega)
        have g0 : (0 : Int) ≤ (k : Int) := by omega
        have g3 : (k : Int) < (xs.length : Int) := by omega
        have g4 : (k : Int) < (ys.length : Int) := by omega
        cases hxy : sameCl x y
        · have hq : ∀ W, (binOp .neq 73 (.agg #[.int .u64 (x.f : Int), .int .i64 x.k, .int .i64 x.v]) (.agg #[.int .u64 (y.f : Int), .int .i64 y.k, .int .i64 y.v])).run Tryz.prog W = .ok (.bool true) W := fun W => neq_is x y false hxy W
          have HT : Hid (s = false) := HS.out.symm.trans (sameC_take HL.out hlt hx hy hxy)
          clear hx hy hxy
          go_wp2
          go_quiet (fail)
          go_wp2
          go_ret
          exact ⟨ce_rbool HT.out.symm, below_drewN hb _⟩
        · have hq : ∀ W, (binOp .neq 73 (.agg #[.int .u64 (x.f : Int), .int .i64 x.k, .int .i64 x.v]) (.agg #[.int .u64 (y.f : Int), .int .i64 y.k, .int .i64 y.v])).run Tryz.prog W = .ok (.bool false) W := fun W => neq_is x y true hxy W
          have HE2 : Hid (∀ (j : Nat) x y, j < k + 1 → xs[j]? = some x → ys[j]? = some y → x = y) := by
            intro j x' y' hj h1 h2
            by_cases e : j = k
            · subst e
              rw [hx] at h1; rw [hy] at h2
              cases h1; cases h2
              exact sameCl_eq.1 hxy
            · exact HE.out j x' y' (by omega) h1 h2
          clear hx hy hxy
          go_wp2
          go_quiet (fail)
          go_wp2
          go_roundw
          case rel => exact ⟨k + 1, by omega, by go_num, HE2, below_drewN hb _⟩
          case measure => simp [intOf]; omega
      · have HT : Hid (s = true) := by
          show s = true
          rw [← HS.out, sameC_iff]
          apply List.ext_getElem?
          intro i
          by_cases hi : i < xs.length
          · have h1 := List.getElem?_eq_getElem hi
            have h2 := List.getElem?_eq_getElem (show i < ys.length by omega)
            rw [h1, h2, HE.out i _ _ (by omega) h1 h2]
          · rw [List.getElem?_eq_none (by omega), List.getElem?_eq_none (by omega)]
        go_wp2
        go_ret
        exact ⟨ce_rbool HT.out.symm, hb⟩
  · have HT : Hid (s = false) := by
      show s = false
      rw [← HS.out]; simp [sameC, hl]
    have hne : ((xs.length : Int) != (ys.length : Int)) = true := by simp; omega
    clear hl
    go_enter Tryz.func76, Tryz.ntmps76
    go_wp2
    go_ret
    exact ⟨ce_rbool HT.out.symm, Below.refl _ _⟩
end Go.Proofs.YtjcminoaiieckaaGreatDoor
namespace Go.Proofs.YtjcminoaiieckaaGreatDoor
open Go.RowKit
set_option linter.unusedVariables false
theorem unit_snoc {n k : Nat} (hk : k < n) : (unitC n).take (k + 1) = (unitC n).take k ++ [oneAt k] := by
  obtain ⟨h, e⟩ := List.getElem?_eq_some_iff.1 (unit_at hk)
  rw [List.take_succ_eq_append_getElem h, e]
end Go.Proofs.YtjcminoaiieckaaGreatDoor
namespace Go.Proofs.YtjcminoaiieckaaGreatDoor
open Go.RowKit
set_option linter.unusedVariables false
def heightC (d : Int) : Int := if dimC d = 0 then d * (d + 2) else 0
theorem ce_height_any (d : Int) (w : World) (c : Int) (hc : dimC d = c) (h : Int) (hh : heightC d = h) :
    Calls Tryz.prog 71 #[.int .i64 d] w fun e w' => e = .returned (.tuple #[.int .i64 h, .int .i64 c]) ∧ w = w' := by
  have HC := Lib.hid hc
  by_cases h0 : c = 0
  · subst h0
    obtain ⟨n, rfl, hn⟩ := ce_dim_nat hc
    have hm : 0 ≤ (n : Int) * (n + 2) ∧ (n : Int) * (n + 2) ≤ 4224 := by
      constructor
      · exact Int.mul_nonneg (by omega) (by omega)
      · exact Int.le_trans (Int.mul_le_mul (show (n : Int) ≤ 64 by omega) (show (n : Int) + 2 ≤ 66 by omega) (by omega) (by omega)) (by decide)
    obtain ⟨m0, m1⟩ := hm
    have HH := Lib.hid (show h = (n : Int) * (n + 2) by rw [← hh]; simp [heightC, hc])
    clear hc hh
    go_enter Tryz.func71, Tryz.ntmps71
    go_wp2_with (go_at_call 105; refine (checkDim_is _ _ 0 HC.out).mono ?_; rintro e w' ⟨rfl, rfl⟩)
    go_ret2
    exact ⟨by rw [HH.out]; rfl, rfl⟩
  · have hne : (c != 0) = true := by simpa using h0
    obtain rfl : 0 = h := by rw [← hh]; simp [heightC, hc, h0]
    clear hc h0 hh
    go_enter Tryz.func71, Tryz.ntmps71
    go_wp2_with (go_at_call 105; refine (checkDim_is _ _ c HC.out).mono ?_; rintro e w' ⟨rfl, rfl⟩)
    go_ret2
    exact ⟨rfl, rfl⟩
end Go.Proofs.YtjcminoaiieckaaGreatDoor
namespace Go.Proofs.YtjcminoaiieckaaGreatDoor
open Go.RowKit
set_option linter.unusedVariables false
def heightR (limit : Int) : Int := if chk limit [] = 0 then limit + 1 else 0

end Go.Proofs.YtjcminoaiieckaaGreatDoor
namespace Go.Proofs.YtjcminoaiieckaaGreatDoor
open Go.RowKit
set_option linter.unusedVariables false
theorem chk_nil_zero {limit : Int} (h : chk limit [] = 0) : 0 ≤ limit ∧ limit ≤ 1048576 := ⟨(chk_zero h).1, (chk_zero h).2.1⟩

theorem co_height_any (limit : Int) (w : World) : Calls Tryz.prog 70 #[.int .i64 limit] w fun e w' => e = .returned (.tuple #[.int .i64 (heightR limit), .int .i64 (chk limit [])]) ∧ w = w' := by
  by_cases hc : chk limit [] = 0
  · obtain ⟨h1, h2⟩ := chk_nil_zero hc
    have H := Lib.hid hc
    have H1 := Lib.hid (show heightR limit = limit + 1 by simp [heightR, hc])
    clear hc
    go_enter Tryz.func70, Tryz.ntmps70
    go_wp2_with fail
    refine (checkAll_any limit _ 0 [] _ (by simp) (.inl rfl)).mono ?_
    rintro e w1 ⟨rfl, rfl⟩
    rw [H.out]
    go_wp2
    go_ret2
    exact ⟨rtwo H1.out.symm H.out.symm, rfl⟩
  · have H1 := Lib.hid (show heightR limit = 0 by simp [heightR, hc])
    have hne : (chk limit [] != 0) = true := by simpa using hc
    obtain ⟨c, hcc⟩ : ∃ c, c = chk limit [] := ⟨_, rfl⟩
    rw [← hcc] at hne
    have HC := Lib.hid hcc
    clear hc hcc
    go_enter Tryz.func70, Tryz.ntmps70
    go_wp2_with fail
    refine (checkAll_any limit _ 0 [] _ (by simp) (.inl rfl)).mono ?_
    rintro e w1 ⟨rfl, rfl⟩
    rw [← HC.out]
    go_wp2
    go_ret2
    exact ⟨rtwo H1.out.symm HC.out, rfl⟩
end Go.Proofs.YtjcminoaiieckaaGreatDoor
namespace Go.Proofs.YtjcminoaiieckaaGreatDoor
open Go Go.RowKit
set_option linter.unusedVariables false
section
variable {P : Program} {n : Nat} {Q : Exit → Act → World → Prop} {l : Fr} {w0 W : World} {ops : Array Oper} {os : List Oper} {O : Own} {G : Grows} {K : List (Nat × World)}
variable {d : Nat} {ty : TypeId} {pos : String} {aft : Array Edge} {v : Value} {t u : TypeId} {x y : Operand} {k : IntKind} {a b : Int}
theorem rn_eqlB {p q : Bool} (hB : P.underlying t = some .bool) (hx : evL l x = some (.bool p)) (hy : evL l y = some (.bool q)) : Runs P l ⟨some d, .binOp .eql t x y u, ty, pos, aft, none⟩ W (.bool (p == q)) W := fun ev he => binop_run (he x _ hx) (he y _ hy) rfl (run_eql_bool W t p q hB)
theorem op_eqlB {p q : Bool} (hB : P.underlying t = some .bool) (hx : evL l x = some (.bool p)) (hy : evL l y = some (.bool q)) (hd : Nat.blt d n = true) (h : OpsF P n ops Q os ((d, .bool (p == q)) :: l) W) : OpsF P n ops Q (⟨some d, .binOp .eql t x y u, ty, pos, aft, none⟩ :: os) l W := opV (rn_eqlB hB hx hy) hd h
theorem rn_mul {c : Int} (hx : evL l x = some (.int k a)) (hy : evL l y = some (.int k b)) (hw : k.wrap (a * b) = c) : Runs P l ⟨some d, .binOp .mul t x y u, ty, pos, aft, none⟩ W (.int k c) W := fun ev he => by subst hw; exact binop_run (he x _ hx) (he y _ hy) guard_int (by simp [binOp, Op.intArith])
theorem op_mul {c : Int} (hx : evL l x = some (.int k a)) (hy : evL l y = some (.int k b)) (hw : k.wrap (a * b) = c) (hd : Nat.blt d n = true) (h : OpsF P n ops Q os ((d, .int k c) :: l) W) : OpsF P n ops Q (⟨some d, .binOp .mul t x y u, ty, pos, aft, none⟩ :: os) l W := opV (rn_mul hx hy hw) hd h
end
end Go.Proofs.YtjcminoaiieckaaGreatDoor
namespace Go.Proofs.YtjcminoaiieckaaGreatDoor
open Go Go.RowKit
set_option linter.unusedVariables false
section
variable {P : Program} {n : Nat} {Q : Exit → Act → World → Prop} {l : Fr} {w0 W : World} {ops : Array Oper} {os : List Oper} {O : Own} {G : Grows} {K : List (Nat × World)} {L : List Asr} {i : Nat}
variable {d : Nat} {op : Op} {ty : TypeId} {pos : String} {aft : Array Edge} {v : Value} {gd : Option (Nat × Bool)}
def isRow (lo m : Nat) (e : TypeId) (cs : List Value) : Asr := fun v w => ∃ B, v = .slice (some ⟨B, 0, none⟩) m m ∧ lo ≤ B ∧ w.heap[B]? = some (.cells cs.toArray e (0, 0))
theorem stab_isRow {lo m : Nat} {e : TypeId} {cs : List Value} : Stab (isRow lo m e cs) := fun v w w' ⟨B, h1, h2, h3⟩ hb => ⟨B, h1, h2, (hb.block B (lt_of_heap h3)).trans h3⟩
theorem rg_rowV {T e : TypeId} {m s : Nat} {xs : List (Nat × Operand)} {us : List Value} {z : Value} {cs : List Value} (hi : ops[i]? = some ⟨some d, .buildSlice T m xs.toArray, ty, pos, aft, gd⟩) (hw : Wants ops L i ⟨some d, .buildSlice T m xs.toArray, ty, pos, aft, gd⟩)
    (hU : P.underlying T = some (.slice e)) (hs : ∀ w, (sizeOf e).run P w = .ok s w) (hz : ∀ w, (zeroValue e).run P w = .ok z w) (hm : Nat.ble (m * s) 16777216 = true) (hm0 : Nat.beq (m * s) 0 = false) (hp : AllP n ops l L i (xs.map (·.2)) (us.map isV))
    (hf : Instr.fill (fun i => some (i * s, s)) ((Array.range (m * s)).map (z.cells[· % z.cells.size]!)) ((xs.map (·.1)).zip us) = some cs.toArray) (hI : atI L i = isRow W.heap.size m e cs) : RG P n ops Q l W L i :=
  rg_row (us.map isV) hi hw hU hs hz hm hm0 hp fun vs w hb hh => by
    rw [holds_isV hh]
    exact ⟨cs, hf, fun B w' hB h1 h2 => by rw [hI]; exact ⟨B, rfl, by rw [← hB]; exact hb.size, h1⟩⟩
variable {Goal : List Asr → Prop}
end
end Go.Proofs.YtjcminoaiieckaaGreatDoor
namespace Go.Proofs.YtjcminoaiieckaaGreatDoor
open Go Go.RowKit
theorem bld_33 : Tryz.prog.built 33 [] = some #[.bool false, .int .i64 0, .int .u64 0, .slice none 0 0, .slice none 0 0, .slice none 0 0] := by kernel_rfl
theorem bld_33_4 (v4a : Option Addr) (v4l : Nat) (v4c : Nat) : Tryz.prog.built 33 [(4, .slice v4a v4l v4c)] = some #[.bool false, .int .i64 0, .int .u64 0, .slice none 0 0, .slice none 0 0, .slice v4a v4l v4c] := by kernel_rfl
theorem goes_13 : goesIn Tryz.prog 13 = true := by kernel_rfl
theorem goes_15 : goesIn Tryz.prog 15 = true := by kernel_rfl
theorem goes_16 : goesIn Tryz.prog 16 = true := by kernel_rfl
theorem goes_17 : goesIn Tryz.prog 17 = true := by kernel_rfl
theorem goes_20 : goesIn Tryz.prog 20 = true := by kernel_rfl
theorem goes_23 : goesIn Tryz.prog 23 = true := by kernel_rfl
theorem goes_24 : goesIn Tryz.prog 24 = true := by kernel_rfl
theorem goes_25 : goesIn Tryz.prog 25 = true := by kernel_rfl
theorem goes_40 : goesIn Tryz.prog 40 = true := by kernel_rfl
theorem goes_42 : goesIn Tryz.prog 42 = true := by kernel_rfl
theorem goes_43 : goesIn Tryz.prog 43 = true := by kernel_rfl
theorem goes_48 : goesIn Tryz.prog 48 = true := by kernel_rfl
theorem goes_49 : goesIn Tryz.prog 49 = true := by kernel_rfl
theorem goes_50 : goesIn Tryz.prog 50 = true := by kernel_rfl
theorem goes_51 : goesIn Tryz.prog 51 = true := by kernel_rfl
theorem goes_68 : goesIn Tryz.prog 68 = true := by kernel_rfl
theorem goes_70 : goesIn Tryz.prog 70 = true := by kernel_rfl
theorem goes_71 : goesIn Tryz.prog 71 = true := by kernel_rfl
theorem goes_76 : goesIn Tryz.prog 76 = true := by kernel_rfl
end Go.Proofs.YtjcminoaiieckaaGreatDoor
namespace Go.Proofs.YtjcminoaiieckaaGreatDoor
open Go.RowKit
set_option linter.unusedVariables false
def hgtP (t n : Int) : Int := if t = 1 then 1 else if t = 2 then n + 1 else if t = 3 then n * (n + 1) + 1 else if t = 4 then n * (n + 2) + 1 else 0
def hgtX : PS → Int
  | .one t n => hgtP t n
  | .two t n u m => hgtP t n + hgtP u m
theorem hgtP_bound {t n : Int} {l : Nat} (h : plainB t n l = true) : 0 ≤ hgtP t n ∧ hgtP t n ≤ 1048577 := by
  rcases (plainB_cases h).2 with ⟨rfl, hn⟩ | ⟨rfl, h0, h1⟩ | ⟨rfl, m, rfl, hm⟩ | ⟨rfl, m, rfl, hm⟩
  · simp [hgtP]
  · simp [hgtP]; omega
  · have h1 : m * (m + 1) ≤ 64 * 65 := Nat.mul_le_mul hm (by omega)
    have e : ((m * (m + 1) : Nat) : Int) = (m : Int) * ((m : Int) + 1) := by push_cast; rfl
    simp [hgtP]; omega
  · have h1 : m * (m + 2) ≤ 64 * 66 := Nat.mul_le_mul hm (by omega)
    have e : ((m * (m + 2) : Nat) : Int) = (m : Int) * ((m : Int) + 2) := by push_cast; rfl
    simp [hgtP]; omega
end Go.Proofs.YtjcminoaiieckaaGreatDoor
namespace Go.Proofs.YtjcminoaiieckaaGreatDoor
open Go Go.RowKit
set_option linter.unusedVariables false
theorem mul_bound1 {m : Nat} (hm : m ≤ 64) : 0 ≤ (m : Int) * ((m : Int) + 1) ∧ (m : Int) * ((m : Int) + 1) ≤ 4160 := by
  have h1 : m * (m + 1) ≤ 64 * 65 := Nat.mul_le_mul hm (by omega)
  have e : ((m * (m + 1) : Nat) : Int) = (m : Int) * ((m : Int) + 1) := by push_cast; rfl
  omega
theorem mul_bound2 {m : Nat} (hm : m ≤ 64) : 0 ≤ (m : Int) * ((m : Int) + 2) ∧ (m : Int) * ((m : Int) + 2) ≤ 4224 := by
  have h1 : m * (m + 2) ≤ 64 * 66 := Nat.mul_le_mul hm (by omega)
  have e : ((m * (m + 2) : Nat) : Int) = (m : Int) * ((m : Int) + 2) := by push_cast; rfl
  omega
theorem hgtP_1 {t n : Int} (h : t = 1) : hgtP t n = 1 := by unfold hgtP; rw [if_pos h]
theorem hgtP_0 {t n : Int} (h1 : ¬ t = 1) (h2 : ¬ t = 2) (h3 : ¬ t = 3) (h4 : ¬ t = 4) : hgtP t n = 0 := by unfold hgtP; rw [if_neg h1, if_neg h2, if_neg h3, if_neg h4]
theorem costHeight_is {n : Int} {l : Nat} (hp : plainB 2 n l = true) (w : World) : Calls Tryz.prog 70 #[.int .i64 n] w fun e w' => e = .returned (.tuple #[.int .i64 (n + 1), .int .i64 0]) ∧ Below w.heap.size w w' := by
  have hc : chk n [] = 0 := by
    rcases (plainB_cases hp).2 with ⟨h, _⟩ | ⟨_, h0, h1⟩ | ⟨h, _⟩ | ⟨h, _⟩
    · cases h
    · unfold chk; rw [if_neg (by omega)]; rfl
    · cases h
    · cases h
  refine (co_height_any n w).mono fun e w' h => ⟨?_, h.2 ▸ Below.refl _ _⟩
  rw [h.1, hc]
  unfold heightR
  rw [if_pos hc]
theorem cellsHeight_is {m : Nat} (hm : m ≤ 64) (w : World) : Calls Tryz.prog 71 #[.int .i64 (m : Int)] w fun e w' => e = .returned (.tuple #[.int .i64 ((m : Int) * ((m : Int) + 2)), .int .i64 0]) ∧ Below w.heap.size w w' := by
  have h0 : dimC (m : Int) = 0 := by unfold dimC; rw [if_neg (by omega)]
  refine (ce_height_any (m : Int) w 0 h0 _ rfl).mono fun e w' h => ⟨?_, h.2 ▸ Below.refl _ _⟩
  rw [h.1]
  unfold heightC
  rw [if_pos h0]

set_option maxRecDepth 100000 in
set_option maxHeartbeats 4000000 in
theorem heightA_plain (t n : Int) (sa : Option Addr) (sc : Nat) (w : World) (hp : plainB t n 0 = true) :
    Calls Tryz.prog 43 #[.agg #[.int .i64 t, .int .i64 n, .slice sa 0 sc]] w (fun e w' => e = .returned (.int .i64 (hgtP t n)) ∧ Below w.heap.size w w') := by
  refine enterF (args := [.agg #[.int .i64 t, .int .i64 n, .slice sa 0 sc]]) Tryz.func43 rfl Tryz.ntmps43 rfl ?_
  have hS := St.start w
  refine seqF ?_
  refine regF ?_
  refine op_box (cs := [_, _, _]) hS rfl rfl rfl ?_
  clear hS; intro B1 W1 hS
  refine op_assign rfl rfl ?_
  refine endF ?_
  refine XF.thenN ?_
  refine seqF ?_
  refine regF ?_
  refine op_assign rfl rfl ?_
  refine endF ?_
  refine XF.thenN ?_
  refine seqF ?_
  refine seqF ?_
  refine regF ?_
  refine op_field (o' := 0) fa_25_0 rfl rfl rfl ?_
  refine op_load Tryz.isAgg22 rfl (cell_own (hS.at_ 0 rfl) rfl) rfl ?_
  refine endF ?_
  refine XF.thenN ?_
  refine blockF ?_
  refine seqF ?_
  refine regF ?_
  refine op_eql rfl rfl rfl ?_
  refine op_assign rfl rfl ?_
  refine endF ?_
  refine XF.thenN ?_
  refine condF rfl (fun hc => ?_) (fun hc => ?_)
  · have hc6 := of_decide_eq_true hc; clear hc
    refine regF ?_
    refine op_assign rfl rfl ?_
    refine endF ?_
    refine XF.blkN ?_
    refine XF.thenN ?_
    refine seqF ?_
    refine regF ?_
    refine op_move rfl rfl ?_
    refine op_assign rfl rfl ?_
    refine endF ?_
    refine XF.thenN ?_
    refine retF ?_
    refine XF.res (res1 Tryz.results43 rfl) ?_
    exact ⟨by rw [hgtP_1 hc6], hS.below⟩
  · have hc6 := of_decide_eq_false hc; clear hc
    refine seqF ?_
    refine regF ?_
    refine op_eql rfl rfl rfl ?_
    refine op_assign rfl rfl ?_
    refine endF ?_
    refine XF.thenN ?_
    refine condF rfl (fun hc => ?_) (fun hc => ?_)
    · have hc8 := of_decide_eq_true hc; clear hc
      have e2 : t = 2 := hc8
      subst e2
      refine regF ?_
      refine op_field (o' := 1) fa_25_1 rfl rfl rfl ?_
      refine op_load Tryz.isAgg3 rfl (cell_own (hS.at_ 0 rfl) rfl) rfl ?_
      refine op_call (vs := [_]) hS goes_70 rfl (costHeight_is hp _) rfl ?_
      rintro e W2 ⟨rfl, hb⟩
      refine ⟨_, rfl, hb, fun hS' => ?_⟩
      clear hS; have hS := hS'; clear hS' hb
      refine op_move rfl rfl ?_
      refine op_extract rfl rfl rfl ?_
      refine op_extract rfl rfl rfl ?_
      refine op_assign rfl rfl ?_
      refine endF ?_
      refine XF.blkN ?_
      refine XF.thenN ?_
      refine seqF ?_
      refine regF ?_
      refine op_move rfl rfl ?_
      refine op_assign rfl rfl ?_
      refine endF ?_
      refine XF.thenN ?_
      refine retF ?_
      refine XF.res (res1 Tryz.results43 rfl) ?_
      exact ⟨rfl, hS.below⟩
    · have hc8 := of_decide_eq_false hc; clear hc
      refine seqF ?_
      refine regF ?_
      refine op_eql rfl rfl rfl ?_
      refine op_assign rfl rfl ?_
      refine endF ?_
      refine XF.thenN ?_
      refine condF rfl (fun hc => ?_) (fun hc => ?_)
      · have hc16 := of_decide_eq_true hc; clear hc
        have e3 : t = 3 := hc16
        subst e3
        obtain ⟨m, rfl, hm⟩ := dim3 hp (.inl rfl)
        have hmm := mul_bound1 hm
        refine regF ?_
        refine op_field (o' := 1) fa_25_1 rfl rfl rfl ?_
        refine op_load Tryz.isAgg3 rfl (cell_own (hS.at_ 0 rfl) rfl) rfl ?_
        refine op_field (o' := 1) fa_25_1 rfl rfl rfl ?_
        refine op_load Tryz.isAgg3 rfl (cell_own (hS.at_ 0 rfl) rfl) rfl ?_
        refine op_add rfl rfl (IntWalk.i64_in _ (by omega)) rfl ?_
        refine op_mul rfl rfl (IntWalk.i64_in _ (by omega)) rfl ?_
        refine op_add rfl rfl (IntWalk.i64_in _ (by omega)) rfl ?_
        refine op_assign rfl rfl ?_
        refine endF ?_
        refine XF.blkN ?_
        refine XF.thenN ?_
        refine seqF ?_
        refine regF ?_
        refine op_move rfl rfl ?_
        refine op_assign rfl rfl ?_
        refine endF ?_
        refine XF.thenN ?_
        refine retF ?_
        refine XF.res (res1 Tryz.results43 rfl) ?_
        exact ⟨rfl, hS.below⟩
      · have hc16 := of_decide_eq_false hc; clear hc
        refine seqF ?_
        refine regF ?_
        refine op_eql rfl rfl rfl ?_
        refine op_assign rfl rfl ?_
        refine endF ?_
        refine XF.thenN ?_
        refine condF rfl (fun hc => ?_) (fun hc => ?_)
        · have hc25 := of_decide_eq_true hc; clear hc
          have e4 : t = 4 := hc25
          subst e4
          obtain ⟨m, rfl, hm⟩ := dim3 hp (.inr rfl)
          have hmm := mul_bound2 hm
          refine seqF ?_
          refine regF ?_
          refine op_field (o' := 1) fa_25_1 rfl rfl rfl ?_
          refine op_load Tryz.isAgg3 rfl (cell_own (hS.at_ 0 rfl) rfl) rfl ?_
          refine op_call (vs := [_]) hS goes_71 rfl (cellsHeight_is hm _) rfl ?_
          rintro e W3 ⟨rfl, hb⟩
          refine ⟨_, rfl, hb, fun hS' => ?_⟩
          clear hS; have hS := hS'; clear hS' hb
          refine op_move rfl rfl ?_
          refine op_extract rfl rfl rfl ?_
          refine op_extract rfl rfl rfl ?_
          refine op_assign rfl rfl ?_
          refine endF ?_
          refine XF.thenN ?_
          refine regF ?_
          refine op_move rfl rfl ?_
          refine op_add rfl rfl (IntWalk.i64_in _ (by omega)) rfl ?_
          refine op_assign rfl rfl ?_
          refine endF ?_
          refine XF.blkN ?_
          refine XF.thenN ?_
          refine seqF ?_
          refine regF ?_
          refine op_move rfl rfl ?_
          refine op_assign rfl rfl ?_
          refine endF ?_
          refine XF.thenN ?_
          refine retF ?_
          refine XF.res (res1 Tryz.results43 rfl) ?_
          exact ⟨rfl, hS.below⟩
        · have hc25 := of_decide_eq_false hc; clear hc
          refine seqF ?_
          refine regF ?_
          refine op_eql rfl rfl rfl ?_
          refine op_assign rfl rfl ?_
          refine endF ?_
          refine XF.thenN ?_
          refine condF rfl (fun hc => absurd (of_decide_eq_true hc) (by exact plain_ne5 hp)) (fun hc => ?_)
          have hc := of_decide_eq_false hc
          refine skipF ?_
          refine XF.blkN ?_
          refine XF.thenN ?_
          refine seqF ?_
          refine regF ?_
          refine op_move rfl rfl ?_
          refine op_assign rfl rfl ?_
          refine endF ?_
          refine XF.thenN ?_
          refine retF ?_
          refine XF.res (res1 Tryz.results43 rfl) ?_
          exact ⟨by rw [hgtP_0 hc6 hc8 hc16 hc25], hS.below⟩

set_option maxRecDepth 100000 in
set_option maxHeartbeats 4000000 in
theorem heightA_pair (t n u m : Int) (a1 a2 : Option Addr) (c1 c2 b off sc : Nat) (w : World) (hs1 : S3 w b off ⟨t, n, a1, 0, c1⟩) (hs2 : S3 w b (off + 3) ⟨u, m, a2, 0, c2⟩) (hp1 : plainB t n 0 = true) (hp2 : plainB u m 0 = true) :
    Calls Tryz.prog 43 #[.agg #[.int .i64 5, .int .i64 0, .slice (some ⟨b, off, none⟩) 2 sc]] w (fun e w' => e = .returned (.int .i64 (hgtP t n + hgtP u m)) ∧ Below w.heap.size w w') := by
  refine enterF (args := [.agg #[.int .i64 5, .int .i64 0, .slice (some ⟨b, off, none⟩) 2 sc]]) Tryz.func43 rfl Tryz.ntmps43 rfl ?_
  have hS := St.start w
  refine seqF ?_
  refine regF ?_
  refine op_box (cs := [_, _, _]) hS rfl rfl rfl ?_
  clear hS; intro B1 W1 hS
  refine op_assign rfl rfl ?_
  refine endF ?_
  refine XF.thenN ?_
  refine seqF ?_
  refine regF ?_
  refine op_assign rfl rfl ?_
  refine endF ?_
  refine XF.thenN ?_
  refine seqF ?_
  refine seqF ?_
  refine regF ?_
  refine op_field (o' := 0) fa_25_0 rfl rfl rfl ?_
  refine op_load Tryz.isAgg22 rfl (cell_own (hS.at_ 0 rfl) rfl) rfl ?_
  refine endF ?_
  refine XF.thenN ?_
  refine blockF ?_
  refine seqF ?_
  refine regF ?_
  refine op_eql rfl rfl rfl ?_
  refine op_assign rfl rfl ?_
  refine endF ?_
  refine XF.thenN ?_
  refine condF rfl (fun hc => absurd (of_decide_eq_true hc) (by omega)) (fun hc => ?_)
  have hc := of_decide_eq_false hc
  refine seqF ?_
  refine regF ?_
  refine op_eql rfl rfl rfl ?_
  refine op_assign rfl rfl ?_
  refine endF ?_
  refine XF.thenN ?_
  refine condF rfl (fun hc => absurd (of_decide_eq_true hc) (by omega)) (fun hc => ?_)
  have hc := of_decide_eq_false hc
  refine seqF ?_
  refine regF ?_
  refine op_eql rfl rfl rfl ?_
  refine op_assign rfl rfl ?_
  refine endF ?_
  refine XF.thenN ?_
  refine condF rfl (fun hc => absurd (of_decide_eq_true hc) (by omega)) (fun hc => ?_)
  have hc := of_decide_eq_false hc
  refine seqF ?_
  refine regF ?_
  refine op_eql rfl rfl rfl ?_
  refine op_assign rfl rfl ?_
  refine endF ?_
  refine XF.thenN ?_
  refine condF rfl (fun hc => absurd (of_decide_eq_true hc) (by omega)) (fun hc => ?_)
  have hc := of_decide_eq_false hc
  refine seqF ?_
  refine regF ?_
  refine op_eql rfl rfl rfl ?_
  refine op_assign rfl rfl ?_
  refine endF ?_
  refine XF.thenN ?_
  refine condF rfl (fun hc => ?_) (fun hc => absurd (of_decide_eq_false hc) (by omega))
  have hc := of_decide_eq_true hc
  have hsz := hS.below.size
  have k1 := CellsAt.agree hS.agree (Nat.zero_le _) hs1.cells
  have k2 := CellsAt.agree hS.agree (Nat.zero_le _) hs2.cells
  have g1 := hgtP_bound hp1
  have g2 := hgtP_bound hp2
  refine regB (m := 12) followsM hS (by kernel_rfl) (by kernel_rfl) rfl ?_
  refine bl_cons 1 rfl (isV _) (stab_isV _) (rgV (li := [(1, _)]) rfl (w_free rfl) ⟨g_fr (by kernel_rfl) rfl, trivial⟩ (fun w hw => rn_field (o' := 2) fa_25_2 rfl rfl) (at_top rfl)) ?_
  refine bl_cons 2 rfl (isV _) (stab_isV _) (rgV (li := [(37, _)]) rfl (w_free rfl) ⟨g_dep 0 (by kernel_rfl) (at_dep rfl rfl rfl), trivial⟩ (fun w hw => rn_load Tryz.isAgg23 rfl ((below_agree hw 0).cell (Nat.zero_le _) (cell_own (hS.at_ 0 rfl) rfl))) (at_top rfl)) ?_
  refine bl_cons 3 rfl (isV _) (stab_isV _) (rgV (li := [(38, _)]) rfl (w_free rfl) ⟨g_dep 1 (by kernel_rfl) (at_dep rfl rfl rfl), trivial⟩ (fun w hw => rn_indexA (j := 0) Tryz.underlying23 Tryz.sizeOf25 rfl rfl rfl (by omega) (Nat.add_zero _)) (at_top rfl)) ?_
  refine bl_cons 4 rfl (isV _) (stab_isV _) (rgV (li := [(39, _)]) rfl (w_free rfl) ⟨g_dep 2 (by kernel_rfl) (at_dep rfl rfl rfl), trivial⟩ (fun w hw => rn_loadA (vs := [_, _, _]) Tryz.isAgg25 Tryz.sizeOf25 rfl (CellsAt.agree (below_agree hw 0) (Nat.zero_le _) (by assumption))) (at_top rfl)) ?_
  refine bl_cons 5 rfl (isV (.int .i64 (hgtP t n))) (stab_isV _) (rg_call [isV _] rfl goes_43 (w_free rfl) ⟨p_tmp (g_dep 3 (by kernel_rfl) (at_dep rfl rfl rfl)), trivial⟩ (fun vs w' hb hh => by have e := holds_isV (us := [_]) hh; subst e; exact (heightA_plain _ _ _ _ _ hp1).mono fun e w2 h => ⟨_, h.1, rfl, h.2⟩) (at_top rfl)) ?_
  refine bl_cons 6 rfl (isV _) (stab_isV _) (rgV (li := [(1, _)]) rfl (w_free rfl) ⟨g_fr (by kernel_rfl) rfl, trivial⟩ (fun w hw => rn_field (o' := 2) fa_25_2 rfl rfl) (at_top rfl)) ?_
  refine bl_cons 7 rfl (isV _) (stab_isV _) (rgV (li := [(42, _)]) rfl (w_free rfl) ⟨g_dep 5 (by kernel_rfl) (at_dep rfl rfl rfl), trivial⟩ (fun w hw => rn_load Tryz.isAgg23 rfl ((below_agree hw 0).cell (Nat.zero_le _) (cell_own (hS.at_ 0 rfl) rfl))) (at_top rfl)) ?_
  refine bl_cons 8 rfl (isV _) (stab_isV _) (rgV (li := [(43, _)]) rfl (w_free rfl) ⟨g_dep 6 (by kernel_rfl) (at_dep rfl rfl rfl), trivial⟩ (fun w hw => rn_indexA (j := 1) Tryz.underlying23 Tryz.sizeOf25 rfl rfl rfl (by omega) rfl) (at_top rfl)) ?_
  refine bl_cons 9 rfl (isV _) (stab_isV _) (rgV (li := [(44, _)]) rfl (w_free rfl) ⟨g_dep 7 (by kernel_rfl) (at_dep rfl rfl rfl), trivial⟩ (fun w hw => rn_loadA (vs := [_, _, _]) Tryz.isAgg25 Tryz.sizeOf25 rfl (CellsAt.agree (below_agree hw 0) (Nat.zero_le _) (by assumption))) (at_top rfl)) ?_
  refine bl_cons 10 rfl (isV (.int .i64 (hgtP u m))) (stab_isV _) (rg_call [isV _] rfl goes_43 (w_free rfl) ⟨p_tmp (g_dep 8 (by kernel_rfl) (at_dep rfl rfl rfl)), trivial⟩ (fun vs w' hb hh => by have e := holds_isV (us := [_]) hh; subst e; exact (heightA_plain _ _ _ _ _ hp2).mono fun e w2 h => ⟨_, h.1, rfl, h.2⟩) (at_top rfl)) ?_
  refine bl_cons 11 rfl (isV _) (stab_isV _) (rgV (li := [(41, _), (46, _)]) rfl (w_free rfl) ⟨g_dep 4 (by kernel_rfl) (at_dep rfl rfl rfl), g_dep 9 (by kernel_rfl) (at_dep rfl rfl rfl), trivial⟩ (fun w hw => rn_add rfl rfl (IntWalk.i64_in _ (by omega))) (at_top rfl)) ?_
  refine bl_cons 12 rfl (isV _) (stab_isV _) (rgV (li := [(47, _)]) rfl (w_free rfl) ⟨g_dep 10 (by kernel_rfl) (at_dep rfl rfl rfl), trivial⟩ (fun w hw => rn_assign rfl) (at_top rfl)) ?_
  refine bl_nil ?_
  intro W2 hbR hS'
  clear hS; have hS := hS'; clear hS'
  refine fin_v ?_
  refine fin_v ?_
  refine fin_v ?_
  refine fin_v ?_
  refine fin_v ?_
  refine fin_v ?_
  refine fin_v ?_
  refine fin_v ?_
  refine fin_v ?_
  refine fin_v ?_
  refine fin_v ?_
  refine fin_v ?_
  refine fin_nil ?_
  refine XF.blkN ?_
  refine XF.thenN ?_
  refine seqF ?_
  refine regF ?_
  refine op_move rfl rfl ?_
  refine op_assign rfl rfl ?_
  refine endF ?_
  refine XF.thenN ?_
  refine retF ?_
  refine XF.res (res1 Tryz.results43 rfl) ?_
  exact ⟨rfl, hS.below⟩

section
variable {S : PS} {sf : SF} {w : World}
theorem heightA_ok (hs : SIs w S sf) (hok : S.ok) : Calls Tryz.prog 43 #[sf.val] w fun e w' => e = .returned (.int .i64 (hgtX S)) ∧ Below w.heap.size w w' := by
  cases S with
  | one t n =>
    obtain ⟨a, c, rfl⟩ := hs
    exact heightA_plain _ _ _ _ _ hok
  | two t n u m =>
    obtain ⟨b, off, c, a1, c1, a2, c2, rfl, h1, h2⟩ := hs
    exact heightA_pair _ _ _ _ _ _ _ _ _ _ _ _ h1 h2 hok.1 hok.2
end
set_option maxRecDepth 100000 in
set_option maxHeartbeats 4000000 in
theorem HeightW_ok (S : PS) (sf : SF) (w : World) (hs : SIs w S sf) (hok : S.ok) :
    Calls Tryz.prog 16 #[sf.val] w (fun e w' => e = .returned (.tuple #[.int .i64 (hgtX S), .int .i64 0]) ∧ Below w.heap.size w w') := by
  refine enterF (args := [sf.val]) Tryz.func16 rfl Tryz.ntmps16 rfl ?_
  have hS := St.start w
  refine seqF ?_
  refine regF ?_
  refine op_box (cs := [_, _, _]) hS rfl rfl rfl ?_
  clear hS; intro B1 W1 hS
  refine op_assign rfl rfl ?_
  refine op_assign rfl rfl ?_
  refine endF ?_
  refine XF.thenN ?_
  refine seqF ?_
  refine seqF ?_
  refine regF ?_
  refine op_loadA (vs := [_, _, _]) Tryz.isAgg25 Tryz.sizeOf25 rfl (CellsAt.own (j := 0) (m := 3) (hS.at_ 0 rfl) rfl) rfl ?_
  refine op_call (vs := [_]) hS goes_18 rfl (spaceA_ok (hs.below hS.below) hok) rfl ?_
  rintro e W2 ⟨rfl, hb⟩
  refine ⟨_, rfl, hb, fun hS' => ?_⟩
  clear hS; have hS := hS'; clear hS' hb
  refine op_assign rfl rfl ?_
  refine endF ?_
  refine XF.thenN ?_
  refine seqF ?_
  refine regF ?_
  refine op_move rfl rfl ?_
  refine op_neq rfl rfl rfl ?_
  refine endF ?_
  refine XF.thenN ?_
  refine condF rfl (fun hc => absurd (of_decide_eq_true hc) (by omega)) (fun hc => ?_)
  have hc := of_decide_eq_false hc
  refine skipF ?_
  refine XF.thenN ?_
  refine seqF ?_
  refine regF ?_
  refine op_loadA (vs := [_, _, _]) Tryz.isAgg25 Tryz.sizeOf25 rfl (CellsAt.own (j := 0) (m := 3) (hS.at_ 0 rfl) rfl) rfl ?_
  refine op_call (vs := [_]) hS goes_43 rfl (heightA_ok (hs.below hS.below) hok) rfl ?_
  rintro e W3 ⟨rfl, hb⟩
  refine ⟨_, rfl, hb, fun hS' => ?_⟩
  clear hS; have hS := hS'; clear hS' hb
  refine op_assign rfl rfl ?_
  refine op_assign rfl rfl ?_
  refine endF ?_
  refine XF.thenN ?_
  refine retF ?_
  refine XF.res (res2 Tryz.results16 rfl rfl) ?_
  exact ⟨rfl, hS.below⟩

set_option maxRecDepth 100000 in
set_option maxHeartbeats 4000000 in
theorem HeightW_bad (ds : Nat) (s : SV) (w : World) (hs : SIn w ds s) (hse : spaceE s ≠ 0) :
    Calls Tryz.prog 16 #[s.f.val] w (fun e w' => e = .returned (.tuple #[.int .i64 0, .int .i64 (spaceE s)]) ∧ Below w.heap.size w w') := by
  refine enterF (args := [s.f.val]) Tryz.func16 rfl Tryz.ntmps16 rfl ?_
  have hS := St.start w
  refine seqF ?_
  refine regF ?_
  refine op_box (cs := [_, _, _]) hS rfl rfl rfl ?_
  clear hS; intro B1 W1 hS
  refine op_assign rfl rfl ?_
  refine op_assign rfl rfl ?_
  refine endF ?_
  refine XF.thenN ?_
  refine seqF ?_
  refine seqF ?_
  refine regF ?_
  refine op_loadA (vs := [_, _, _]) Tryz.isAgg25 Tryz.sizeOf25 rfl (CellsAt.own (j := 0) (m := 3) (hS.at_ 0 rfl) rfl) rfl ?_
  refine op_call (vs := [_]) hS goes_18 rfl (spaceA_is ds s _ _ (SIn.below hS.below hs) rfl) rfl ?_
  rintro e W2 ⟨rfl, hb⟩
  refine ⟨_, rfl, hb, fun hS' => ?_⟩
  clear hS; have hS := hS'; clear hS' hb
  refine op_assign rfl rfl ?_
  refine endF ?_
  refine XF.thenN ?_
  refine seqF ?_
  refine regF ?_
  refine op_move rfl rfl ?_
  refine op_neq rfl rfl rfl ?_
  refine endF ?_
  refine XF.thenN ?_
  refine condF rfl (fun hc => ?_) (fun hc => absurd (of_decide_eq_false hc) (by omega))
  have hc := of_decide_eq_true hc
  refine seqF ?_
  refine regF ?_
  refine op_move rfl rfl ?_
  refine op_assign rfl rfl ?_
  refine op_assign rfl rfl ?_
  refine endF ?_
  refine XF.thenN ?_
  refine retF ?_
  refine XF.thenR ?_
  refine XF.res (res2 Tryz.results16 rfl rfl) ?_
  exact ⟨rfl, hS.below⟩

set_option maxRecDepth 100000 in
set_option maxHeartbeats 4000000 in
theorem ZeroW_bad (ds : Nat) (s : SV) (w : World) (hs : SIn w ds s) (hse : spaceE s ≠ 0) :
    Calls Tryz.prog 14 #[s.f.val] w (fun e w' => e = .returned (.tuple #[.agg #[.bool false, .int .i64 0, .int .u64 0, .slice none 0 0, .slice none 0 0, .slice none 0 0], .int .i64 (spaceE s)]) ∧ Below w.heap.size w w') := by
  refine enterF (args := [s.f.val]) Tryz.func14 rfl Tryz.ntmps14 rfl ?_
  have hS := St.start w
  refine seqF ?_
  refine regF ?_
  refine op_box (cs := [_, _, _]) hS rfl rfl rfl ?_
  clear hS; intro B1 W1 hS
  refine op_alloc (cs := [_, _, _, _, _, _]) hS Tryz.zeroValue33 rfl rfl ?_
  clear hS; intro B2 W2 hS
  refine op_assign rfl rfl ?_
  refine endF ?_
  refine XF.thenN ?_
  refine seqF ?_
  refine seqF ?_
  refine regF ?_
  refine op_loadA (vs := [_, _, _]) Tryz.isAgg25 Tryz.sizeOf25 rfl (CellsAt.own (j := 0) (m := 3) (hS.at_ 1 rfl) rfl) rfl ?_
  refine op_call (vs := [_]) hS goes_18 rfl (spaceA_is ds s _ _ (SIn.below hS.below hs) rfl) rfl ?_
  rintro e W3 ⟨rfl, hb⟩
  refine ⟨_, rfl, hb, fun hS' => ?_⟩
  clear hS; have hS := hS'; clear hS' hb
  refine op_assign rfl rfl ?_
  refine endF ?_
  refine XF.thenN ?_
  refine seqF ?_
  refine regF ?_
  refine op_move rfl rfl ?_
  refine op_neq rfl rfl rfl ?_
  refine endF ?_
  refine XF.thenN ?_
  refine condF rfl (fun hc => ?_) (fun hc => absurd (of_decide_eq_false hc) (by omega))
  have hc := of_decide_eq_true hc
  refine seqF ?_
  refine regF ?_
  refine op_build (us := []) rfl (bld_33) rfl ?_
  refine op_move rfl rfl ?_
  refine op_storeA (i := 0) (vs := [_, _, _, _, _, _]) (cs' := [_, _, _, _, _, _]) (O' := [_, _]) hS Tryz.sizeOf33 rfl rfl rfl rfl rfl rfl rfl ?_
  clear hS; intro W4 hS
  refine op_assign rfl rfl ?_
  refine endF ?_
  refine XF.thenN ?_
  refine retF ?_
  refine XF.thenR ?_
  refine XF.res (resCT (vs := [_, _, _, _, _, _]) Tryz.results14 Tryz.isAgg33 Tryz.sizeOf33 rfl (CellsAt.own (j := 0) (m := 6) (hS.at_ 0 rfl) rfl) rfl) ?_
  exact ⟨rfl, hS.below⟩
end Go.Proofs.YtjcminoaiieckaaGreatDoor
namespace Go.Proofs.YtjcminoaiieckaaGreatDoor
open Go Go.RowKit
set_option linter.unusedVariables false
theorem run_callV (P : Program) (ev : Operand → Value) (w : World) (x : Operand) (f : FuncId) (args : Array Operand) (ts : Array TypeId) (o : Oper) (h : o.op = .call { callee := .value x, args := args, argTypes := ts }) (hf : ev x = .func (.func f) #[] #[]) (hb : goesIn P f = true) : (execOp ev o).run P w = .ok (.enter f (args.map ev)) w := by
  unfold goesIn at hb
  cases hx : P.funcs[f]? with
  | none => rw [hx] at hb; cases hb
  | some fn =>
    rw [hx] at hb
    simp only [Bool.and_eq_true, Bool.not_eq_true', beq_eq_false_iff_ne, ne_eq] at hb
    obtain ⟨c, hc⟩ := Option.isSome_iff_exists.1 hb.1
    unfold execOp; simp only [h]; simp [go_sem, resolve, hf, callFunc, hx, hc, hb.2]
section
variable {P : Program} {n : Nat} {Q : Exit → Act → World → Prop} {l : Fr} {w0 W : World} {ops : Array Oper} {os : List Oper} {O : Own} {G : Grows} {K : List (Nat × World)} {d : Nat} {ty : TypeId} {pos : String} {aft : Array Edge}
theorem op_callV {x : Operand} {f : FuncId} {args : Array Operand} {ts : Array TypeId} {vs : List Value} {R : Ending → World → Prop} (hS : St w0 O G K W) (hx : evL l x = some (.func (.func f) #[] #[])) (hgo : goesIn P f = true) (ha : args.toList.map (evL l) = vs.map some) (hc : Calls P f vs.toArray W R)
    (hd : Nat.blt d n = true)
    (h : ∀ e W', R e W' → ∃ v, e = .returned v ∧ Below W.heap.size W W' ∧ (St w0 O G ((W.heap.size, W') :: K) W' → OpsF P n ops Q os ((d, v) :: l) W')) : OpsF P n ops Q (⟨some d, .call { callee := .value x, args := args, argTypes := ts }, ty, pos, aft, none⟩ :: os) l W := fun a hl => by
  refine wpList_plain rfl fun K' hK => ?_
  unfold Oper.wp
  rw [run_callV P a.eval W x f args ts _ rfl (hl.ev x _ hx) hgo, Oper.upon_enter]
  have hargs : args.map a.eval = vs.toArray := by
    have key : ∀ (xs : List Operand) (us : List Value), xs.map (evL l) = us.map some → xs.map a.eval = us := by
      intro xs
      induction xs with
      | nil => intro us h; cases us <;> simp at h ⊢
      | cons x xs ih =>
        intro us h
        cases us with
        | nil => simp at h
        | cons u us =>
          simp only [List.map_cons, List.cons.injEq] at h
          simp only [List.map_cons, hl.ev x u h.1, ih us h.2]
    apply Array.ext'
    rw [Array.toList_map, key _ _ ha]
  rw [hargs]
  refine hc.mono ?_
  intro e W' hRe
  obtain ⟨v, rfl, hb, hn⟩ := h e W' hRe
  exact hK _ _ (hn (hS.call hb) _ (hl.put hd))
end
end Go.Proofs.YtjcminoaiieckaaGreatDoor
namespace Go.Proofs.YtjcminoaiieckaaGreatDoor
open Go Go.RowKit
set_option linter.unusedVariables false
def eqS : Nat → SV → SV → Bool
  | 0, _, _ => false
  | k + 1, .mk f ps, .mk g qs => decide (f.tag = g.tag) && (decide (f.dim = g.dim) && (decide (ps.length = qs.length) && (ps.zip qs).all fun x => eqS k x.1 x.2))
theorem smS_succ {j : Nat} {f : SF} {ps : List SV} (h : smS (j + 1) (.mk f ps) = true) : f.len ≤ 3 ∧ ∀ p ∈ ps, smS j p = true := by
  simp only [smS, Bool.and_eq_true, decide_eq_true_eq, List.all_eq_true] at h
  exact h

set_option maxRecDepth 100000 in
set_option maxHeartbeats 4000000 in
theorem sameSpaceR_step (k j : Nat) (t n u m : Int) (pa qa : Option Addr) (pl ql pc qc : Nat) (ps qs : List SV) (w : World) (hps : ps.length = pl) (hqs : qs.length = ql) (hrow : SRow w pa ps) (hrow2 : SRow w qa qs) (hin : ∀ p ∈ ps, SIn w k p) (hin2 : ∀ p ∈ qs, SIn w k p) (hpl : pl ≤ 9223372036854775807) (hsm : ∀ p ∈ ps, smS j p = true) (ih : ∀ (p q : SV) (W : World), SIn W k p → SIn W k q → smS j p = true → Calls Tryz.prog 25 #[p.f.val, q.f.val] W fun e w' => e = .returned (.bool (eqS k p q)) ∧ Below W.heap.size W w') :
    Calls Tryz.prog 25 #[.agg #[.int .i64 t, .int .i64 n, .slice pa pl pc], .agg #[.int .i64 u, .int .i64 m, .slice qa ql qc]] w (fun e w' => e = .returned (.bool (eqS (k + 1) (.mk ⟨t, n, pa, pl, pc⟩ ps) (.mk ⟨u, m, qa, ql, qc⟩ qs))) ∧ Below w.heap.size w w') := by
  refine enterF (args := [.agg #[.int .i64 t, .int .i64 n, .slice pa pl pc], .agg #[.int .i64 u, .int .i64 m, .slice qa ql qc]]) Tryz.func25 rfl Tryz.ntmps25 rfl ?_
  have hS := St.start w
  refine seqF ?_
  refine regF ?_
  refine op_box (cs := [_, _, _]) hS rfl rfl rfl ?_
  clear hS; intro B1 W1 hS
  refine op_box (cs := [_, _, _]) hS rfl rfl rfl ?_
  clear hS; intro B2 W2 hS
  refine op_assign rfl rfl ?_
  refine endF ?_
  refine XF.thenN ?_
  refine seqF ?_
  refine seqF ?_
  refine regF ?_
  refine op_field (o' := 0) fa_25_0 rfl rfl rfl ?_
  refine op_load Tryz.isAgg22 rfl (cell_own (hS.at_ 1 rfl) rfl) rfl ?_
  refine op_field (o' := 0) fa_25_0 rfl rfl rfl ?_
  refine op_load Tryz.isAgg22 rfl (cell_own (hS.at_ 0 rfl) rfl) rfl ?_
  refine op_neq rfl rfl rfl ?_
  refine op_move rfl rfl ?_
  refine op_cases (d := 11) rfl (fun hc => ?_) (fun hc => ?_)
  · have hg11 := of_decide_eq_true hc; clear hc
    refine op_notF (d := 11) rfl rfl rfl rfl ?_
    refine op_notF (d := 11) rfl rfl rfl rfl ?_
    refine op_notF (d := 11) rfl rfl rfl rfl ?_
    refine op_notF (d := 11) rfl rfl rfl rfl ?_
    refine op_notF (d := 11) rfl rfl rfl rfl ?_
    refine op_pickT rfl rfl rfl ?_
    refine op_move rfl rfl ?_
    refine op_notF (d := 18) rfl rfl rfl rfl ?_
    refine op_notF (d := 18) rfl rfl rfl rfl ?_
    refine op_notF (d := 18) rfl rfl rfl rfl ?_
    refine op_notF (d := 18) rfl rfl rfl rfl ?_
    refine op_notF (d := 18) rfl rfl rfl rfl ?_
    refine op_notF (d := 18) rfl rfl rfl rfl ?_
    refine op_notF (d := 18) rfl rfl rfl rfl ?_
    refine op_pickT rfl rfl rfl ?_
    refine endF ?_
    refine XF.thenN ?_
    refine condT rfl ?_
    refine seqF ?_
    refine regF ?_
    refine op_assign rfl rfl ?_
    refine endF ?_
    refine XF.thenN ?_
    refine retF ?_
    refine XF.thenR ?_
    refine XF.res (res1 Tryz.results25 rfl) ?_
    exact ⟨rbool (by simp only [eqS]; rw [decide_eq_false (show ¬ t = u by omega)]; rfl), hS.below⟩
  · have hg11 := of_decide_eq_false hc; clear hc
    refine op_wantedF (d := 11) rfl rfl ?_
    refine op_field (o' := 1) fa_25_1 rfl rfl rfl ?_
    refine op_wantedF (d := 11) rfl rfl ?_
    refine op_load Tryz.isAgg3 rfl (cell_own (hS.at_ 1 rfl) rfl) rfl ?_
    refine op_wantedF (d := 11) rfl rfl ?_
    refine op_field (o' := 1) fa_25_1 rfl rfl rfl ?_
    refine op_wantedF (d := 11) rfl rfl ?_
    refine op_load Tryz.isAgg3 rfl (cell_own (hS.at_ 0 rfl) rfl) rfl ?_
    refine op_wantedF (d := 11) rfl rfl ?_
    refine op_neq rfl rfl rfl ?_
    refine op_pickF rfl rfl rfl ?_
    refine op_move rfl rfl ?_
    refine op_cases (d := 18) rfl (fun hc => ?_) (fun hc => ?_)
    · have hg18 := of_decide_eq_true hc; clear hc
      refine op_notF (d := 18) rfl rfl rfl rfl ?_
      refine op_notF (d := 18) rfl rfl rfl rfl ?_
      refine op_notF (d := 18) rfl rfl rfl rfl ?_
      refine op_notF (d := 18) rfl rfl rfl rfl ?_
      refine op_notF (d := 18) rfl rfl rfl rfl ?_
      refine op_notF (d := 18) rfl rfl rfl rfl ?_
      refine op_notF (d := 18) rfl rfl rfl rfl ?_
      refine op_pickT rfl rfl rfl ?_
      refine endF ?_
      refine XF.thenN ?_
      refine condT rfl ?_
      refine seqF ?_
      refine regF ?_
      refine op_assign rfl rfl ?_
      refine endF ?_
      refine XF.thenN ?_
      refine retF ?_
      refine XF.thenR ?_
      refine XF.res (res1 Tryz.results25 rfl) ?_
      exact ⟨rbool (by simp only [eqS]; rw [decide_eq_false (show ¬ n = m by omega)]; simp), hS.below⟩
    · have hg18 := of_decide_eq_false hc; clear hc
      refine op_wantedF (d := 18) rfl rfl ?_
      refine op_field (o' := 2) fa_25_2 rfl rfl rfl ?_
      refine op_wantedF (d := 18) rfl rfl ?_
      refine op_load Tryz.isAgg23 rfl (cell_own (hS.at_ 1 rfl) rfl) rfl ?_
      refine op_wantedF (d := 18) rfl rfl ?_
      refine op_len Tryz.underlying23 rfl rfl ?_
      refine op_wantedF (d := 18) rfl rfl ?_
      refine op_field (o' := 2) fa_25_2 rfl rfl rfl ?_
      refine op_wantedF (d := 18) rfl rfl ?_
      refine op_load Tryz.isAgg23 rfl (cell_own (hS.at_ 0 rfl) rfl) rfl ?_
      refine op_wantedF (d := 18) rfl rfl ?_
      refine op_len Tryz.underlying23 rfl rfl ?_
      refine op_wantedF (d := 18) rfl rfl ?_
      refine op_neq rfl rfl rfl ?_
      refine op_pickF rfl rfl rfl ?_
      refine endF ?_
      refine XF.thenN ?_
      refine condF rfl (fun hc => ?_) (fun hc => ?_)
      · have hc26 := of_decide_eq_true hc; clear hc
        refine seqF ?_
        refine regF ?_
        refine op_assign rfl rfl ?_
        refine endF ?_
        refine XF.thenN ?_
        refine retF ?_
        refine XF.thenR ?_
        refine XF.res (res1 Tryz.results25 rfl) ?_
        exact ⟨rbool (by simp only [eqS]; rw [decide_eq_false (show ¬ ps.length = qs.length by omega)]; simp), hS.below⟩
      · have hc26 := of_decide_eq_false hc; clear hc
        refine skipF ?_
        refine XF.thenN ?_
        refine seqF ?_
        refine seqF ?_
        refine regF ?_
        refine op_assign rfl rfl ?_
        refine endF ?_
        refine XF.thenN ?_
        refine blockF ?_
        refine loopF (fun q l W => ∃ i : Nat, i ≤ pl ∧ q = pl - i ∧ l = [(2, .pointer (some ⟨B1, 0, none⟩)), (3, .pointer (some ⟨B2, 0, none⟩)), (5, .int .i64 (i : Int))] ∧ ((ps.zip qs).take i).all (fun x => eqS k x.1 x.2) = true ∧ St w [(B2, [.int .i64 u, .int .i64 m, .slice qa ql qc], 25), (B1, [.int .i64 t, .int .i64 n, .slice pa pl pc], 25)] [] [] W) (pl - 0) ([(2, _), (3, _), (5, _)]) ⟨rfl, rfl, rfl, trivial⟩ (⟨0, Nat.zero_le _, rfl, rfl, rfl, hS.clear⟩) ?_
        clear hS
        rintro q l W ⟨i, hi, rfl, rfl, hall, hS⟩
        refine seqF ?_
        refine seqF ?_
        refine regF ?_
        refine op_move rfl rfl ?_
        refine op_field (o' := 2) fa_25_2 rfl rfl rfl ?_
        refine op_load Tryz.isAgg23 rfl (cell_own (hS.at_ 1 rfl) rfl) rfl ?_
        refine op_len Tryz.underlying23 rfl rfl ?_
        refine op_lss rfl rfl rfl ?_
        refine endF ?_
        refine XF.thenN ?_
        refine condF rfl (fun hc => ?_) (fun hc => ?_)
        · have hc31 := of_decide_eq_true hc; clear hc
          have hk : i < pl := by omega
          obtain ⟨p, hp⟩ : ∃ p, ps[i]? = some p := ⟨ps[i]'(by omega), List.getElem?_eq_getElem _⟩
          obtain ⟨q, hq⟩ : ∃ q, qs[i]? = some q := ⟨qs[i]'(by omega), List.getElem?_eq_getElem _⟩
          have hz : (ps.zip qs)[i]? = some (p, q) := List.getElem?_zip_eq_some.2 ⟨hp, hq⟩
          obtain ⟨b, off, rfl, hb, h6⟩ := hrow.at_ hp
          obtain ⟨b2, off2, rfl, hb2, h7⟩ := hrow2.at_ hq
          have k1 := CellsAt.agree hS.agree (Nat.zero_le _) h6.cells
          have k2 := CellsAt.agree hS.agree (Nat.zero_le _) h7.cells
          refine skipF ?_
          refine XF.thenN ?_
          refine seqF ?_
          refine blockF ?_
          refine seqF ?_
          refine regB (m := 12) followsM hS (by kernel_rfl) (by kernel_rfl) rfl ?_
          refine bl_cons 1 rfl (isV _) (stab_isV _) (rgV (li := [(2, _)]) rfl (w_free rfl) ⟨g_fr (by kernel_rfl) rfl, trivial⟩ (fun w hw => rn_field (o' := 2) fa_25_2 rfl rfl) (at_top rfl)) ?_
          refine bl_cons 2 rfl (isV _) (stab_isV _) (rgV (li := [(34, _)]) rfl (w_free rfl) ⟨g_dep 0 (by kernel_rfl) (at_dep rfl rfl rfl), trivial⟩ (fun w hw => rn_load Tryz.isAgg23 rfl ((below_agree hw 0).cell (Nat.zero_le _) (cell_own (hS.at_ 1 rfl) rfl))) (at_top rfl)) ?_
          refine bl_cons 3 rfl (isV _) (stab_isV _) (rgV (li := [(5, _)]) rfl (w_free rfl) ⟨g_fr (by kernel_rfl) rfl, trivial⟩ (fun w hw => rn_move rfl) (at_top rfl)) ?_
          refine bl_cons 4 rfl (isV _) (stab_isV _) (rgV (li := [(35, _), (36, _)]) rfl (w_free rfl) ⟨g_dep 1 (by kernel_rfl) (at_dep rfl rfl rfl), g_dep 2 (by kernel_rfl) (at_dep rfl rfl rfl), trivial⟩ (fun w hw => rn_indexA  Tryz.underlying23 Tryz.sizeOf25 rfl rfl rfl (by omega) rfl) (at_top rfl)) ?_
          refine bl_cons 5 rfl (isV _) (stab_isV _) (rgV (li := [(37, _)]) rfl (w_free rfl) ⟨g_dep 3 (by kernel_rfl) (at_dep rfl rfl rfl), trivial⟩ (fun w hw => rn_loadA (vs := [_, _, _]) Tryz.isAgg25 Tryz.sizeOf25 rfl (CellsAt.agree (below_agree hw 0) (Nat.zero_le _) (by assumption))) (at_top rfl)) ?_
          refine bl_cons 6 rfl (isV _) (stab_isV _) (rgV (li := [(3, _)]) rfl (w_free rfl) ⟨g_fr (by kernel_rfl) rfl, trivial⟩ (fun w hw => rn_field (o' := 2) fa_25_2 rfl rfl) (at_top rfl)) ?_
          refine bl_cons 7 rfl (isV _) (stab_isV _) (rgV (li := [(39, _)]) rfl (w_free rfl) ⟨g_dep 5 (by kernel_rfl) (at_dep rfl rfl rfl), trivial⟩ (fun w hw => rn_load Tryz.isAgg23 rfl ((below_agree hw 0).cell (Nat.zero_le _) (cell_own (hS.at_ 0 rfl) rfl))) (at_top rfl)) ?_
          refine bl_cons 8 rfl (isV _) (stab_isV _) (rgV (li := [(5, _)]) rfl (w_free rfl) ⟨g_fr (by kernel_rfl) rfl, trivial⟩ (fun w hw => rn_move rfl) (at_top rfl)) ?_
          refine bl_cons 9 rfl (isV _) (stab_isV _) (rgV (li := [(40, _), (41, _)]) rfl (w_free rfl) ⟨g_dep 6 (by kernel_rfl) (at_dep rfl rfl rfl), g_dep 7 (by kernel_rfl) (at_dep rfl rfl rfl), trivial⟩ (fun w hw => rn_indexA  Tryz.underlying23 Tryz.sizeOf25 rfl rfl rfl (by omega) rfl) (at_top rfl)) ?_
          refine bl_cons 10 rfl (isV _) (stab_isV _) (rgV (li := [(42, _)]) rfl (w_free rfl) ⟨g_dep 8 (by kernel_rfl) (at_dep rfl rfl rfl), trivial⟩ (fun w hw => rn_loadA (vs := [_, _, _]) Tryz.isAgg25 Tryz.sizeOf25 rfl (CellsAt.agree (below_agree hw 0) (Nat.zero_le _) (by assumption))) (at_top rfl)) ?_
          refine bl_cons 11 rfl (isV (.bool (eqS k p q))) (stab_isV _) (rg_call [isV _, isV _] rfl goes_25 (w_free rfl) ⟨p_tmp (g_dep 4 (by kernel_rfl) (at_dep rfl rfl rfl)), p_tmp (g_dep 9 (by kernel_rfl) (at_dep rfl rfl rfl)), trivial⟩ (fun vs w' hb hh => by have e := holds_isV (us := [_, _]) hh; subst e; exact (ih p q _ (SIn.below (hS.below.trans (hb.mono hS.below.size)) (hin p (List.mem_of_getElem? hp))) (SIn.below (hS.below.trans (hb.mono hS.below.size)) (hin2 q (List.mem_of_getElem? hq))) (hsm p (List.mem_of_getElem? hp))).mono fun e w2 h => ⟨_, h.1, rfl, h.2⟩) (at_top rfl)) ?_
          refine bl_cons 12 rfl (isV _) (stab_isV _) (rgV (li := [(44, _)]) rfl (w_free rfl) ⟨g_dep 10 (by kernel_rfl) (at_dep rfl rfl rfl), trivial⟩ (fun w hw => rn_not rfl) (at_top rfl)) ?_
          refine bl_nil ?_
          intro W3 hbR hS'
          clear hS; have hS := hS'; clear hS'
          refine fin_v ?_
          refine fin_v ?_
          refine fin_v ?_
          refine fin_v ?_
          refine fin_v ?_
          refine fin_v ?_
          refine fin_v ?_
          refine fin_v ?_
          refine fin_v ?_
          refine fin_v ?_
          refine fin_v ?_
          refine fin_v ?_
          refine fin_nil ?_
          refine XF.thenN ?_
          refine condF rfl (fun hc => ?_) (fun hc => ?_)
          · have hc45 := hc; clear hc
            refine seqF ?_
            refine regF ?_
            refine op_assign rfl rfl ?_
            refine endF ?_
            refine XF.thenN ?_
            refine retF ?_
            refine XF.blkR ?_
            refine XF.thenR ?_
            refine XF.thenR ?_
            refine XF.blkR ?_
            refine XF.thenR ?_
            refine XF.res (res1 Tryz.results25 rfl) ?_
            exact ⟨rbool (by simp only [eqS]; rw [all_false_at hz (by simpa using hc45)]; simp), hS.below⟩
          · have hc45 := hc; clear hc
            refine skipF ?_
            refine XF.blkN ?_
            refine XF.thenN ?_
            refine regF ?_
            refine op_move rfl rfl ?_
            refine op_add rfl rfl (IntWalk.i64_in _ (by omega)) rfl ?_
            refine op_assign rfl rfl ?_
            refine endF ?_
            exact XF.round (pl - (i + 1)) [(2, _), (3, _), (5, _)] (by omega) ⟨rfl, rfl, rfl, trivial⟩ ⟨i + 1, by omega, rfl, rfl, all_take_at hz hall (by simpa using hc45), hS.clear⟩
        · have hc31 := of_decide_eq_false hc; clear hc
          refine exitF ?_
          refine XF.thenX ?_
          refine XF.thenX ?_
          refine XF.blkX ?_
          refine XF.thenN ?_
          refine seqF ?_
          refine regF ?_
          refine op_assign rfl rfl ?_
          refine endF ?_
          refine XF.thenN ?_
          refine retF ?_
          refine XF.res (res1 Tryz.results25 rfl) ?_
          rw [List.take_of_length_le (by rw [List.length_zip]; omega)] at hall
          exact ⟨rbool (by simp only [eqS]; rw [hall, decide_eq_true (show t = u by omega), decide_eq_true (show n = m by omega), decide_eq_true (show ps.length = qs.length by omega)]; rfl), hS.below⟩

set_option maxRecDepth 100000 in
set_option maxHeartbeats 4000000 in
theorem equalS_is (k j : Nat) (pa qa : Option Addr) (pl ql pc qc : Nat) (ps qs : List SV) (w : World) (hps : ps.length = pl) (hqs : qs.length = ql) (hrow : SRow w pa ps) (hrow2 : SRow w qa qs) (hin : ∀ p ∈ ps, SIn w k p) (hin2 : ∀ p ∈ qs, SIn w k p) (hpl : pl ≤ 9223372036854775807) (hsm : ∀ p ∈ ps, smS j p = true) (ih : ∀ (p q : SV) (W : World), SIn W k p → SIn W k q → smS j p = true → Calls Tryz.prog 24 #[p.f.val, q.f.val] W fun e w' => e = .returned (.bool (eqS k p q)) ∧ Below W.heap.size W w') :
    Calls Tryz.prog 51 #[.slice pa pl pc, .slice qa ql qc, .func (.func 24) #[] #[]] w (fun e w' => e = .returned (.bool (decide (ps.length = qs.length) && (ps.zip qs).all fun x => eqS k x.1 x.2)) ∧ Below w.heap.size w w') := by
  refine enterF (args := [.slice pa pl pc, .slice qa ql qc, .func (.func 24) #[] #[]]) Tryz.func51 rfl Tryz.ntmps51 rfl ?_
  have hS := St.start w
  refine seqF ?_
  refine regF ?_
  refine op_assign rfl rfl ?_
  refine endF ?_
  refine XF.thenN ?_
  refine seqF ?_
  refine seqF ?_
  refine regF ?_
  refine op_move rfl rfl ?_
  refine op_len Tryz.underlying23 rfl rfl ?_
  refine op_move rfl rfl ?_
  refine op_len Tryz.underlying23 rfl rfl ?_
  refine op_neq rfl rfl rfl ?_
  refine endF ?_
  refine XF.thenN ?_
  refine condF rfl (fun hc => ?_) (fun hc => ?_)
  · have hc14 := of_decide_eq_true hc; clear hc
    refine seqF ?_
    refine regF ?_
    refine op_assign rfl rfl ?_
    refine endF ?_
    refine XF.thenN ?_
    refine retF ?_
    refine XF.thenR ?_
    refine XF.res (res1 Tryz.results51 rfl) ?_
    exact ⟨rbool (by rw [decide_eq_false (show ¬ ps.length = qs.length by omega)]; rfl), hS.below⟩
  · have hc14 := of_decide_eq_false hc; clear hc
    refine skipF ?_
    refine XF.thenN ?_
    refine seqF ?_
    refine seqF ?_
    refine regF ?_
    refine op_move rfl rfl ?_
    refine op_len Tryz.underlying23 rfl rfl ?_
    refine op_move rfl rfl ?_
    refine endF ?_
    refine XF.thenN ?_
    refine blockF ?_
    refine loopF (fun q l W => ∃ i : Nat, i ≤ pl ∧ q = pl - i ∧ l = [(1, .slice qa ql qc), (2, .func (.func 24) #[] #[]), (15, .slice pa pl pc), (16, .int .i64 (pl : Int)), (17, .int .i64 (i : Int))] ∧ ((ps.zip qs).take i).all (fun x => eqS k x.1 x.2) = true ∧ St w [] [] [] W) (pl - 0) ([(1, _), (2, _), (15, _), (16, _), (17, _)]) ⟨rfl, rfl, rfl, rfl, rfl, trivial⟩ (⟨0, Nat.zero_le _, rfl, rfl, rfl, hS.clear⟩) ?_
    clear hS
    rintro q l W ⟨i, hi, rfl, rfl, hall, hS⟩
    refine seqF ?_
    refine regF ?_
    refine op_lss rfl rfl rfl ?_
    refine endF ?_
    refine XF.thenN ?_
    refine seqF ?_
    refine condF rfl (fun hc => ?_) (fun hc => ?_)
    · have hc18 := of_decide_eq_true hc; clear hc
      have hk : i < pl := by omega
      obtain ⟨p, hp⟩ : ∃ p, ps[i]? = some p := ⟨ps[i]'(by omega), List.getElem?_eq_getElem _⟩
      obtain ⟨q, hq⟩ : ∃ q, qs[i]? = some q := ⟨qs[i]'(by omega), List.getElem?_eq_getElem _⟩
      have hz : (ps.zip qs)[i]? = some (p, q) := List.getElem?_zip_eq_some.2 ⟨hp, hq⟩
      obtain ⟨b, off, rfl, hb, h6⟩ := hrow.at_ hp
      obtain ⟨b2, off2, rfl, hb2, h7⟩ := hrow2.at_ hq
      have k1 := CellsAt.agree hS.agree (Nat.zero_le _) h6.cells
      have k2 := CellsAt.agree hS.agree (Nat.zero_le _) h7.cells
      refine skipF ?_
      refine XF.thenN ?_
      refine seqF ?_
      refine blockF ?_
      refine seqF ?_
      refine regF ?_
      refine op_move rfl rfl ?_
      refine op_indexA  Tryz.underlying23 Tryz.sizeOf25 rfl rfl rfl (by omega) rfl rfl ?_
      refine op_loadA (vs := [_, _, _]) Tryz.isAgg25 Tryz.sizeOf25 rfl (by assumption) rfl ?_
      refine op_alloc (cs := [_, _, _]) hS Tryz.zeroValue25 rfl rfl ?_
      clear hS; intro B1 W1 hS
      refine op_assign rfl rfl ?_
      refine op_storeA (i := 0) (vs := [_, _, _]) (cs' := [_, _, _]) (O' := [_]) hS Tryz.sizeOf25 rfl rfl rfl rfl rfl rfl rfl ?_
      clear hS; intro W2 hS
      refine endF ?_
      refine XF.thenN ?_
      refine seqF ?_
      clear k2
      have k2 := CellsAt.agree hS.agree (Nat.zero_le _) h7.cells
      refine regF ?_
      refine op_move rfl rfl ?_
      refine op_move rfl rfl ?_
      refine op_indexA  Tryz.underlying23 Tryz.sizeOf25 rfl rfl rfl (by omega) rfl rfl ?_
      refine op_loadA (vs := [_, _, _]) Tryz.isAgg25 Tryz.sizeOf25 rfl (by assumption) rfl ?_
      refine op_alloc (cs := [_, _, _]) hS Tryz.zeroValue25 rfl rfl ?_
      clear hS; intro B3 W3 hS
      refine op_storeA (i := 0) (vs := [_, _, _]) (cs' := [_, _, _]) (O' := [_, _]) hS Tryz.sizeOf25 rfl rfl rfl rfl rfl rfl rfl ?_
      clear hS; intro W4 hS
      refine endF ?_
      refine XF.thenN ?_
      refine seqF ?_
      refine regF ?_
      refine op_move rfl rfl ?_
      refine op_loadA (vs := [_, _, _]) Tryz.isAgg25 Tryz.sizeOf25 rfl (CellsAt.own (j := 0) (m := 3) (hS.at_ 1 rfl) rfl) rfl ?_
      refine op_loadA (vs := [_, _, _]) Tryz.isAgg25 Tryz.sizeOf25 rfl (CellsAt.own (j := 0) (m := 3) (hS.at_ 0 rfl) rfl) rfl ?_
      refine op_callV (vs := [_, _]) hS rfl goes_24 rfl (ih p q _ (SIn.below hS.below (hin p (List.mem_of_getElem? hp))) (SIn.below hS.below (hin2 q (List.mem_of_getElem? hq))) (hsm p (List.mem_of_getElem? hp))) rfl ?_
      rintro e W5 ⟨rfl, hb⟩
      refine ⟨_, rfl, hb, fun hS' => ?_⟩
      clear hS; have hS := hS'; clear hS' hb
      refine op_not rfl rfl ?_
      refine endF ?_
      refine XF.thenN ?_
      refine condF rfl (fun hc => ?_) (fun hc => ?_)
      · have hc30 := hc; clear hc
        refine seqF ?_
        refine regF ?_
        refine op_assign rfl rfl ?_
        refine endF ?_
        refine XF.thenN ?_
        refine retF ?_
        refine XF.blkR ?_
        refine XF.thenR ?_
        refine XF.thenR ?_
        refine XF.blkR ?_
        refine XF.thenR ?_
        refine XF.res (res1 Tryz.results51 rfl) ?_
        exact ⟨rbool (by rw [all_false_at hz (by simpa using hc30)]; simp), hS.below⟩
      · have hc30 := hc; clear hc
        refine skipF ?_
        refine XF.blkN ?_
        refine XF.thenN ?_
        refine regF ?_
        refine op_add rfl rfl (IntWalk.i64_in _ (by omega)) rfl ?_
        refine op_move rfl rfl ?_
        refine endF ?_
        exact XF.round (pl - (i + 1)) [(1, _), (2, _), (15, _), (16, _), (17, _)] (by omega) ⟨rfl, rfl, rfl, rfl, rfl, trivial⟩ ⟨i + 1, by omega, rfl, rfl, all_take_at hz hall (by simpa using hc30), hS.tail.tail.clear⟩
    · have hc18 := of_decide_eq_false hc; clear hc
      refine exitF ?_
      refine XF.thenX ?_
      refine XF.thenX ?_
      refine XF.blkX ?_
      refine XF.thenN ?_
      refine seqF ?_
      refine regF ?_
      refine op_assign rfl rfl ?_
      refine endF ?_
      refine XF.thenN ?_
      refine retF ?_
      refine XF.res (res1 Tryz.results51 rfl) ?_
      rw [List.take_of_length_le (by rw [List.length_zip]; omega)] at hall
      exact ⟨rbool (by rw [hall, decide_eq_true (show ps.length = qs.length by omega)]; rfl), hS.below⟩

set_option maxRecDepth 100000 in
set_option maxHeartbeats 4000000 in
theorem sameSpaceA_step (k j : Nat) (t n u m : Int) (pa qa : Option Addr) (pl ql pc qc : Nat) (ps qs : List SV) (w : World) (hps : ps.length = pl) (hqs : qs.length = ql) (hrow : SRow w pa ps) (hrow2 : SRow w qa qs) (hin : ∀ p ∈ ps, SIn w k p) (hin2 : ∀ p ∈ qs, SIn w k p) (hpl : pl ≤ 9223372036854775807) (hsm : ∀ p ∈ ps, smS j p = true) (ih : ∀ (p q : SV) (W : World), SIn W k p → SIn W k q → smS j p = true → Calls Tryz.prog 24 #[p.f.val, q.f.val] W fun e w' => e = .returned (.bool (eqS k p q)) ∧ Below W.heap.size W w') :
    Calls Tryz.prog 24 #[.agg #[.int .i64 t, .int .i64 n, .slice pa pl pc], .agg #[.int .i64 u, .int .i64 m, .slice qa ql qc]] w (fun e w' => e = .returned (.bool (eqS (k + 1) (.mk ⟨t, n, pa, pl, pc⟩ ps) (.mk ⟨u, m, qa, ql, qc⟩ qs))) ∧ Below w.heap.size w w') := by
  refine enterF (args := [.agg #[.int .i64 t, .int .i64 n, .slice pa pl pc], .agg #[.int .i64 u, .int .i64 m, .slice qa ql qc]]) Tryz.func24 rfl Tryz.ntmps24 rfl ?_
  have hS := St.start w
  refine seqF ?_
  refine regF ?_
  refine op_box (cs := [_, _, _]) hS rfl rfl rfl ?_
  clear hS; intro B1 W1 hS
  refine op_box (cs := [_, _, _]) hS rfl rfl rfl ?_
  clear hS; intro B2 W2 hS
  refine op_assign rfl rfl ?_
  refine endF ?_
  refine XF.thenN ?_
  refine seqF ?_
  refine regF ?_
  refine op_field (o' := 0) fa_25_0 rfl rfl rfl ?_
  refine op_load Tryz.isAgg22 rfl (cell_own (hS.at_ 1 rfl) rfl) rfl ?_
  refine op_field (o' := 0) fa_25_0 rfl rfl rfl ?_
  refine op_load Tryz.isAgg22 rfl (cell_own (hS.at_ 0 rfl) rfl) rfl ?_
  refine op_eql rfl rfl rfl ?_
  refine op_move rfl rfl ?_
  refine op_cases (d := 10) rfl (fun hc => ?_) (fun hc => ?_)
  · have hg10 := of_decide_eq_true hc; clear hc
    refine op_wantedF (d := 10) rfl rfl ?_
    refine op_field (o' := 1) fa_25_1 rfl rfl rfl ?_
    refine op_wantedF (d := 10) rfl rfl ?_
    refine op_load Tryz.isAgg3 rfl (cell_own (hS.at_ 1 rfl) rfl) rfl ?_
    refine op_wantedF (d := 10) rfl rfl ?_
    refine op_field (o' := 1) fa_25_1 rfl rfl rfl ?_
    refine op_wantedF (d := 10) rfl rfl ?_
    refine op_load Tryz.isAgg3 rfl (cell_own (hS.at_ 0 rfl) rfl) rfl ?_
    refine op_wantedF (d := 10) rfl rfl ?_
    refine op_eql rfl rfl rfl ?_
    refine op_pickT rfl rfl rfl ?_
    refine op_move rfl rfl ?_
    refine op_cases (d := 17) rfl (fun hc => ?_) (fun hc => ?_)
    · have hg17 := of_decide_eq_true hc; clear hc
      refine op_wantedF (d := 17) rfl rfl ?_
      refine op_field (o' := 2) fa_25_2 rfl rfl rfl ?_
      refine op_wantedF (d := 17) rfl rfl ?_
      refine op_load Tryz.isAgg23 rfl (cell_own (hS.at_ 1 rfl) rfl) rfl ?_
      refine op_wantedF (d := 17) rfl rfl ?_
      refine op_field (o' := 2) fa_25_2 rfl rfl rfl ?_
      refine op_wantedF (d := 17) rfl rfl ?_
      refine op_load Tryz.isAgg23 rfl (cell_own (hS.at_ 0 rfl) rfl) rfl ?_
      refine op_wantedF (d := 17) rfl rfl ?_
      refine op_call (vs := [_, _, _]) hS goes_51 rfl (equalS_is k j pa qa pl ql pc qc ps qs _ hps hqs (hrow.below hS.below) (hrow2.below hS.below) (fun p hp => SIn.below hS.below (hin p hp)) (fun p hp => SIn.below hS.below (hin2 p hp)) hpl hsm ih) rfl ?_
      rintro e W3 ⟨rfl, hb⟩
      refine ⟨_, rfl, hb, fun hS' => ?_⟩
      clear hS; have hS := hS'; clear hS' hb
      refine op_pickT rfl rfl rfl ?_
      refine op_assign rfl rfl ?_
      refine endF ?_
      refine XF.thenN ?_
      refine retF ?_
      refine XF.res (res1 Tryz.results24 rfl) ?_
      exact ⟨rbool (by simp only [eqS]; rw [decide_eq_true (show t = u by omega), decide_eq_true (show n = m by omega)]; simp), hS.below⟩
    · have hg17 := of_decide_eq_false hc; clear hc
      refine op_notF (d := 17) rfl rfl rfl rfl ?_
      refine op_notF (d := 17) rfl rfl rfl rfl ?_
      refine op_notF (d := 17) rfl rfl rfl rfl ?_
      refine op_notF (d := 17) rfl rfl rfl rfl ?_
      refine op_notF (d := 17) rfl rfl rfl rfl ?_
      refine op_pickF rfl rfl rfl ?_
      refine op_assign rfl rfl ?_
      refine endF ?_
      refine XF.thenN ?_
      refine retF ?_
      refine XF.res (res1 Tryz.results24 rfl) ?_
      exact ⟨rbool (by simp only [eqS]; rw [decide_eq_false (show ¬ n = m by omega)]; simp), hS.below⟩
  · have hg10 := of_decide_eq_false hc; clear hc
    refine op_notF (d := 10) rfl rfl rfl rfl ?_
    refine op_notF (d := 10) rfl rfl rfl rfl ?_
    refine op_notF (d := 10) rfl rfl rfl rfl ?_
    refine op_notF (d := 10) rfl rfl rfl rfl ?_
    refine op_notF (d := 10) rfl rfl rfl rfl ?_
    refine op_pickF rfl rfl rfl ?_
    refine op_move rfl rfl ?_
    refine op_notF (d := 17) rfl rfl rfl rfl ?_
    refine op_notF (d := 17) rfl rfl rfl rfl ?_
    refine op_notF (d := 17) rfl rfl rfl rfl ?_
    refine op_notF (d := 17) rfl rfl rfl rfl ?_
    refine op_notF (d := 17) rfl rfl rfl rfl ?_
    refine op_pickF rfl rfl rfl ?_
    refine op_assign rfl rfl ?_
    refine endF ?_
    refine XF.thenN ?_
    refine retF ?_
    refine XF.res (res1 Tryz.results24 rfl) ?_
    exact ⟨rbool (by simp only [eqS]; rw [decide_eq_false (show ¬ t = u by omega)]; rfl), hS.below⟩

theorem sameSpaceR_is : ∀ (k j : Nat) (s t : SV) (w : World), SIn w k s → SIn w k t → smS j s = true → Calls Tryz.prog 25 #[s.f.val, t.f.val] w fun e w' => e = .returned (.bool (eqS k s t)) ∧ Below w.heap.size w w'
  | 0, _, s, t, w, hs, ht, _ => hs.elim
  | k + 1, 0, s, t, w, hs, ht, h => by simp [smS] at h
  | k + 1, j + 1, .mk ⟨t, n, pa, pl, pc⟩ ps, .mk ⟨u, m, qa, ql, qc⟩ qs, w, hs, ht, h => sameSpaceR_step k j t n u m pa qa pl ql pc qc ps qs w hs.1 ht.1 hs.2.1 ht.2.1 hs.2.2 ht.2.2 (by have : pl ≤ 3 := (smS_succ h).1; omega) (smS_succ h).2 (fun p q W hp hq hj => sameSpaceR_is k j p q W hp hq hj)
theorem sameSpaceA_is : ∀ (k j : Nat) (s t : SV) (w : World), SIn w k s → SIn w k t → smS j s = true → Calls Tryz.prog 24 #[s.f.val, t.f.val] w fun e w' => e = .returned (.bool (eqS k s t)) ∧ Below w.heap.size w w'
  | 0, _, s, t, w, hs, ht, _ => hs.elim
  | k + 1, 0, s, t, w, hs, ht, h => by simp [smS] at h
  | k + 1, j + 1, .mk ⟨t, n, pa, pl, pc⟩ ps, .mk ⟨u, m, qa, ql, qc⟩ qs, w, hs, ht, h => sameSpaceA_step k j t n u m pa qa pl ql pc qc ps qs w hs.1 ht.1 hs.2.1 ht.2.1 hs.2.2 ht.2.2 (by have : pl ≤ 3 := (smS_succ h).1; omega) (smS_succ h).2 (fun p q W hp hq hj => sameSpaceA_is k j p q W hp hq hj)
theorem zip_self_all {α : Type} {f : α → α → Bool} : ∀ (l : List α), (∀ x ∈ l, f x x = true) → (l.zip l).all (fun x => f x.1 x.2) = true
  | [], _ => rfl
  | a :: l, h => by
    rw [List.zip_cons_cons, List.all_cons, h a List.mem_cons_self, zip_self_all l fun x hx => h x (List.mem_cons_of_mem _ hx)]; rfl
theorem eqS_self {w : World} : ∀ {k : Nat} {s : SV}, SIn w k s → eqS k s s = true
  | 0, _, h => h.elim
  | k + 1, .mk f ps, h => by
    simp only [eqS]
    rw [zip_self_all ps (fun x hx => eqS_self (h.2.2 x hx))]
    simp
end Go.Proofs.YtjcminoaiieckaaGreatDoor
namespace Go.Proofs.YtjcminoaiieckaaGreatDoor
open Go Go.RowKit
set_option linter.unusedVariables false
def eqW : Nat → WV → WV → Bool
  | 0, _, _ => false
  | k + 1, .mk f ps, .mk g qs => decide (f.z = g.z ∧ f.c = g.c ∧ f.g = g.g ∧ f.rows = g.rows) && (sameC f.cells g.cells && (decide (ps.length = qs.length) && (ps.zip qs).all fun x => eqW k x.1 x.2))
theorem r_same {r b : Bool} {p : Prop} (hr : r = true ↔ p) (h : p ↔ b = true) : b = r := by
  cases r <;> cases b <;> simp_all
theorem smN_succ {j : Nat} {f : WF} {ps : List WV} (h : smN (j + 1) (.mk f ps) = true) : f.rl ≤ 70 ∧ f.cl ≤ 70 ∧ f.pl ≤ 3 ∧ ∀ p ∈ ps, smN j p = true := by
  simp only [smN, Bool.and_eq_true, decide_eq_true_eq, List.all_eq_true] at h
  exact h

set_option maxRecDepth 100000 in
set_option maxHeartbeats 4000000 in
theorem sameWR_step (k j : Nat) (az : Bool) (ac : Int) (ag : Nat) (ara : Option Addr) (arl arc : Nat) (arows : List Nat) (aca : Option Addr) (acl acc : Nat) (acells : List Cl) (apa : Option Addr) (apl apc : Nat)(bz : Bool) (bc : Int) (bg : Nat) (bra : Option Addr) (brl brc : Nat) (brows : List Nat) (bca : Option Addr) (bcl bcc : Nat) (bcells : List Cl) (bpa : Option Addr) (bpl bpc : Nat)(ps qs : List WV) (w : World) (hra : VRow w ara (u64s arows)) (hla : arows.length = arl) (hma : arl ≤ 100) (hca : CRow w aca acells) (hka : acells.length = acl) (hna : acl ≤ 100)(hrb : VRow w bra (u64s brows)) (hlb : brows.length = brl) (hmb : brl ≤ 100) (hcb : CRow w bca bcells) (hkb : bcells.length = bcl) (hnb : bcl ≤ 100)(hps : ps.length = apl) (hqs : qs.length = bpl) (hrow : PRow w apa ps) (hrow2 : PRow w bpa qs) (hin : ∀ p ∈ ps, WIn w k p) (hin2 : ∀ p ∈ qs, WIn w k p) (hpl : apl ≤ 9223372036854775807) (hsm : ∀ p ∈ ps, smN j p = true) (hsm2 : ∀ p ∈ qs, smN j p = true) (ih : ∀ (p q : WV) (W : World), WIn W k p → WIn W k q → smN j p = true → smN j q = true → Calls Tryz.prog 22 #[p.f.val, q.f.val] W fun e w' => e = .returned (.bool (eqW k p q)) ∧ Below W.heap.size W w') (r : Bool) (hr : r = true ↔ (az = bz ∧ ac = bc ∧ ag = bg ∧ arows = brows ∧ acells = bcells ∧ (decide (ps.length = qs.length) && (ps.zip qs).all fun x => eqW k x.1 x.2) = true)) :
    Calls Tryz.prog 22 #[.agg #[.bool az, .int .i64 ac, .int .u64 (ag : Int), .slice ara arl arc, .slice aca acl acc, .slice apa apl apc], .agg #[.bool bz, .int .i64 bc, .int .u64 (bg : Int), .slice bra brl brc, .slice bca bcl bcc, .slice bpa bpl bpc]] w (fun e w' => e = .returned (.bool r) ∧ Below w.heap.size w w') := by
  refine enterF (args := [.agg #[.bool az, .int .i64 ac, .int .u64 (ag : Int), .slice ara arl arc, .slice aca acl acc, .slice apa apl apc], .agg #[.bool bz, .int .i64 bc, .int .u64 (bg : Int), .slice bra brl brc, .slice bca bcl bcc, .slice bpa bpl bpc]]) Tryz.func22 rfl Tryz.ntmps22 rfl ?_
  have hS := St.start w
  refine seqF ?_
  refine regF ?_
  refine op_box (cs := [_, _, _, _, _, _]) hS rfl rfl rfl ?_
  clear hS; intro B1 W1 hS
  refine op_box (cs := [_, _, _, _, _, _]) hS rfl rfl rfl ?_
  clear hS; intro B2 W2 hS
  refine op_assign rfl rfl ?_
  refine endF ?_
  refine XF.thenN ?_
  refine seqF ?_
  refine seqF ?_
  refine regF ?_
  refine op_field (o' := 0) fa_33_0 rfl rfl rfl ?_
  refine op_load Tryz.isAgg4 rfl (cell_own (hS.at_ 1 rfl) rfl) rfl ?_
  refine op_field (o' := 0) fa_33_0 rfl rfl rfl ?_
  refine op_load Tryz.isAgg4 rfl (cell_own (hS.at_ 0 rfl) rfl) rfl ?_
  refine op_neqB Tryz.underlying4 rfl rfl rfl ?_
  refine op_move rfl rfl ?_
  refine op_cases (d := 12) rfl (fun hc => ?_) (fun hc => ?_)
  · have hg12 := hc; clear hc
    refine op_notF (d := 12) rfl rfl rfl rfl ?_
    refine op_notF (d := 12) rfl rfl rfl rfl ?_
    refine op_notF (d := 12) rfl rfl rfl rfl ?_
    refine op_notF (d := 12) rfl rfl rfl rfl ?_
    refine op_notF (d := 12) rfl rfl rfl rfl ?_
    refine op_pickT rfl rfl rfl ?_
    refine op_move rfl rfl ?_
    refine op_notF (d := 19) rfl rfl rfl rfl ?_
    refine op_notF (d := 19) rfl rfl rfl rfl ?_
    refine op_notF (d := 19) rfl rfl rfl rfl ?_
    refine op_notF (d := 19) rfl rfl rfl rfl ?_
    refine op_notF (d := 19) rfl rfl rfl rfl ?_
    refine op_notF (d := 19) rfl rfl rfl rfl ?_
    refine op_pickT rfl rfl rfl ?_
    refine op_move rfl rfl ?_
    refine op_notF (d := 27) rfl rfl rfl rfl ?_
    refine op_notF (d := 27) rfl rfl rfl rfl ?_
    refine op_notF (d := 27) rfl rfl rfl rfl ?_
    refine op_notF (d := 27) rfl rfl rfl rfl ?_
    refine op_notF (d := 27) rfl rfl rfl rfl ?_
    refine op_notF (d := 27) rfl rfl rfl rfl ?_
    refine op_notF (d := 27) rfl rfl rfl rfl ?_
    refine op_pickT rfl rfl rfl ?_
    refine op_move rfl rfl ?_
    refine op_notF (d := 36) rfl rfl rfl rfl ?_
    refine op_notF (d := 36) rfl rfl rfl rfl ?_
    refine op_notF (d := 36) rfl rfl rfl rfl ?_
    refine op_notF (d := 36) rfl rfl rfl rfl ?_
    refine op_notF (d := 36) rfl rfl rfl rfl ?_
    refine op_notF (d := 36) rfl rfl rfl rfl ?_
    refine op_notF (d := 36) rfl rfl rfl rfl ?_
    refine op_pickT rfl rfl rfl ?_
    refine endF ?_
    refine XF.thenN ?_
    refine condT rfl ?_
    refine seqF ?_
    refine regF ?_
    refine op_assign rfl rfl ?_
    refine endF ?_
    refine XF.thenN ?_
    refine retF ?_
    refine XF.thenR ?_
    refine XF.res (res1 Tryz.results22 rfl) ?_
    exact ⟨rbool (r_false hr (fun h => by have h1 := h.1; subst h1; simp at hg12)), hS.below⟩
  · have hg12 := hc; clear hc
    refine op_wantedF (d := 12) rfl rfl ?_
    refine op_field (o' := 1) fa_33_1 rfl rfl rfl ?_
    refine op_wantedF (d := 12) rfl rfl ?_
    refine op_load Tryz.isAgg3 rfl (cell_own (hS.at_ 1 rfl) rfl) rfl ?_
    refine op_wantedF (d := 12) rfl rfl ?_
    refine op_field (o' := 1) fa_33_1 rfl rfl rfl ?_
    refine op_wantedF (d := 12) rfl rfl ?_
    refine op_load Tryz.isAgg3 rfl (cell_own (hS.at_ 0 rfl) rfl) rfl ?_
    refine op_wantedF (d := 12) rfl rfl ?_
    refine op_neq rfl rfl rfl ?_
    refine op_pickF rfl rfl rfl ?_
    refine op_move rfl rfl ?_
    refine op_cases (d := 19) rfl (fun hc => ?_) (fun hc => ?_)
    · have hg19 := of_decide_eq_true hc; clear hc
      refine op_notF (d := 19) rfl rfl rfl rfl ?_
      refine op_notF (d := 19) rfl rfl rfl rfl ?_
      refine op_notF (d := 19) rfl rfl rfl rfl ?_
      refine op_notF (d := 19) rfl rfl rfl rfl ?_
      refine op_notF (d := 19) rfl rfl rfl rfl ?_
      refine op_notF (d := 19) rfl rfl rfl rfl ?_
      refine op_pickT rfl rfl rfl ?_
      refine op_move rfl rfl ?_
      refine op_notF (d := 27) rfl rfl rfl rfl ?_
      refine op_notF (d := 27) rfl rfl rfl rfl ?_
      refine op_notF (d := 27) rfl rfl rfl rfl ?_
      refine op_notF (d := 27) rfl rfl rfl rfl ?_
      refine op_notF (d := 27) rfl rfl rfl rfl ?_
      refine op_notF (d := 27) rfl rfl rfl rfl ?_
      refine op_notF (d := 27) rfl rfl rfl rfl ?_
      refine op_pickT rfl rfl rfl ?_
      refine op_move rfl rfl ?_
      refine op_notF (d := 36) rfl rfl rfl rfl ?_
      refine op_notF (d := 36) rfl rfl rfl rfl ?_
      refine op_notF (d := 36) rfl rfl rfl rfl ?_
      refine op_notF (d := 36) rfl rfl rfl rfl ?_
      refine op_notF (d := 36) rfl rfl rfl rfl ?_
      refine op_notF (d := 36) rfl rfl rfl rfl ?_
      refine op_notF (d := 36) rfl rfl rfl rfl ?_
      refine op_pickT rfl rfl rfl ?_
      refine endF ?_
      refine XF.thenN ?_
      refine condT rfl ?_
      refine seqF ?_
      refine regF ?_
      refine op_assign rfl rfl ?_
      refine endF ?_
      refine XF.thenN ?_
      refine retF ?_
      refine XF.thenR ?_
      refine XF.res (res1 Tryz.results22 rfl) ?_
      exact ⟨rbool (r_false hr (fun h => hg19 h.2.1)), hS.below⟩
    · have hg19 := of_decide_eq_false hc; clear hc
      refine op_wantedF (d := 19) rfl rfl ?_
      refine op_field (o' := 2) fa_33_2 rfl rfl rfl ?_
      refine op_wantedF (d := 19) rfl rfl ?_
      refine op_loadA (vs := [_, _]) Tryz.isAgg29 Tryz.sizeOf29 rfl (CellsAt.own (j := 2) (m := 2) (hS.at_ 1 rfl) rfl) rfl ?_
      refine op_wantedF (d := 19) rfl rfl ?_
      refine op_field (o' := 2) fa_33_2 rfl rfl rfl ?_
      refine op_wantedF (d := 19) rfl rfl ?_
      refine op_loadA (vs := [_, _]) Tryz.isAgg29 Tryz.sizeOf29 rfl (CellsAt.own (j := 2) (m := 2) (hS.at_ 0 rfl) rfl) rfl ?_
      refine op_wantedF (d := 19) rfl rfl ?_
      refine op_call (vs := [_, _]) hS goes_47 rfl (sameR_is _ _ _ _ _ _ _ _ _ (by omega) (by omega) (VRow.below hra hS.below) (VRow.below hrb hS.below) _ rfl _ _ hla hlb) rfl ?_
      rintro e W3 ⟨rfl, hb⟩
      refine ⟨_, rfl, hb, fun hS' => ?_⟩
      clear hS; have hS := hS'; clear hS' hb
      refine op_wantedF (d := 19) rfl rfl ?_
      refine op_not rfl rfl ?_
      refine op_pickF rfl rfl rfl ?_
      refine op_move rfl rfl ?_
      refine op_cases (d := 27) rfl (fun hc => ?_) (fun hc => ?_)
      · have hg27 := hc; clear hc
        refine op_notF (d := 27) rfl rfl rfl rfl ?_
        refine op_notF (d := 27) rfl rfl rfl rfl ?_
        refine op_notF (d := 27) rfl rfl rfl rfl ?_
        refine op_notF (d := 27) rfl rfl rfl rfl ?_
        refine op_notF (d := 27) rfl rfl rfl rfl ?_
        refine op_notF (d := 27) rfl rfl rfl rfl ?_
        refine op_notF (d := 27) rfl rfl rfl rfl ?_
        refine op_pickT rfl rfl rfl ?_
        refine op_move rfl rfl ?_
        refine op_notF (d := 36) rfl rfl rfl rfl ?_
        refine op_notF (d := 36) rfl rfl rfl rfl ?_
        refine op_notF (d := 36) rfl rfl rfl rfl ?_
        refine op_notF (d := 36) rfl rfl rfl rfl ?_
        refine op_notF (d := 36) rfl rfl rfl rfl ?_
        refine op_notF (d := 36) rfl rfl rfl rfl ?_
        refine op_notF (d := 36) rfl rfl rfl rfl ?_
        refine op_pickT rfl rfl rfl ?_
        refine endF ?_
        refine XF.thenN ?_
        refine condT rfl ?_
        refine seqF ?_
        refine regF ?_
        refine op_assign rfl rfl ?_
        refine endF ?_
        refine XF.thenN ?_
        refine retF ?_
        refine XF.thenR ?_
        refine XF.res (res1 Tryz.results22 rfl) ?_
        exact ⟨rbool (r_false hr (fun h => by obtain ⟨_, _, h3, h4, _⟩ := h; subst h3; subst h4; rw [same_self] at hg27; cases hg27)), hS.below⟩
      · have hg27 := hc; clear hc
        refine op_wantedF (d := 27) rfl rfl ?_
        refine op_field (o' := 4) fa_33_3 rfl rfl rfl ?_
        refine op_wantedF (d := 27) rfl rfl ?_
        refine op_load Tryz.isAgg30 rfl (cell_own (hS.at_ 1 rfl) rfl) rfl ?_
        refine op_wantedF (d := 27) rfl rfl ?_
        refine op_len Tryz.underlying30 rfl rfl ?_
        refine op_wantedF (d := 27) rfl rfl ?_
        refine op_field (o' := 4) fa_33_3 rfl rfl rfl ?_
        refine op_wantedF (d := 27) rfl rfl ?_
        refine op_load Tryz.isAgg30 rfl (cell_own (hS.at_ 0 rfl) rfl) rfl ?_
        refine op_wantedF (d := 27) rfl rfl ?_
        refine op_len Tryz.underlying30 rfl rfl ?_
        refine op_wantedF (d := 27) rfl rfl ?_
        refine op_neq rfl rfl rfl ?_
        refine op_pickF rfl rfl rfl ?_
        refine op_move rfl rfl ?_
        refine op_cases (d := 36) rfl (fun hc => ?_) (fun hc => ?_)
        · have hg36 := of_decide_eq_true hc; clear hc
          refine op_notF (d := 36) rfl rfl rfl rfl ?_
          refine op_notF (d := 36) rfl rfl rfl rfl ?_
          refine op_notF (d := 36) rfl rfl rfl rfl ?_
          refine op_notF (d := 36) rfl rfl rfl rfl ?_
          refine op_notF (d := 36) rfl rfl rfl rfl ?_
          refine op_notF (d := 36) rfl rfl rfl rfl ?_
          refine op_notF (d := 36) rfl rfl rfl rfl ?_
          refine op_pickT rfl rfl rfl ?_
          refine endF ?_
          refine XF.thenN ?_
          refine condT rfl ?_
          refine seqF ?_
          refine regF ?_
          refine op_assign rfl rfl ?_
          refine endF ?_
          refine XF.thenN ?_
          refine retF ?_
          refine XF.thenR ?_
          refine XF.res (res1 Tryz.results22 rfl) ?_
          exact ⟨rbool (r_false hr (fun h => by have h5 := h.2.2.2.2.1; subst h5; omega)), hS.below⟩
        · have hg36 := of_decide_eq_false hc; clear hc
          have hz : az = bz := by simpa using hg12
          have hcc : ac = bc := by omega
          have hff : ag = bg ∧ arows = brows := by simpa [sameB] using hg27
          have hcl : acl = bcl := by omega
          refine op_wantedF (d := 36) rfl rfl ?_
          refine op_field (o' := 5) fa_33_4 rfl rfl rfl ?_
          refine op_wantedF (d := 36) rfl rfl ?_
          refine op_load Tryz.isAgg31 rfl (cell_own (hS.at_ 1 rfl) rfl) rfl ?_
          refine op_wantedF (d := 36) rfl rfl ?_
          refine op_len Tryz.underlying31 rfl rfl ?_
          refine op_wantedF (d := 36) rfl rfl ?_
          refine op_field (o' := 5) fa_33_4 rfl rfl rfl ?_
          refine op_wantedF (d := 36) rfl rfl ?_
          refine op_load Tryz.isAgg31 rfl (cell_own (hS.at_ 0 rfl) rfl) rfl ?_
          refine op_wantedF (d := 36) rfl rfl ?_
          refine op_len Tryz.underlying31 rfl rfl ?_
          refine op_wantedF (d := 36) rfl rfl ?_
          refine op_neq rfl rfl rfl ?_
          refine op_pickF rfl rfl rfl ?_
          refine endF ?_
          refine XF.thenN ?_
          refine condF rfl (fun hc => ?_) (fun hc => ?_)
          · have hc44 := of_decide_eq_true hc; clear hc
            refine seqF ?_
            refine regF ?_
            refine op_assign rfl rfl ?_
            refine endF ?_
            refine XF.thenN ?_
            refine retF ?_
            refine XF.thenR ?_
            refine XF.res (res1 Tryz.results22 rfl) ?_
            exact ⟨rbool (r_false hr (fun h => by have h6 := h.2.2.2.2.2; rw [decide_eq_false (show ¬ ps.length = qs.length by omega)] at h6; cases h6)), hS.below⟩
          · have hc44 := of_decide_eq_false hc; clear hc
            refine skipF ?_
            refine XF.thenN ?_
            refine seqF ?_
            refine seqF ?_
            refine regF ?_
            refine op_assign rfl rfl ?_
            refine endF ?_
            refine XF.thenN ?_
            refine blockF ?_
            refine loopF (fun q l W => ∃ i : Nat, i ≤ acl ∧ q = acl - i ∧ l = [(2, .pointer (some ⟨B1, 0, none⟩)), (3, .pointer (some ⟨B2, 0, none⟩)), (5, .int .i64 (i : Int))] ∧ acells.take i = bcells.take i ∧ St w [(B2, [.bool bz, .int .i64 bc, .int .u64 (bg : Int), .slice bra brl brc, .slice bca bcl bcc, .slice bpa bpl bpc], 33), (B1, [.bool az, .int .i64 ac, .int .u64 (ag : Int), .slice ara arl arc, .slice aca acl acc, .slice apa apl apc], 33)] [] [] W) (acl - 0) ([(2, _), (3, _), (5, _)]) ⟨rfl, rfl, rfl, trivial⟩ (⟨0, Nat.zero_le _, rfl, rfl, rfl, hS.clear⟩) ?_
            clear hS
            rintro q l W ⟨i, hi, rfl, rfl, hall, hS⟩
            refine seqF ?_
            refine seqF ?_
            refine regF ?_
            refine op_move rfl rfl ?_
            refine op_field (o' := 4) fa_33_3 rfl rfl rfl ?_
            refine op_load Tryz.isAgg30 rfl (cell_own (hS.at_ 1 rfl) rfl) rfl ?_
            refine op_len Tryz.underlying30 rfl rfl ?_
            refine op_lss rfl rfl rfl ?_
            refine endF ?_
            refine XF.thenN ?_
            refine condF rfl (fun hc => ?_) (fun hc => ?_)
            · have hc49 := of_decide_eq_true hc; clear hc
              have hk : i < acl := by omega
              obtain ⟨b1, o1, x, hx1, hx2, _, x0, x1, x2⟩ := hca.at_ (k := i) (by omega)
              obtain ⟨b2, o2, y, hy1, hy2, _, y0, y1, y2⟩ := hcb.at_ (k := i) (by omega)
              subst hx1; subst hy1
              have k1 : CellsAt W b1 (o1 + i * 3) [.int .u64 (x.f : Int), .int .i64 x.k, .int .i64 x.v] := CellsAt.agree hS.agree (Nat.zero_le _) ⟨x0, x1, x2, trivial⟩
              have k2 : CellsAt W b2 (o2 + i * 3) [.int .u64 (y.f : Int), .int .i64 y.k, .int .i64 y.v] := CellsAt.agree hS.agree (Nat.zero_le _) ⟨y0, y1, y2, trivial⟩
              refine skipF ?_
              refine XF.thenN ?_
              refine seqF ?_
              refine blockF ?_
              refine seqF ?_
              refine regB (m := 11) followsM hS (by kernel_rfl) (by kernel_rfl) rfl ?_
              refine bl_cons 1 rfl (isV _) (stab_isV _) (rgV (li := [(2, _)]) rfl (w_free rfl) ⟨g_fr (by kernel_rfl) rfl, trivial⟩ (fun w hw => rn_field (o' := 4) fa_33_3 rfl rfl) (at_top rfl)) ?_
              refine bl_cons 2 rfl (isV _) (stab_isV _) (rgV (li := [(52, _)]) rfl (w_free rfl) ⟨g_dep 0 (by kernel_rfl) (at_dep rfl rfl rfl), trivial⟩ (fun w hw => rn_load Tryz.isAgg30 rfl ((below_agree hw 0).cell (Nat.zero_le _) (cell_own (hS.at_ 1 rfl) rfl))) (at_top rfl)) ?_
              refine bl_cons 3 rfl (isV _) (stab_isV _) (rgV (li := [(5, _)]) rfl (w_free rfl) ⟨g_fr (by kernel_rfl) rfl, trivial⟩ (fun w hw => rn_move rfl) (at_top rfl)) ?_
              refine bl_cons 4 rfl (isV _) (stab_isV _) (rgV (li := [(53, _), (54, _)]) rfl (w_free rfl) ⟨g_dep 1 (by kernel_rfl) (at_dep rfl rfl rfl), g_dep 2 (by kernel_rfl) (at_dep rfl rfl rfl), trivial⟩ (fun w hw => rn_indexA  Tryz.underlying30 Tryz.sizeOf73 rfl rfl rfl (by omega) rfl) (at_top rfl)) ?_
              refine bl_cons 5 rfl (isV _) (stab_isV _) (rgV (li := [(55, _)]) rfl (w_free rfl) ⟨g_dep 3 (by kernel_rfl) (at_dep rfl rfl rfl), trivial⟩ (fun w hw => rn_loadA (vs := [_, _, _]) Tryz.isAgg73 Tryz.sizeOf73 rfl (CellsAt.agree (below_agree hw 0) (Nat.zero_le _) (by assumption))) (at_top rfl)) ?_
              refine bl_cons 6 rfl (isV _) (stab_isV _) (rgV (li := [(3, _)]) rfl (w_free rfl) ⟨g_fr (by kernel_rfl) rfl, trivial⟩ (fun w hw => rn_field (o' := 4) fa_33_3 rfl rfl) (at_top rfl)) ?_
              refine bl_cons 7 rfl (isV _) (stab_isV _) (rgV (li := [(57, _)]) rfl (w_free rfl) ⟨g_dep 5 (by kernel_rfl) (at_dep rfl rfl rfl), trivial⟩ (fun w hw => rn_load Tryz.isAgg30 rfl ((below_agree hw 0).cell (Nat.zero_le _) (cell_own (hS.at_ 0 rfl) rfl))) (at_top rfl)) ?_
              refine bl_cons 8 rfl (isV _) (stab_isV _) (rgV (li := [(5, _)]) rfl (w_free rfl) ⟨g_fr (by kernel_rfl) rfl, trivial⟩ (fun w hw => rn_move rfl) (at_top rfl)) ?_
              refine bl_cons 9 rfl (isV _) (stab_isV _) (rgV (li := [(58, _), (59, _)]) rfl (w_free rfl) ⟨g_dep 6 (by kernel_rfl) (at_dep rfl rfl rfl), g_dep 7 (by kernel_rfl) (at_dep rfl rfl rfl), trivial⟩ (fun w hw => rn_indexA  Tryz.underlying30 Tryz.sizeOf73 rfl rfl rfl (by omega) rfl) (at_top rfl)) ?_
              refine bl_cons 10 rfl (isV _) (stab_isV _) (rgV (li := [(60, _)]) rfl (w_free rfl) ⟨g_dep 8 (by kernel_rfl) (at_dep rfl rfl rfl), trivial⟩ (fun w hw => rn_loadA (vs := [_, _, _]) Tryz.isAgg73 Tryz.sizeOf73 rfl (CellsAt.agree (below_agree hw 0) (Nat.zero_le _) (by assumption))) (at_top rfl)) ?_
              refine bl_cons 11 rfl (isV _) (stab_isV _) (rgV (li := [(56, _), (61, _)]) rfl (w_free rfl) ⟨g_dep 4 (by kernel_rfl) (at_dep rfl rfl rfl), g_dep 9 (by kernel_rfl) (at_dep rfl rfl rfl), trivial⟩ (fun w hw => rn_binG rfl rfl (run_eqGuard_agg _ _ _ _ _ _ _ (by kernel_rfl)) (neq_is x y _ rfl w)) (at_top rfl)) ?_
              refine bl_nil ?_
              intro W4 hbR hS'
              clear hS; have hS := hS'; clear hS'
              refine fin_v ?_
              refine fin_v ?_
              refine fin_v ?_
              refine fin_v ?_
              refine fin_v ?_
              refine fin_v ?_
              refine fin_v ?_
              refine fin_v ?_
              refine fin_v ?_
              refine fin_v ?_
              refine fin_v ?_
              refine fin_nil ?_
              refine XF.thenN ?_
              refine condF rfl (fun hc => ?_) (fun hc => ?_)
              · have hc62 := hc; clear hc
                refine seqF ?_
                refine regF ?_
                refine op_assign rfl rfl ?_
                refine endF ?_
                refine XF.thenN ?_
                refine retF ?_
                refine XF.blkR ?_
                refine XF.thenR ?_
                refine XF.thenR ?_
                refine XF.blkR ?_
                refine XF.thenR ?_
                refine XF.res (res1 Tryz.results22 rfl) ?_
                exact ⟨rbool (r_false hr (fun h => by have h5 := h.2.2.2.2.1; subst h5; rw [hx2] at hy2; cases hy2; simp [sameCl] at hc62)), hS.below⟩
              · have hc62 := hc; clear hc
                have hxy : x = y := by
                  obtain ⟨xf, xk, xv⟩ := x
                  obtain ⟨yf, yk, yv⟩ := y
                  simp [sameCl] at hc62
                  simp [hc62]
                subst hxy
                refine skipF ?_
                refine XF.blkN ?_
                refine XF.thenN ?_
                refine regF ?_
                refine op_move rfl rfl ?_
                refine op_add rfl rfl (IntWalk.i64_in _ (by omega)) rfl ?_
                refine op_assign rfl rfl ?_
                refine endF ?_
                exact XF.round (acl - (i + 1)) [(2, _), (3, _), (5, _)] (by omega) ⟨rfl, rfl, rfl, trivial⟩ ⟨i + 1, by omega, rfl, rfl, by rw [List.take_add_one, List.take_add_one, hx2, hy2, hall], hS.clear⟩
            · have hc49 := of_decide_eq_false hc; clear hc
              have hce : acells = bcells := by
                rw [List.take_of_length_le (by omega), List.take_of_length_le (by omega)] at hall
                exact hall
              refine exitF ?_
              refine XF.thenX ?_
              refine XF.thenX ?_
              refine XF.blkX ?_
              refine XF.thenN ?_
              refine seqF ?_
              refine seqF ?_
              refine regF ?_
              refine op_assign rfl rfl ?_
              refine endF ?_
              refine XF.thenN ?_
              refine blockF ?_
              refine loopF (fun q l W => ∃ i : Nat, i ≤ apl ∧ q = apl - i ∧ l = [(2, .pointer (some ⟨B1, 0, none⟩)), (3, .pointer (some ⟨B2, 0, none⟩)), (6, .int .i64 (i : Int))] ∧ ((ps.zip qs).take i).all (fun x => eqW k x.1 x.2) = true ∧ St w [(B2, [.bool bz, .int .i64 bc, .int .u64 (bg : Int), .slice bra brl brc, .slice bca bcl bcc, .slice bpa bpl bpc], 33), (B1, [.bool az, .int .i64 ac, .int .u64 (ag : Int), .slice ara arl arc, .slice aca acl acc, .slice apa apl apc], 33)] [] [] W) (apl - 0) ([(2, _), (3, _), (6, _)]) ⟨rfl, rfl, rfl, trivial⟩ (⟨0, Nat.zero_le _, rfl, rfl, rfl, hS.clear⟩) ?_
              clear hS
              rintro q l W ⟨i, hi, rfl, rfl, hall2, hS⟩
              refine seqF ?_
              refine seqF ?_
              refine regF ?_
              refine op_move rfl rfl ?_
              refine op_field (o' := 5) fa_33_4 rfl rfl rfl ?_
              refine op_load Tryz.isAgg31 rfl (cell_own (hS.at_ 1 rfl) rfl) rfl ?_
              refine op_len Tryz.underlying31 rfl rfl ?_
              refine op_lss rfl rfl rfl ?_
              refine endF ?_
              refine XF.thenN ?_
              refine condF rfl (fun hc => ?_) (fun hc => ?_)
              · have hc67 := of_decide_eq_true hc; clear hc
                have hk : i < apl := by omega
                obtain ⟨p, hp⟩ : ∃ p, ps[i]? = some p := ⟨ps[i]'(by omega), List.getElem?_eq_getElem _⟩
                obtain ⟨q, hq⟩ : ∃ q, qs[i]? = some q := ⟨qs[i]'(by omega), List.getElem?_eq_getElem _⟩
                have hzp : (ps.zip qs)[i]? = some (p, q) := List.getElem?_zip_eq_some.2 ⟨hp, hq⟩
                obtain ⟨b, off, rfl, hb, h6⟩ := hrow.at_ hp
                obtain ⟨b2, off2, rfl, hb2, h7⟩ := hrow2.at_ hq
                have k1 := CellsAt.agree hS.agree (Nat.zero_le _) h6.cells
                have k2 := CellsAt.agree hS.agree (Nat.zero_le _) h7.cells
                refine skipF ?_
                refine XF.thenN ?_
                refine seqF ?_
                refine blockF ?_
                refine seqF ?_
                refine regB (m := 12) followsM hS (by kernel_rfl) (by kernel_rfl) rfl ?_
                refine bl_cons 1 rfl (isV _) (stab_isV _) (rgV (li := [(2, _)]) rfl (w_free rfl) ⟨g_fr (by kernel_rfl) rfl, trivial⟩ (fun w hw => rn_field (o' := 5) fa_33_4 rfl rfl) (at_top rfl)) ?_
                refine bl_cons 2 rfl (isV _) (stab_isV _) (rgV (li := [(70, _)]) rfl (w_free rfl) ⟨g_dep 0 (by kernel_rfl) (at_dep rfl rfl rfl), trivial⟩ (fun w hw => rn_load Tryz.isAgg31 rfl ((below_agree hw 0).cell (Nat.zero_le _) (cell_own (hS.at_ 1 rfl) rfl))) (at_top rfl)) ?_
                refine bl_cons 3 rfl (isV _) (stab_isV _) (rgV (li := [(6, _)]) rfl (w_free rfl) ⟨g_fr (by kernel_rfl) rfl, trivial⟩ (fun w hw => rn_move rfl) (at_top rfl)) ?_
                refine bl_cons 4 rfl (isV _) (stab_isV _) (rgV (li := [(71, _), (72, _)]) rfl (w_free rfl) ⟨g_dep 1 (by kernel_rfl) (at_dep rfl rfl rfl), g_dep 2 (by kernel_rfl) (at_dep rfl rfl rfl), trivial⟩ (fun w hw => rn_indexA  Tryz.underlying31 Tryz.sizeOf33 rfl rfl rfl (by omega) rfl) (at_top rfl)) ?_
                refine bl_cons 5 rfl (isV _) (stab_isV _) (rgV (li := [(73, _)]) rfl (w_free rfl) ⟨g_dep 3 (by kernel_rfl) (at_dep rfl rfl rfl), trivial⟩ (fun w hw => rn_loadA (vs := [_, _, _, _, _, _]) Tryz.isAgg33 Tryz.sizeOf33 rfl (CellsAt.agree (below_agree hw 0) (Nat.zero_le _) (by assumption))) (at_top rfl)) ?_
                refine bl_cons 6 rfl (isV _) (stab_isV _) (rgV (li := [(3, _)]) rfl (w_free rfl) ⟨g_fr (by kernel_rfl) rfl, trivial⟩ (fun w hw => rn_field (o' := 5) fa_33_4 rfl rfl) (at_top rfl)) ?_
                refine bl_cons 7 rfl (isV _) (stab_isV _) (rgV (li := [(75, _)]) rfl (w_free rfl) ⟨g_dep 5 (by kernel_rfl) (at_dep rfl rfl rfl), trivial⟩ (fun w hw => rn_load Tryz.isAgg31 rfl ((below_agree hw 0).cell (Nat.zero_le _) (cell_own (hS.at_ 0 rfl) rfl))) (at_top rfl)) ?_
                refine bl_cons 8 rfl (isV _) (stab_isV _) (rgV (li := [(6, _)]) rfl (w_free rfl) ⟨g_fr (by kernel_rfl) rfl, trivial⟩ (fun w hw => rn_move rfl) (at_top rfl)) ?_
                refine bl_cons 9 rfl (isV _) (stab_isV _) (rgV (li := [(76, _), (77, _)]) rfl (w_free rfl) ⟨g_dep 6 (by kernel_rfl) (at_dep rfl rfl rfl), g_dep 7 (by kernel_rfl) (at_dep rfl rfl rfl), trivial⟩ (fun w hw => rn_indexA  Tryz.underlying31 Tryz.sizeOf33 rfl rfl rfl (by omega) rfl) (at_top rfl)) ?_
                refine bl_cons 10 rfl (isV _) (stab_isV _) (rgV (li := [(78, _)]) rfl (w_free rfl) ⟨g_dep 8 (by kernel_rfl) (at_dep rfl rfl rfl), trivial⟩ (fun w hw => rn_loadA (vs := [_, _, _, _, _, _]) Tryz.isAgg33 Tryz.sizeOf33 rfl (CellsAt.agree (below_agree hw 0) (Nat.zero_le _) (by assumption))) (at_top rfl)) ?_
                refine bl_cons 11 rfl (isV (.bool (eqW k p q))) (stab_isV _) (rg_call [isV _, isV _] rfl goes_22 (w_free rfl) ⟨p_tmp (g_dep 4 (by kernel_rfl) (at_dep rfl rfl rfl)), p_tmp (g_dep 9 (by kernel_rfl) (at_dep rfl rfl rfl)), trivial⟩ (fun vs w' hb hh => by have e := holds_isV (us := [_, _]) hh; subst e; exact (ih p q _ (WIn.below (hS.below.trans (hb.mono hS.below.size)) (hin p (List.mem_of_getElem? hp))) (WIn.below (hS.below.trans (hb.mono hS.below.size)) (hin2 q (List.mem_of_getElem? hq))) (hsm p (List.mem_of_getElem? hp)) (hsm2 q (List.mem_of_getElem? hq))).mono fun e w2 h => ⟨_, h.1, rfl, h.2⟩) (at_top rfl)) ?_
                refine bl_cons 12 rfl (isV _) (stab_isV _) (rgV (li := [(80, _)]) rfl (w_free rfl) ⟨g_dep 10 (by kernel_rfl) (at_dep rfl rfl rfl), trivial⟩ (fun w hw => rn_not rfl) (at_top rfl)) ?_
                refine bl_nil ?_
                intro W5 hbR hS'
                clear hS; have hS := hS'; clear hS'
                refine fin_v ?_
                refine fin_v ?_
                refine fin_v ?_
                refine fin_v ?_
                refine fin_v ?_
                refine fin_v ?_
                refine fin_v ?_
                refine fin_v ?_
                refine fin_v ?_
                refine fin_v ?_
                refine fin_v ?_
                refine fin_v ?_
                refine fin_nil ?_
                refine XF.thenN ?_
                refine condF rfl (fun hc => ?_) (fun hc => ?_)
                · have hc81 := hc; clear hc
                  refine seqF ?_
                  refine regF ?_
                  refine op_assign rfl rfl ?_
                  refine endF ?_
                  refine XF.thenN ?_
                  refine retF ?_
                  refine XF.blkR ?_
                  refine XF.thenR ?_
                  refine XF.thenR ?_
                  refine XF.blkR ?_
                  refine XF.thenR ?_
                  refine XF.res (res1 Tryz.results22 rfl) ?_
                  exact ⟨rbool (r_false hr (fun h => by have h6 := h.2.2.2.2.2; rw [all_false_at hzp (by simpa using hc81)] at h6; simp at h6)), hS.below⟩
                · have hc81 := hc; clear hc
                  refine skipF ?_
                  refine XF.blkN ?_
                  refine XF.thenN ?_
                  refine regF ?_
                  refine op_move rfl rfl ?_
                  refine op_add rfl rfl (IntWalk.i64_in _ (by omega)) rfl ?_
                  refine op_assign rfl rfl ?_
                  refine endF ?_
                  exact XF.round (apl - (i + 1)) [(2, _), (3, _), (6, _)] (by omega) ⟨rfl, rfl, rfl, trivial⟩ ⟨i + 1, by omega, rfl, rfl, all_take_at hzp hall2 (by simpa using hc81), hS.clear⟩
              · have hc67 := of_decide_eq_false hc; clear hc
                refine exitF ?_
                refine XF.thenX ?_
                refine XF.thenX ?_
                refine XF.blkX ?_
                refine XF.thenN ?_
                refine seqF ?_
                refine regF ?_
                refine op_assign rfl rfl ?_
                refine endF ?_
                refine XF.thenN ?_
                refine retF ?_
                refine XF.res (res1 Tryz.results22 rfl) ?_
                rw [List.take_of_length_le (by rw [List.length_zip]; omega)] at hall2
                exact ⟨rbool (r_true hr ⟨hz, hcc, hff.1, hff.2, hce, by rw [hall2, decide_eq_true (show ps.length = qs.length by omega)]; rfl⟩), hS.below⟩

set_option maxRecDepth 100000 in
set_option maxHeartbeats 4000000 in
theorem equalW_is (k j : Nat) (apa bpa : Option Addr) (apl bpl apc bpc : Nat) (ps qs : List WV) (w : World) (hps : ps.length = apl) (hqs : qs.length = bpl) (hrow : PRow w apa ps) (hrow2 : PRow w bpa qs) (hin : ∀ p ∈ ps, WIn w k p) (hin2 : ∀ p ∈ qs, WIn w k p) (hpl : apl ≤ 9223372036854775807) (hsm : ∀ p ∈ ps, smN j p = true) (hsm2 : ∀ p ∈ qs, smN j p = true) (ih : ∀ (p q : WV) (W : World), WIn W k p → WIn W k q → smN j p = true → smN j q = true → Calls Tryz.prog 23 #[p.f.val, q.f.val] W fun e w' => e = .returned (.bool (eqW k p q)) ∧ Below W.heap.size W w') :
    Calls Tryz.prog 50 #[.slice apa apl apc, .slice bpa bpl bpc, .func (.func 23) #[] #[]] w (fun e w' => e = .returned (.bool (decide (ps.length = qs.length) && (ps.zip qs).all fun x => eqW k x.1 x.2)) ∧ Below w.heap.size w w') := by
  refine enterF (args := [.slice apa apl apc, .slice bpa bpl bpc, .func (.func 23) #[] #[]]) Tryz.func50 rfl Tryz.ntmps50 rfl ?_
  have hS := St.start w
  refine seqF ?_
  refine regF ?_
  refine op_assign rfl rfl ?_
  refine endF ?_
  refine XF.thenN ?_
  refine seqF ?_
  refine seqF ?_
  refine regF ?_
  refine op_move rfl rfl ?_
  refine op_len Tryz.underlying31 rfl rfl ?_
  refine op_move rfl rfl ?_
  refine op_len Tryz.underlying31 rfl rfl ?_
  refine op_neq rfl rfl rfl ?_
  refine endF ?_
  refine XF.thenN ?_
  refine condF rfl (fun hc => ?_) (fun hc => ?_)
  · have hc14 := of_decide_eq_true hc; clear hc
    refine seqF ?_
    refine regF ?_
    refine op_assign rfl rfl ?_
    refine endF ?_
    refine XF.thenN ?_
    refine retF ?_
    refine XF.thenR ?_
    refine XF.res (res1 Tryz.results50 rfl) ?_
    exact ⟨rbool (by rw [decide_eq_false (show ¬ ps.length = qs.length by omega)]; rfl), hS.below⟩
  · have hc14 := of_decide_eq_false hc; clear hc
    refine skipF ?_
    refine XF.thenN ?_
    refine seqF ?_
    refine seqF ?_
    refine regF ?_
    refine op_move rfl rfl ?_
    refine op_len Tryz.underlying31 rfl rfl ?_
    refine op_move rfl rfl ?_
    refine endF ?_
    refine XF.thenN ?_
    refine blockF ?_
    refine loopF (fun q l W => ∃ i : Nat, i ≤ apl ∧ q = apl - i ∧ l = [(1, .slice bpa bpl bpc), (2, .func (.func 23) #[] #[]), (15, .slice apa apl apc), (16, .int .i64 (apl : Int)), (17, .int .i64 (i : Int))] ∧ ((ps.zip qs).take i).all (fun x => eqW k x.1 x.2) = true ∧ St w [] [] [] W) (apl - 0) ([(1, _), (2, _), (15, _), (16, _), (17, _)]) ⟨rfl, rfl, rfl, rfl, rfl, trivial⟩ (⟨0, Nat.zero_le _, rfl, rfl, rfl, hS.clear⟩) ?_
    clear hS
    rintro q l W ⟨i, hi, rfl, rfl, hall, hS⟩
    refine seqF ?_
    refine regF ?_
    refine op_lss rfl rfl rfl ?_
    refine endF ?_
    refine XF.thenN ?_
    refine seqF ?_
    refine condF rfl (fun hc => ?_) (fun hc => ?_)
    · have hc18 := of_decide_eq_true hc; clear hc
      have hk : i < apl := by omega
      obtain ⟨p, hp⟩ : ∃ p, ps[i]? = some p := ⟨ps[i]'(by omega), List.getElem?_eq_getElem _⟩
      obtain ⟨q, hq⟩ : ∃ q, qs[i]? = some q := ⟨qs[i]'(by omega), List.getElem?_eq_getElem _⟩
      have hzp : (ps.zip qs)[i]? = some (p, q) := List.getElem?_zip_eq_some.2 ⟨hp, hq⟩
      obtain ⟨b, off, rfl, hb, h6⟩ := hrow.at_ hp
      obtain ⟨b2, off2, rfl, hb2, h7⟩ := hrow2.at_ hq
      have k1 := CellsAt.agree hS.agree (Nat.zero_le _) h6.cells
      have k2 := CellsAt.agree hS.agree (Nat.zero_le _) h7.cells
      refine skipF ?_
      refine XF.thenN ?_
      refine seqF ?_
      refine blockF ?_
      refine seqF ?_
      refine regF ?_
      refine op_move rfl rfl ?_
      refine op_indexA  Tryz.underlying31 Tryz.sizeOf33 rfl rfl rfl (by omega) rfl rfl ?_
      refine op_loadA (vs := [_, _, _, _, _, _]) Tryz.isAgg33 Tryz.sizeOf33 rfl (by assumption) rfl ?_
      refine op_alloc (cs := [_, _, _, _, _, _]) hS Tryz.zeroValue33 rfl rfl ?_
      clear hS; intro B1 W1 hS
      refine op_assign rfl rfl ?_
      refine op_storeA (i := 0) (vs := [_, _, _, _, _, _]) (cs' := [_, _, _, _, _, _]) (O' := [_]) hS Tryz.sizeOf33 rfl rfl rfl rfl rfl rfl rfl ?_
      clear hS; intro W2 hS
      refine endF ?_
      refine XF.thenN ?_
      refine seqF ?_
      clear k2
      have k2 := CellsAt.agree hS.agree (Nat.zero_le _) h7.cells
      refine regF ?_
      refine op_move rfl rfl ?_
      refine op_move rfl rfl ?_
      refine op_indexA  Tryz.underlying31 Tryz.sizeOf33 rfl rfl rfl (by omega) rfl rfl ?_
      refine op_loadA (vs := [_, _, _, _, _, _]) Tryz.isAgg33 Tryz.sizeOf33 rfl (by assumption) rfl ?_
      refine op_alloc (cs := [_, _, _, _, _, _]) hS Tryz.zeroValue33 rfl rfl ?_
      clear hS; intro B3 W3 hS
      refine op_storeA (i := 0) (vs := [_, _, _, _, _, _]) (cs' := [_, _, _, _, _, _]) (O' := [_, _]) hS Tryz.sizeOf33 rfl rfl rfl rfl rfl rfl rfl ?_
      clear hS; intro W4 hS
      refine endF ?_
      refine XF.thenN ?_
      refine seqF ?_
      refine regF ?_
      refine op_move rfl rfl ?_
      refine op_loadA (vs := [_, _, _, _, _, _]) Tryz.isAgg33 Tryz.sizeOf33 rfl (CellsAt.own (j := 0) (m := 6) (hS.at_ 1 rfl) rfl) rfl ?_
      refine op_loadA (vs := [_, _, _, _, _, _]) Tryz.isAgg33 Tryz.sizeOf33 rfl (CellsAt.own (j := 0) (m := 6) (hS.at_ 0 rfl) rfl) rfl ?_
      refine op_callV (vs := [_, _]) hS rfl goes_23 rfl (ih p q _ (WIn.below hS.below (hin p (List.mem_of_getElem? hp))) (WIn.below hS.below (hin2 q (List.mem_of_getElem? hq))) (hsm p (List.mem_of_getElem? hp)) (hsm2 q (List.mem_of_getElem? hq))) rfl ?_
      rintro e W5 ⟨rfl, hb⟩
      refine ⟨_, rfl, hb, fun hS' => ?_⟩
      clear hS; have hS := hS'; clear hS' hb
      refine op_not rfl rfl ?_
      refine endF ?_
      refine XF.thenN ?_
      refine condF rfl (fun hc => ?_) (fun hc => ?_)
      · have hc30 := hc; clear hc
        refine seqF ?_
        refine regF ?_
        refine op_assign rfl rfl ?_
        refine endF ?_
        refine XF.thenN ?_
        refine retF ?_
        refine XF.blkR ?_
        refine XF.thenR ?_
        refine XF.thenR ?_
        refine XF.blkR ?_
        refine XF.thenR ?_
        refine XF.res (res1 Tryz.results50 rfl) ?_
        exact ⟨rbool (by rw [all_false_at hzp (by simpa using hc30)]; simp), hS.below⟩
      · have hc30 := hc; clear hc
        refine skipF ?_
        refine XF.blkN ?_
        refine XF.thenN ?_
        refine regF ?_
        refine op_add rfl rfl (IntWalk.i64_in _ (by omega)) rfl ?_
        refine op_move rfl rfl ?_
        refine endF ?_
        exact XF.round (apl - (i + 1)) [(1, _), (2, _), (15, _), (16, _), (17, _)] (by omega) ⟨rfl, rfl, rfl, rfl, rfl, trivial⟩ ⟨i + 1, by omega, rfl, rfl, all_take_at hzp hall (by simpa using hc30), hS.tail.tail.clear⟩
    · have hc18 := of_decide_eq_false hc; clear hc
      refine exitF ?_
      refine XF.thenX ?_
      refine XF.thenX ?_
      refine XF.blkX ?_
      refine XF.thenN ?_
      refine seqF ?_
      refine regF ?_
      refine op_assign rfl rfl ?_
      refine endF ?_
      refine XF.thenN ?_
      refine retF ?_
      refine XF.res (res1 Tryz.results50 rfl) ?_
      rw [List.take_of_length_le (by rw [List.length_zip]; omega)] at hall
      exact ⟨rbool (by rw [hall, decide_eq_true (show ps.length = qs.length by omega)]; rfl), hS.below⟩

set_option maxRecDepth 100000 in
set_option maxHeartbeats 4000000 in
theorem cellsSameA_is (a b : Option Addr) (capa capb : Nat) (xs ys : List Cl) (w : World) (hm : xs.length ≤ maxLen) (hmb : ys.length ≤ maxLen) (hra : CRow w a xs) (hrb : CRow w b ys) (la lb : Nat) (hla : xs.length = la) (hlb : ys.length = lb) :
    Calls Tryz.prog 49 #[.slice a la capa, .slice b lb capb] w (fun e w' => e = .returned (.bool (sameC xs ys)) ∧ Below w.heap.size w w') := by
  refine enterF (args := [.slice a la capa, .slice b lb capb]) Tryz.func49 rfl Tryz.ntmps49 rfl ?_
  have hS := St.start w
  refine seqF ?_
  refine regF ?_
  refine op_assign rfl rfl ?_
  refine endF ?_
  refine XF.thenN ?_
  refine seqF ?_
  refine regF ?_
  refine op_move rfl rfl ?_
  refine op_move rfl rfl ?_
  refine op_call (vs := [_, _]) hS goes_76 rfl (by subst hla; subst hlb; exact equal_any a b capa capb xs ys _ hm hmb (CRow.below hra hS.below) (CRow.below hrb hS.below) _ rfl) rfl ?_
  rintro e W1 ⟨rfl, hb⟩
  refine ⟨_, rfl, hb, fun hS' => ?_⟩
  clear hS; have hS := hS'; clear hS' hb
  refine op_assign rfl rfl ?_
  refine endF ?_
  refine XF.thenN ?_
  refine retF ?_
  refine XF.res (res1 Tryz.results49 rfl) ?_
  exact ⟨rfl, hS.below⟩

set_option maxRecDepth 100000 in
set_option maxHeartbeats 4000000 in
theorem sameWA_step (k j : Nat) (az : Bool) (ac : Int) (ag : Nat) (ara : Option Addr) (arl arc : Nat) (arows : List Nat) (aca : Option Addr) (acl acc : Nat) (acells : List Cl) (apa : Option Addr) (apl apc : Nat)(bz : Bool) (bc : Int) (bg : Nat) (bra : Option Addr) (brl brc : Nat) (brows : List Nat) (bca : Option Addr) (bcl bcc : Nat) (bcells : List Cl) (bpa : Option Addr) (bpl bpc : Nat)(ps qs : List WV) (w : World) (hra : VRow w ara (u64s arows)) (hla : arows.length = arl) (hma : arl ≤ 100) (hca : CRow w aca acells) (hka : acells.length = acl) (hna : acl ≤ 100)(hrb : VRow w bra (u64s brows)) (hlb : brows.length = brl) (hmb : brl ≤ 100) (hcb : CRow w bca bcells) (hkb : bcells.length = bcl) (hnb : bcl ≤ 100)(hps : ps.length = apl) (hqs : qs.length = bpl) (hrow : PRow w apa ps) (hrow2 : PRow w bpa qs) (hin : ∀ p ∈ ps, WIn w k p) (hin2 : ∀ p ∈ qs, WIn w k p) (hpl : apl ≤ 9223372036854775807) (hsm : ∀ p ∈ ps, smN j p = true) (hsm2 : ∀ p ∈ qs, smN j p = true) (ih : ∀ (p q : WV) (W : World), WIn W k p → WIn W k q → smN j p = true → smN j q = true → Calls Tryz.prog 23 #[p.f.val, q.f.val] W fun e w' => e = .returned (.bool (eqW k p q)) ∧ Below W.heap.size W w') (r : Bool) (hr : r = true ↔ (az = bz ∧ ac = bc ∧ ag = bg ∧ arows = brows ∧ acells = bcells ∧ (decide (ps.length = qs.length) && (ps.zip qs).all fun x => eqW k x.1 x.2) = true)) :
    Calls Tryz.prog 23 #[.agg #[.bool az, .int .i64 ac, .int .u64 (ag : Int), .slice ara arl arc, .slice aca acl acc, .slice apa apl apc], .agg #[.bool bz, .int .i64 bc, .int .u64 (bg : Int), .slice bra brl brc, .slice bca bcl bcc, .slice bpa bpl bpc]] w (fun e w' => e = .returned (.bool r) ∧ Below w.heap.size w w') := by
  refine enterF (args := [.agg #[.bool az, .int .i64 ac, .int .u64 (ag : Int), .slice ara arl arc, .slice aca acl acc, .slice apa apl apc], .agg #[.bool bz, .int .i64 bc, .int .u64 (bg : Int), .slice bra brl brc, .slice bca bcl bcc, .slice bpa bpl bpc]]) Tryz.func23 rfl Tryz.ntmps23 rfl ?_
  have hS := St.start w
  refine seqF ?_
  refine regF ?_
  refine op_box (cs := [_, _, _, _, _, _]) hS rfl rfl rfl ?_
  clear hS; intro B1 W1 hS
  refine op_box (cs := [_, _, _, _, _, _]) hS rfl rfl rfl ?_
  clear hS; intro B2 W2 hS
  refine op_assign rfl rfl ?_
  refine endF ?_
  refine XF.thenN ?_
  refine seqF ?_
  refine regF ?_
  refine op_field (o' := 0) fa_33_0 rfl rfl rfl ?_
  refine op_load Tryz.isAgg4 rfl (cell_own (hS.at_ 1 rfl) rfl) rfl ?_
  refine op_field (o' := 0) fa_33_0 rfl rfl rfl ?_
  refine op_load Tryz.isAgg4 rfl (cell_own (hS.at_ 0 rfl) rfl) rfl ?_
  refine op_eqlB Tryz.underlying4 rfl rfl rfl ?_
  refine op_move rfl rfl ?_
  refine op_cases (d := 10) rfl (fun hc => ?_) (fun hc => ?_)
  · have hg10 := hc; clear hc
    refine op_wantedF (d := 10) rfl rfl ?_
    refine op_field (o' := 1) fa_33_1 rfl rfl rfl ?_
    refine op_wantedF (d := 10) rfl rfl ?_
    refine op_load Tryz.isAgg3 rfl (cell_own (hS.at_ 1 rfl) rfl) rfl ?_
    refine op_wantedF (d := 10) rfl rfl ?_
    refine op_field (o' := 1) fa_33_1 rfl rfl rfl ?_
    refine op_wantedF (d := 10) rfl rfl ?_
    refine op_load Tryz.isAgg3 rfl (cell_own (hS.at_ 0 rfl) rfl) rfl ?_
    refine op_wantedF (d := 10) rfl rfl ?_
    refine op_eql rfl rfl rfl ?_
    refine op_pickT rfl rfl rfl ?_
    refine op_move rfl rfl ?_
    refine op_cases (d := 17) rfl (fun hc => ?_) (fun hc => ?_)
    · have hg17 := of_decide_eq_true hc; clear hc
      refine op_wantedF (d := 17) rfl rfl ?_
      refine op_field (o' := 2) fa_33_2 rfl rfl rfl ?_
      refine op_wantedF (d := 17) rfl rfl ?_
      refine op_loadA (vs := [_, _]) Tryz.isAgg29 Tryz.sizeOf29 rfl (CellsAt.own (j := 2) (m := 2) (hS.at_ 1 rfl) rfl) rfl ?_
      refine op_wantedF (d := 17) rfl rfl ?_
      refine op_field (o' := 2) fa_33_2 rfl rfl rfl ?_
      refine op_wantedF (d := 17) rfl rfl ?_
      refine op_loadA (vs := [_, _]) Tryz.isAgg29 Tryz.sizeOf29 rfl (CellsAt.own (j := 2) (m := 2) (hS.at_ 0 rfl) rfl) rfl ?_
      refine op_wantedF (d := 17) rfl rfl ?_
      refine op_call (vs := [_, _]) hS goes_48 rfl (sameA_is _ _ _ _ _ _ _ _ _ (by omega) (by omega) (VRow.below hra hS.below) (VRow.below hrb hS.below) _ rfl _ _ hla hlb) rfl ?_
      rintro e W3 ⟨rfl, hb⟩
      refine ⟨_, rfl, hb, fun hS' => ?_⟩
      clear hS; have hS := hS'; clear hS' hb
      refine op_pickT rfl rfl rfl ?_
      refine op_move rfl rfl ?_
      refine op_cases (d := 24) rfl (fun hc => ?_) (fun hc => ?_)
      · have hg24 := hc; clear hc
        refine op_wantedF (d := 24) rfl rfl ?_
        refine op_field (o' := 4) fa_33_3 rfl rfl rfl ?_
        refine op_wantedF (d := 24) rfl rfl ?_
        refine op_load Tryz.isAgg30 rfl (cell_own (hS.at_ 1 rfl) rfl) rfl ?_
        refine op_wantedF (d := 24) rfl rfl ?_
        refine op_field (o' := 4) fa_33_3 rfl rfl rfl ?_
        refine op_wantedF (d := 24) rfl rfl ?_
        refine op_load Tryz.isAgg30 rfl (cell_own (hS.at_ 0 rfl) rfl) rfl ?_
        refine op_wantedF (d := 24) rfl rfl ?_
        refine op_call (vs := [_, _]) hS goes_49 rfl (cellsSameA_is _ _ _ _ acells bcells _ (by simp only [maxLen]; omega) (by simp only [maxLen]; omega) (CRow.below hca hS.below) (CRow.below hcb hS.below) _ _ hka hkb) rfl ?_
        rintro e W4 ⟨rfl, hb⟩
        refine ⟨_, rfl, hb, fun hS' => ?_⟩
        clear hS; have hS := hS'; clear hS' hb
        refine op_pickT rfl rfl rfl ?_
        refine op_move rfl rfl ?_
        refine op_cases (d := 31) rfl (fun hc => ?_) (fun hc => ?_)
        · have hg31 := hc; clear hc
          have hz : az = bz := by simpa using hg10
          have hff : ag = bg ∧ arows = brows := by simpa [sameB] using hg24
          have hce : acells = bcells := sameC_iff.1 hg31
          refine op_wantedF (d := 31) rfl rfl ?_
          refine op_field (o' := 5) fa_33_4 rfl rfl rfl ?_
          refine op_wantedF (d := 31) rfl rfl ?_
          refine op_load Tryz.isAgg31 rfl (cell_own (hS.at_ 1 rfl) rfl) rfl ?_
          refine op_wantedF (d := 31) rfl rfl ?_
          refine op_field (o' := 5) fa_33_4 rfl rfl rfl ?_
          refine op_wantedF (d := 31) rfl rfl ?_
          refine op_load Tryz.isAgg31 rfl (cell_own (hS.at_ 0 rfl) rfl) rfl ?_
          refine op_wantedF (d := 31) rfl rfl ?_
          refine op_call (vs := [_, _, _]) hS goes_50 rfl (equalW_is k j apa bpa apl bpl apc bpc ps qs _ hps hqs (hrow.below hS.below) (hrow2.below hS.below) (fun p hp => WIn.below hS.below (hin p hp)) (fun p hp => WIn.below hS.below (hin2 p hp)) hpl hsm hsm2 ih) rfl ?_
          rintro e W5 ⟨rfl, hb⟩
          refine ⟨_, rfl, hb, fun hS' => ?_⟩
          clear hS; have hS := hS'; clear hS' hb
          refine op_pickT rfl rfl rfl ?_
          refine op_assign rfl rfl ?_
          refine endF ?_
          refine XF.thenN ?_
          refine retF ?_
          refine XF.res (res1 Tryz.results23 rfl) ?_
          exact ⟨rbool (r_same hr ⟨fun h => h.2.2.2.2.2, fun h => ⟨hz, hg17, hff.1, hff.2, hce, h⟩⟩), hS.below⟩
        · have hg31 := hc; clear hc
          refine op_notF (d := 31) rfl rfl rfl rfl ?_
          refine op_notF (d := 31) rfl rfl rfl rfl ?_
          refine op_notF (d := 31) rfl rfl rfl rfl ?_
          refine op_notF (d := 31) rfl rfl rfl rfl ?_
          refine op_notF (d := 31) rfl rfl rfl rfl ?_
          refine op_pickF rfl rfl rfl ?_
          refine op_assign rfl rfl ?_
          refine endF ?_
          refine XF.thenN ?_
          refine retF ?_
          refine XF.res (res1 Tryz.results23 rfl) ?_
          exact ⟨rbool (r_false hr (fun h => by have h5 := sameC_iff.2 h.2.2.2.2.1; rw [h5] at hg31; cases hg31)), hS.below⟩
      · have hg24 := hc; clear hc
        refine op_notF (d := 24) rfl rfl rfl rfl ?_
        refine op_notF (d := 24) rfl rfl rfl rfl ?_
        refine op_notF (d := 24) rfl rfl rfl rfl ?_
        refine op_notF (d := 24) rfl rfl rfl rfl ?_
        refine op_notF (d := 24) rfl rfl rfl rfl ?_
        refine op_pickF rfl rfl rfl ?_
        refine op_move rfl rfl ?_
        refine op_notF (d := 31) rfl rfl rfl rfl ?_
        refine op_notF (d := 31) rfl rfl rfl rfl ?_
        refine op_notF (d := 31) rfl rfl rfl rfl ?_
        refine op_notF (d := 31) rfl rfl rfl rfl ?_
        refine op_notF (d := 31) rfl rfl rfl rfl ?_
        refine op_pickF rfl rfl rfl ?_
        refine op_assign rfl rfl ?_
        refine endF ?_
        refine XF.thenN ?_
        refine retF ?_
        refine XF.res (res1 Tryz.results23 rfl) ?_
        exact ⟨rbool (r_false hr (fun h => by obtain ⟨_, _, h3, h4, _⟩ := h; subst h3; subst h4; rw [same_self] at hg24; cases hg24)), hS.below⟩
    · have hg17 := of_decide_eq_false hc; clear hc
      refine op_notF (d := 17) rfl rfl rfl rfl ?_
      refine op_notF (d := 17) rfl rfl rfl rfl ?_
      refine op_notF (d := 17) rfl rfl rfl rfl ?_
      refine op_notF (d := 17) rfl rfl rfl rfl ?_
      refine op_notF (d := 17) rfl rfl rfl rfl ?_
      refine op_pickF rfl rfl rfl ?_
      refine op_move rfl rfl ?_
      refine op_notF (d := 24) rfl rfl rfl rfl ?_
      refine op_notF (d := 24) rfl rfl rfl rfl ?_
      refine op_notF (d := 24) rfl rfl rfl rfl ?_
      refine op_notF (d := 24) rfl rfl rfl rfl ?_
      refine op_notF (d := 24) rfl rfl rfl rfl ?_
      refine op_pickF rfl rfl rfl ?_
      refine op_move rfl rfl ?_
      refine op_notF (d := 31) rfl rfl rfl rfl ?_
      refine op_notF (d := 31) rfl rfl rfl rfl ?_
      refine op_notF (d := 31) rfl rfl rfl rfl ?_
      refine op_notF (d := 31) rfl rfl rfl rfl ?_
      refine op_notF (d := 31) rfl rfl rfl rfl ?_
      refine op_pickF rfl rfl rfl ?_
      refine op_assign rfl rfl ?_
      refine endF ?_
      refine XF.thenN ?_
      refine retF ?_
      refine XF.res (res1 Tryz.results23 rfl) ?_
      exact ⟨rbool (r_false hr (fun h => hg17 h.2.1)), hS.below⟩
  · have hg10 := hc; clear hc
    refine op_notF (d := 10) rfl rfl rfl rfl ?_
    refine op_notF (d := 10) rfl rfl rfl rfl ?_
    refine op_notF (d := 10) rfl rfl rfl rfl ?_
    refine op_notF (d := 10) rfl rfl rfl rfl ?_
    refine op_notF (d := 10) rfl rfl rfl rfl ?_
    refine op_pickF rfl rfl rfl ?_
    refine op_move rfl rfl ?_
    refine op_notF (d := 17) rfl rfl rfl rfl ?_
    refine op_notF (d := 17) rfl rfl rfl rfl ?_
    refine op_notF (d := 17) rfl rfl rfl rfl ?_
    refine op_notF (d := 17) rfl rfl rfl rfl ?_
    refine op_notF (d := 17) rfl rfl rfl rfl ?_
    refine op_pickF rfl rfl rfl ?_
    refine op_move rfl rfl ?_
    refine op_notF (d := 24) rfl rfl rfl rfl ?_
    refine op_notF (d := 24) rfl rfl rfl rfl ?_
    refine op_notF (d := 24) rfl rfl rfl rfl ?_
    refine op_notF (d := 24) rfl rfl rfl rfl ?_
    refine op_notF (d := 24) rfl rfl rfl rfl ?_
    refine op_pickF rfl rfl rfl ?_
    refine op_move rfl rfl ?_
    refine op_notF (d := 31) rfl rfl rfl rfl ?_
    refine op_notF (d := 31) rfl rfl rfl rfl ?_
    refine op_notF (d := 31) rfl rfl rfl rfl ?_
    refine op_notF (d := 31) rfl rfl rfl rfl ?_
    refine op_notF (d := 31) rfl rfl rfl rfl ?_
    refine op_pickF rfl rfl rfl ?_
    refine op_assign rfl rfl ?_
    refine endF ?_
    refine XF.thenN ?_
    refine retF ?_
    refine XF.res (res1 Tryz.results23 rfl) ?_
    exact ⟨rbool (r_false hr (fun h => by have h1 := h.1; subst h1; simp at hg10)), hS.below⟩

theorem eqW_iff {k : Nat} {f g : WF} {ps qs : List WV} : eqW (k + 1) (.mk f ps) (.mk g qs) = true ↔ (f.z = g.z ∧ f.c = g.c ∧ f.g = g.g ∧ f.rows = g.rows ∧ f.cells = g.cells ∧ (decide (ps.length = qs.length) && (ps.zip qs).all fun x => eqW k x.1 x.2) = true) := by
  simp only [eqW]
  rw [Bool.and_eq_true, decide_eq_true_eq, Bool.and_eq_true, sameC_iff]
  constructor
  · rintro ⟨⟨a, b, c, d⟩, e, h⟩; exact ⟨a, b, c, d, e, h⟩
  · rintro ⟨a, b, c, d, e, h⟩; exact ⟨⟨a, b, c, d⟩, e, h⟩
theorem sameWR_is : ∀ (k j : Nat) (x y : WV) (w : World), WIn w k x → WIn w k y → smN j x = true → smN j y = true → Calls Tryz.prog 22 #[x.f.val, y.f.val] w fun e w' => e = .returned (.bool (eqW k x y)) ∧ Below w.heap.size w w'
  | 0, _, x, y, w, hx, hy, _, _ => hx.elim
  | k + 1, 0, x, y, w, hx, hy, h, _ => by simp [smN] at h
  | k + 1, j + 1, .mk ⟨az, ac, ag, ara, arl, arc, arows, aca, acl, acc, acells, apa, apl, apc⟩ ps, .mk ⟨bz, bc, bg, bra, brl, brc, brows, bca, bcl, bcc, bcells, bpa, bpl, bpc⟩ qs, w, hx, hy, h, h2 => by
    obtain ⟨a1, a2, a3, a4⟩ := smN_succ h
    obtain ⟨b1, b2, b3, b4⟩ := smN_succ h2
    dsimp only at a1 a2 a3 b1 b2 b3
    exact sameWR_step k j az ac ag ara arl arc arows aca acl acc acells apa apl apc bz bc bg bra brl brc brows bca bcl bcc bcells bpa bpl bpc ps qs w hx.1.rows hx.1.rl (by omega) hx.1.cells hx.1.cl (by omega) hy.1.rows hy.1.rl (by omega) hy.1.cells hy.1.cl (by omega) hx.2.1 hy.2.1 hx.2.2.1 hy.2.2.1 hx.2.2.2 hy.2.2.2 (by omega) a4 b4 (sameWR_is k j) _ eqW_iff
theorem sameWA_is : ∀ (k j : Nat) (x y : WV) (w : World), WIn w k x → WIn w k y → smN j x = true → smN j y = true → Calls Tryz.prog 23 #[x.f.val, y.f.val] w fun e w' => e = .returned (.bool (eqW k x y)) ∧ Below w.heap.size w w'
  | 0, _, x, y, w, hx, hy, _, _ => hx.elim
  | k + 1, 0, x, y, w, hx, hy, h, _ => by simp [smN] at h
  | k + 1, j + 1, .mk ⟨az, ac, ag, ara, arl, arc, arows, aca, acl, acc, acells, apa, apl, apc⟩ ps, .mk ⟨bz, bc, bg, bra, brl, brc, brows, bca, bcl, bcc, bcells, bpa, bpl, bpc⟩ qs, w, hx, hy, h, h2 => by
    obtain ⟨a1, a2, a3, a4⟩ := smN_succ h
    obtain ⟨b1, b2, b3, b4⟩ := smN_succ h2
    dsimp only at a1 a2 a3 b1 b2 b3
    exact sameWA_step k j az ac ag ara arl arc arows aca acl acc acells apa apl apc bz bc bg bra brl brc brows bca bcl bcc bcells bpa bpl bpc ps qs w hx.1.rows hx.1.rl (by omega) hx.1.cells hx.1.cl (by omega) hy.1.rows hy.1.rl (by omega) hy.1.cells hy.1.cl (by omega) hx.2.1 hy.2.1 hx.2.2.1 hy.2.2.1 hx.2.2.2 hy.2.2.2 (by omega) a4 b4 (sameWA_is k j) _ eqW_iff
theorem eqW_self {w : World} : ∀ {k : Nat} {s : WV}, WIn w k s → eqW k s s = true
  | 0, _, h => h.elim
  | k + 1, .mk f ps, h => by
    rw [eqW_iff]
    exact ⟨rfl, rfl, rfl, rfl, rfl, by rw [zip_self_all ps (fun x hx => eqW_self (h.2.2.2 x hx))]; simp⟩
end Go.Proofs.YtjcminoaiieckaaGreatDoor
namespace Go.Proofs.YtjcminoaiieckaaGreatDoor
open Go Go.RowKit
set_option linter.unusedVariables false
theorem plain_1234 {t n : Int} {l : Nat} (hp : plainB t n l = true) (h1 : ¬ t = 1) (h2 : ¬ t = 2) (h3 : ¬ t = 3) (h4 : ¬ t = 4) : False := by
  rcases (plainB_cases hp).2 with ⟨h, _⟩ | ⟨h, _⟩ | ⟨h, _⟩ | ⟨h, _⟩
  · exact h1 h
  · exact h2 h
  · exact h3 h
  · exact h4 h
theorem dim2 {n : Int} {l : Nat} (hp : plainB 2 n l = true) : 0 ≤ n ∧ n ≤ 1048576 := by
  rcases (plainB_cases hp).2 with ⟨h, _⟩ | ⟨_, h⟩ | ⟨h, _⟩ | ⟨h, _⟩
  · cases h
  · exact h
  · cases h
  · cases h
theorem space_50 {s : SV} (h : spaceE s ≠ 0) : (50 : Int) = spaceE s := by
  obtain ⟨f, ps⟩ := s
  have e : spaceE (.mk f ps) = (if plainB f.tag f.dim f.len = true then (0 : Int) else if f.tag = 5 ∧ f.dim = 0 ∧ ps.length = 2 ∧ ps.all SV.pl = true then 0 else 50) := rfl
  rw [e] at h ⊢
  split
  · rename_i h1; rw [if_pos h1] at h; exact absurd rfl h
  · rename_i h1
    rw [if_neg h1] at h
    split
    · rename_i h2; rw [if_pos h2] at h; exact absurd rfl h
    · rfl
theorem spaceR_ok {S : PS} {sf : SF} {w : World} (hs : SIs w S sf) (hok : S.ok) : Calls Tryz.prog 19 #[sf.val] w fun e w' => e = .returned (.int .i64 0) ∧ Below w.heap.size w w' := by
  obtain ⟨s, rfl, h, he⟩ := SIs.sin hs hok
  exact spaceR_is 2 s 0 w h he
theorem isA_gen {w : World} {ds da : Nat} {s : SV} {x : WV} (hs : SIn w ds s) (hse : spaceE s = 0) (hx : WIn w da x) (h100 : x.f.rl ≤ 100) (h101 : ∀ p ∈ x.ps, p.f.rl ≤ 100) :
    Calls Tryz.prog 63 #[s.f.val, x.f.val] w fun e w' => e = .returned (.bool (okW s x)) ∧ Below w.heap.size w w' := by
  match ds, da, s, x, hs, hx with
  | ds + 1, da + 1, .mk f ps, .mk g qs, hs, hx =>
    by_cases hp : plainB f.tag f.dim f.len = true
    · refine isA_plain f.tag f.dim f.a f.len f.cap g hp h100 w hx.1 _ ?_
      unfold okW; exact (if_pos hp).symm
    · have hse' : (if plainB f.tag f.dim f.len = true then (0 : Int) else if f.tag = 5 ∧ f.dim = 0 ∧ ps.length = 2 ∧ ps.all SV.pl = true then 0 else 50) = 0 := hse
      rw [if_neg hp] at hse'
      split at hse'
      · rename_i hq
        obtain ⟨h5, h0, h2, hall⟩ := hq
        obtain ⟨t, n, a, l, c⟩ := f
        dsimp only at h5 h0 hp
        subst h5; subst h0
        obtain ⟨p, q, rfl⟩ := two_of h2
        have hl : 2 = l := hs.1
        subst hl
        simp only [List.all_cons, List.all_nil, Bool.and_true, Bool.and_eq_true] at hall
        refine isA_pair ds a c p q g qs w hs hall.1 hall.2 da hx h101 _ ?_
        unfold okW; exact (if_neg hp).symm
      · cases hse'

set_option maxRecDepth 100000 in
set_option maxHeartbeats 4000000 in
theorem heightR_plain (t n : Int) (sa : Option Addr) (sc : Nat) (w : World) (hp : plainB t n 0 = true) (hspc : ∀ W, Below w.heap.size w W → Calls Tryz.prog 19 #[.agg #[.int .i64 t, .int .i64 n, .slice sa 0 sc]] W fun e w' => e = .returned (.int .i64 0) ∧ Below W.heap.size W w') :
    Calls Tryz.prog 17 #[.agg #[.int .i64 t, .int .i64 n, .slice sa 0 sc]] w (fun e w' => e = .returned (.tuple #[.int .i64 (hgtP t n), .int .i64 0]) ∧ Below w.heap.size w w') := by
  refine enterF (args := [.agg #[.int .i64 t, .int .i64 n, .slice sa 0 sc]]) Tryz.func17 rfl Tryz.ntmps17 rfl ?_
  have hS := St.start w
  refine seqF ?_
  refine regF ?_
  refine op_box (cs := [_, _, _]) hS rfl rfl rfl ?_
  clear hS; intro B1 W1 hS
  refine op_assign rfl rfl ?_
  refine op_assign rfl rfl ?_
  refine endF ?_
  refine XF.thenN ?_
  refine seqF ?_
  refine seqF ?_
  refine regF ?_
  refine op_loadA (vs := [_, _, _]) Tryz.isAgg25 Tryz.sizeOf25 rfl (CellsAt.own (j := 0) (m := 3) (hS.at_ 0 rfl) rfl) rfl ?_
  refine op_call (vs := [_]) hS goes_19 rfl (hspc _ hS.below) rfl ?_
  rintro e W2 ⟨rfl, hb⟩
  refine ⟨_, rfl, hb, fun hS' => ?_⟩
  clear hS; have hS := hS'; clear hS' hb
  refine op_neq rfl rfl rfl ?_
  refine endF ?_
  refine XF.thenN ?_
  refine condF rfl (fun hc => absurd (of_decide_eq_true hc) (by omega)) (fun hc => ?_)
  have hc := of_decide_eq_false hc
  refine skipF ?_
  refine XF.thenN ?_
  refine seqF ?_
  refine seqF ?_
  refine regF ?_
  refine op_field (o' := 0) fa_25_0 rfl rfl rfl ?_
  refine op_load Tryz.isAgg22 rfl (cell_own (hS.at_ 0 rfl) rfl) rfl ?_
  refine endF ?_
  refine XF.thenN ?_
  refine blockF ?_
  refine seqF ?_
  refine regF ?_
  refine op_eql rfl rfl rfl ?_
  refine op_assign rfl rfl ?_
  refine endF ?_
  refine XF.thenN ?_
  refine condF rfl (fun hc => ?_) (fun hc => ?_)
  · have hc13 := of_decide_eq_true hc; clear hc
    have e1 : t = 1 := hc13
    refine seqF ?_
    refine regF ?_
    refine op_assign rfl rfl ?_
    refine op_assign rfl rfl ?_
    refine endF ?_
    refine XF.thenN ?_
    refine retF ?_
    refine XF.blkR ?_
    refine XF.thenR ?_
    refine XF.res (res2 Tryz.results17 rfl rfl) ?_
    exact ⟨by rw [hgtP_1 e1], hS.below⟩
  · have hc13 := of_decide_eq_false hc; clear hc
    refine seqF ?_
    refine regF ?_
    refine op_eql rfl rfl rfl ?_
    refine op_assign rfl rfl ?_
    refine endF ?_
    refine XF.thenN ?_
    refine condF rfl (fun hc => ?_) (fun hc => ?_)
    · have hc15 := of_decide_eq_true hc; clear hc
      have e2 : t = 2 := hc15
      subst e2
      have hn2 := dim2 hp
      refine seqF ?_
      refine regF ?_
      refine op_field (o' := 1) fa_25_1 rfl rfl rfl ?_
      refine op_load Tryz.isAgg3 rfl (cell_own (hS.at_ 0 rfl) rfl) rfl ?_
      refine op_add rfl rfl (IntWalk.i64_in _ (by omega)) rfl ?_
      refine op_assign rfl rfl ?_
      refine op_assign rfl rfl ?_
      refine endF ?_
      refine XF.thenN ?_
      refine retF ?_
      refine XF.blkR ?_
      refine XF.thenR ?_
      refine XF.res (res2 Tryz.results17 rfl rfl) ?_
      exact ⟨rfl, hS.below⟩
    · have hc15 := of_decide_eq_false hc; clear hc
      refine seqF ?_
      refine regF ?_
      refine op_eql rfl rfl rfl ?_
      refine op_assign rfl rfl ?_
      refine endF ?_
      refine XF.thenN ?_
      refine condF rfl (fun hc => ?_) (fun hc => ?_)
      · have hc20 := of_decide_eq_true hc; clear hc
        have e3 : t = 3 := hc20
        subst e3
        obtain ⟨m, rfl, hm⟩ := dim3 hp (.inl rfl)
        have hmm := mul_bound1 hm
        refine seqF ?_
        refine regF ?_
        refine op_field (o' := 1) fa_25_1 rfl rfl rfl ?_
        refine op_load Tryz.isAgg3 rfl (cell_own (hS.at_ 0 rfl) rfl) rfl ?_
        refine op_field (o' := 1) fa_25_1 rfl rfl rfl ?_
        refine op_load Tryz.isAgg3 rfl (cell_own (hS.at_ 0 rfl) rfl) rfl ?_
        refine op_add rfl rfl (IntWalk.i64_in _ (by omega)) rfl ?_
        refine op_mul rfl rfl (IntWalk.i64_in _ (by omega)) rfl ?_
        refine op_add rfl rfl (IntWalk.i64_in _ (by omega)) rfl ?_
        refine op_assign rfl rfl ?_
        refine op_assign rfl rfl ?_
        refine endF ?_
        refine XF.thenN ?_
        refine retF ?_
        refine XF.blkR ?_
        refine XF.thenR ?_
        refine XF.res (res2 Tryz.results17 rfl rfl) ?_
        exact ⟨rfl, hS.below⟩
      · have hc20 := of_decide_eq_false hc; clear hc
        refine seqF ?_
        refine regF ?_
        refine op_eql rfl rfl rfl ?_
        refine op_assign rfl rfl ?_
        refine endF ?_
        refine XF.thenN ?_
        refine condF rfl (fun hc => ?_) (fun hc => ?_)
        · have hc29 := of_decide_eq_true hc; clear hc
          have e4 : t = 4 := hc29
          subst e4
          obtain ⟨m, rfl, hm⟩ := dim3 hp (.inr rfl)
          have hmm := mul_bound2 hm
          refine seqF ?_
          refine regF ?_
          refine op_field (o' := 1) fa_25_1 rfl rfl rfl ?_
          refine op_load Tryz.isAgg3 rfl (cell_own (hS.at_ 0 rfl) rfl) rfl ?_
          refine op_field (o' := 1) fa_25_1 rfl rfl rfl ?_
          refine op_load Tryz.isAgg3 rfl (cell_own (hS.at_ 0 rfl) rfl) rfl ?_
          refine op_add rfl rfl (IntWalk.i64_in _ (by omega)) rfl ?_
          refine op_mul rfl rfl (IntWalk.i64_in _ (by omega)) rfl ?_
          refine op_add rfl rfl (IntWalk.i64_in _ (by omega)) rfl ?_
          refine op_assign rfl rfl ?_
          refine op_assign rfl rfl ?_
          refine endF ?_
          refine XF.thenN ?_
          refine retF ?_
          refine XF.blkR ?_
          refine XF.thenR ?_
          refine XF.res (res2 Tryz.results17 rfl rfl) ?_
          exact ⟨rfl, hS.below⟩
        · have hc29 := of_decide_eq_false hc; clear hc
          exact (plain_1234 hp hc13 hc15 hc20 hc29).elim

theorem heightR_one (t n : Int) (sa : Option Addr) (sc : Nat) (w : World) (hp : plainB t n 0 = true) : Calls Tryz.prog 17 #[.agg #[.int .i64 t, .int .i64 n, .slice sa 0 sc]] w fun e w' => e = .returned (.tuple #[.int .i64 (hgtP t n), .int .i64 0]) ∧ Below w.heap.size w w' :=
  heightR_plain t n sa sc w hp fun W hb => spaceR_ok (S := .one t n) (sf := ⟨t, n, sa, 0, sc⟩) ⟨sa, sc, rfl⟩ hp

set_option maxRecDepth 100000 in
set_option maxHeartbeats 4000000 in
theorem heightR_pair (t n u m : Int) (a1 a2 : Option Addr) (c1 c2 b off sc : Nat) (w : World) (hs1 : S3 w b off ⟨t, n, a1, 0, c1⟩) (hs2 : S3 w b (off + 3) ⟨u, m, a2, 0, c2⟩) (hp1 : plainB t n 0 = true) (hp2 : plainB u m 0 = true) (hspc : ∀ W, Below w.heap.size w W → Calls Tryz.prog 19 #[.agg #[.int .i64 5, .int .i64 0, .slice (some ⟨b, off, none⟩) 2 sc]] W fun e w' => e = .returned (.int .i64 0) ∧ Below W.heap.size W w') :
    Calls Tryz.prog 17 #[.agg #[.int .i64 5, .int .i64 0, .slice (some ⟨b, off, none⟩) 2 sc]] w (fun e w' => e = .returned (.tuple #[.int .i64 (hgtP t n + hgtP u m), .int .i64 0]) ∧ Below w.heap.size w w') := by
  refine enterF (args := [.agg #[.int .i64 5, .int .i64 0, .slice (some ⟨b, off, none⟩) 2 sc]]) Tryz.func17 rfl Tryz.ntmps17 rfl ?_
  have hS := St.start w
  refine seqF ?_
  refine regF ?_
  refine op_box (cs := [_, _, _]) hS rfl rfl rfl ?_
  clear hS; intro B1 W1 hS
  refine op_assign rfl rfl ?_
  refine op_assign rfl rfl ?_
  refine endF ?_
  refine XF.thenN ?_
  refine seqF ?_
  refine seqF ?_
  refine regF ?_
  refine op_loadA (vs := [_, _, _]) Tryz.isAgg25 Tryz.sizeOf25 rfl (CellsAt.own (j := 0) (m := 3) (hS.at_ 0 rfl) rfl) rfl ?_
  refine op_call (vs := [_]) hS goes_19 rfl (hspc _ hS.below) rfl ?_
  rintro e W2 ⟨rfl, hb⟩
  refine ⟨_, rfl, hb, fun hS' => ?_⟩
  clear hS; have hS := hS'; clear hS' hb
  refine op_neq rfl rfl rfl ?_
  refine endF ?_
  refine XF.thenN ?_
  refine condF rfl (fun hc => absurd (of_decide_eq_true hc) (by omega)) (fun hc => ?_)
  have hc := of_decide_eq_false hc
  refine skipF ?_
  refine XF.thenN ?_
  refine seqF ?_
  refine seqF ?_
  refine regF ?_
  refine op_field (o' := 0) fa_25_0 rfl rfl rfl ?_
  refine op_load Tryz.isAgg22 rfl (cell_own (hS.at_ 0 rfl) rfl) rfl ?_
  refine endF ?_
  refine XF.thenN ?_
  refine blockF ?_
  refine seqF ?_
  refine regF ?_
  refine op_eql rfl rfl rfl ?_
  refine op_assign rfl rfl ?_
  refine endF ?_
  refine XF.thenN ?_
  refine condF rfl (fun hc => absurd (of_decide_eq_true hc) (by omega)) (fun hc => ?_)
  have hc := of_decide_eq_false hc
  refine seqF ?_
  refine regF ?_
  refine op_eql rfl rfl rfl ?_
  refine op_assign rfl rfl ?_
  refine endF ?_
  refine XF.thenN ?_
  refine condF rfl (fun hc => absurd (of_decide_eq_true hc) (by omega)) (fun hc => ?_)
  have hc := of_decide_eq_false hc
  refine seqF ?_
  refine regF ?_
  refine op_eql rfl rfl rfl ?_
  refine op_assign rfl rfl ?_
  refine endF ?_
  refine XF.thenN ?_
  refine condF rfl (fun hc => absurd (of_decide_eq_true hc) (by omega)) (fun hc => ?_)
  have hc := of_decide_eq_false hc
  refine seqF ?_
  refine regF ?_
  refine op_eql rfl rfl rfl ?_
  refine op_assign rfl rfl ?_
  refine endF ?_
  refine XF.thenN ?_
  refine condF rfl (fun hc => absurd (of_decide_eq_true hc) (by omega)) (fun hc => ?_)
  have hc := of_decide_eq_false hc
  refine skipF ?_
  refine XF.blkN ?_
  refine XF.thenN ?_
  refine seqF ?_
  have hsz := hS.below.size
  have k1 := CellsAt.agree hS.agree (Nat.zero_le _) hs1.cells
  have k2 := CellsAt.agree hS.agree (Nat.zero_le _) hs2.cells
  have g1 := hgtP_bound hp1
  have g2 := hgtP_bound hp2
  refine regF ?_
  refine op_field (o' := 2) fa_25_2 rfl rfl rfl ?_
  refine op_load Tryz.isAgg23 rfl (cell_own (hS.at_ 0 rfl) rfl) rfl ?_
  refine op_indexA (j := 0) Tryz.underlying23 Tryz.sizeOf25 rfl rfl rfl (by omega) (Nat.add_zero _) rfl ?_
  refine op_loadA (vs := [_, _, _]) Tryz.isAgg25 Tryz.sizeOf25 rfl (by assumption) rfl ?_
  refine op_call (vs := [_]) hS goes_17 rfl (heightR_one t n _ _ _ hp1) rfl ?_
  rintro e W3 ⟨rfl, hb⟩
  refine ⟨_, rfl, hb, fun hS' => ?_⟩
  clear hS; have hS := hS'; clear hS' hb
  refine op_move rfl rfl ?_
  refine op_extract rfl rfl rfl ?_
  refine op_extract rfl rfl rfl ?_
  refine op_assign rfl rfl ?_
  refine op_assign rfl rfl ?_
  refine endF ?_
  refine XF.thenN ?_
  refine seqF ?_
  clear k1 k2
  have k2 := CellsAt.agree hS.agree (Nat.zero_le _) hs2.cells
  refine regF ?_
  refine op_field (o' := 2) fa_25_2 rfl rfl rfl ?_
  refine op_load Tryz.isAgg23 rfl (cell_own (hS.at_ 0 rfl) rfl) rfl ?_
  refine op_indexA (j := 1) Tryz.underlying23 Tryz.sizeOf25 rfl rfl rfl (by omega) rfl rfl ?_
  refine op_loadA (vs := [_, _, _]) Tryz.isAgg25 Tryz.sizeOf25 rfl (by assumption) rfl ?_
  refine op_call (vs := [_]) hS goes_17 rfl (heightR_one u m _ _ _ hp2) rfl ?_
  rintro e W4 ⟨rfl, hb⟩
  refine ⟨_, rfl, hb, fun hS' => ?_⟩
  clear hS; have hS := hS'; clear hS' hb
  refine op_move rfl rfl ?_
  refine op_extract rfl rfl rfl ?_
  refine op_extract rfl rfl rfl ?_
  refine op_assign rfl rfl ?_
  refine op_assign rfl rfl ?_
  refine endF ?_
  refine XF.thenN ?_
  refine seqF ?_
  refine regF ?_
  refine op_move rfl rfl ?_
  refine op_move rfl rfl ?_
  refine op_add rfl rfl (IntWalk.i64_in _ (by omega)) rfl ?_
  refine op_assign rfl rfl ?_
  refine op_assign rfl rfl ?_
  refine endF ?_
  refine XF.thenN ?_
  refine retF ?_
  refine XF.res (res2 Tryz.results17 rfl rfl) ?_
  exact ⟨rfl, hS.below⟩

theorem HeightR_ok {S : PS} {sf : SF} {w : World} (hs : SIs w S sf) (hok : S.ok) : Calls Tryz.prog 17 #[sf.val] w fun e w' => e = .returned (.tuple #[.int .i64 (hgtX S), .int .i64 0]) ∧ Below w.heap.size w w' := by
  cases S with
  | one t n =>
    obtain ⟨a, c, rfl⟩ := hs
    exact heightR_one _ _ _ _ _ hok
  | two t n u m =>
    have hs0 := hs
    obtain ⟨b, off, c, a1, c1, a2, c2, rfl, h1, h2⟩ := hs
    exact heightR_pair t n u m a1 a2 c1 c2 b off c w h1 h2 hok.1 hok.2 fun W hb => spaceR_ok (S := .two t n u m) (sf := ⟨5, 0, some ⟨b, off, none⟩, 2, c⟩) (hs0.below hb) hok

set_option maxRecDepth 100000 in
set_option maxHeartbeats 4000000 in
theorem HeightR_bad (ds : Nat) (s : SV) (w : World) (hs : SIn w ds s) (hse : spaceE s ≠ 0) :
    Calls Tryz.prog 17 #[s.f.val] w (fun e w' => e = .returned (.tuple #[.int .i64 0, .int .i64 (spaceE s)]) ∧ Below w.heap.size w w') := by
  refine enterF (args := [s.f.val]) Tryz.func17 rfl Tryz.ntmps17 rfl ?_
  have hS := St.start w
  refine seqF ?_
  refine regF ?_
  refine op_box (cs := [_, _, _]) hS rfl rfl rfl ?_
  clear hS; intro B1 W1 hS
  refine op_assign rfl rfl ?_
  refine op_assign rfl rfl ?_
  refine endF ?_
  refine XF.thenN ?_
  refine seqF ?_
  refine seqF ?_
  refine regF ?_
  refine op_loadA (vs := [_, _, _]) Tryz.isAgg25 Tryz.sizeOf25 rfl (CellsAt.own (j := 0) (m := 3) (hS.at_ 0 rfl) rfl) rfl ?_
  refine op_call (vs := [_]) hS goes_19 rfl (spaceR_is ds s _ _ (SIn.below hS.below hs) rfl) rfl ?_
  rintro e W2 ⟨rfl, hb⟩
  refine ⟨_, rfl, hb, fun hS' => ?_⟩
  clear hS; have hS := hS'; clear hS' hb
  refine op_neq rfl rfl rfl ?_
  refine endF ?_
  refine XF.thenN ?_
  refine condF rfl (fun hc => ?_) (fun hc => absurd (of_decide_eq_false hc) (by omega))
  have hc := of_decide_eq_true hc
  refine seqF ?_
  refine regF ?_
  refine op_assign rfl rfl ?_
  refine op_assign rfl rfl ?_
  refine endF ?_
  refine XF.thenN ?_
  refine retF ?_
  refine XF.thenR ?_
  refine XF.res (res2 Tryz.results17 rfl rfl) ?_
  exact ⟨by rw [space_50 hse], hS.below⟩

set_option maxRecDepth 100000 in
set_option maxHeartbeats 4000000 in
theorem ZeroR_bad (ds : Nat) (s : SV) (w : World) (hs : SIn w ds s) (hse : spaceE s ≠ 0) :
    Calls Tryz.prog 15 #[s.f.val] w (fun e w' => e = .returned (.tuple #[.agg #[.bool false, .int .i64 0, .int .u64 0, .slice none 0 0, .slice none 0 0, .slice none 0 0], .int .i64 (spaceE s)]) ∧ Below w.heap.size w w') := by
  refine enterF (args := [s.f.val]) Tryz.func15 rfl Tryz.ntmps15 rfl ?_
  have hS := St.start w
  refine seqF ?_
  refine regF ?_
  refine op_box (cs := [_, _, _]) hS rfl rfl rfl ?_
  clear hS; intro B1 W1 hS
  refine op_alloc (cs := [_, _, _, _, _, _]) hS Tryz.zeroValue33 rfl rfl ?_
  clear hS; intro B2 W2 hS
  refine op_assign rfl rfl ?_
  refine endF ?_
  refine XF.thenN ?_
  refine seqF ?_
  refine seqF ?_
  refine regF ?_
  refine op_loadA (vs := [_, _, _]) Tryz.isAgg25 Tryz.sizeOf25 rfl (CellsAt.own (j := 0) (m := 3) (hS.at_ 1 rfl) rfl) rfl ?_
  refine op_call (vs := [_]) hS goes_19 rfl (spaceR_is ds s _ _ (SIn.below hS.below hs) rfl) rfl ?_
  rintro e W3 ⟨rfl, hb⟩
  refine ⟨_, rfl, hb, fun hS' => ?_⟩
  clear hS; have hS := hS'; clear hS' hb
  refine op_neq rfl rfl rfl ?_
  refine endF ?_
  refine XF.thenN ?_
  refine condF rfl (fun hc => ?_) (fun hc => absurd (of_decide_eq_false hc) (by omega))
  have hc := of_decide_eq_true hc
  refine seqF ?_
  refine regF ?_
  refine op_build (us := []) rfl (bld_33) rfl ?_
  refine op_storeA (i := 0) (vs := [_, _, _, _, _, _]) (cs' := [_, _, _, _, _, _]) (O' := [_, _]) hS Tryz.sizeOf33 rfl rfl rfl rfl rfl rfl rfl ?_
  clear hS; intro W4 hS
  refine op_assign rfl rfl ?_
  refine endF ?_
  refine XF.thenN ?_
  refine retF ?_
  refine XF.thenR ?_
  refine XF.res (resCT (vs := [_, _, _, _, _, _]) Tryz.results15 Tryz.isAgg33 Tryz.sizeOf33 rfl (CellsAt.own (j := 0) (m := 6) (hS.at_ 0 rfl) rfl) rfl) ?_
  exact ⟨by rw [space_50 hse], hS.below⟩

set_option maxRecDepth 100000 in
set_option maxHeartbeats 4000000 in
theorem OneR_bad (ds : Nat) (s : SV) (w : World) (hs : SIn w ds s) (hse : spaceE s ≠ 0) :
    Calls Tryz.prog 13 #[s.f.val] w (fun e w' => e = .returned (.tuple #[.agg #[.bool false, .int .i64 0, .int .u64 0, .slice none 0 0, .slice none 0 0, .slice none 0 0], .int .i64 (spaceE s)]) ∧ Below w.heap.size w w') := by
  refine enterF (args := [s.f.val]) Tryz.func13 rfl Tryz.ntmps13 rfl ?_
  have hS := St.start w
  refine seqF ?_
  refine regF ?_
  refine op_box (cs := [_, _, _]) hS rfl rfl rfl ?_
  clear hS; intro B1 W1 hS
  refine op_alloc (cs := [_, _, _, _, _, _]) hS Tryz.zeroValue33 rfl rfl ?_
  clear hS; intro B2 W2 hS
  refine op_assign rfl rfl ?_
  refine endF ?_
  refine XF.thenN ?_
  refine seqF ?_
  refine seqF ?_
  refine regF ?_
  refine op_loadA (vs := [_, _, _]) Tryz.isAgg25 Tryz.sizeOf25 rfl (CellsAt.own (j := 0) (m := 3) (hS.at_ 1 rfl) rfl) rfl ?_
  refine op_call (vs := [_]) hS goes_19 rfl (spaceR_is ds s _ _ (SIn.below hS.below hs) rfl) rfl ?_
  rintro e W3 ⟨rfl, hb⟩
  refine ⟨_, rfl, hb, fun hS' => ?_⟩
  clear hS; have hS := hS'; clear hS' hb
  refine op_neq rfl rfl rfl ?_
  refine endF ?_
  refine XF.thenN ?_
  refine condF rfl (fun hc => ?_) (fun hc => absurd (of_decide_eq_false hc) (by omega))
  have hc := of_decide_eq_true hc
  refine seqF ?_
  refine regF ?_
  refine op_build (us := []) rfl (bld_33) rfl ?_
  refine op_storeA (i := 0) (vs := [_, _, _, _, _, _]) (cs' := [_, _, _, _, _, _]) (O' := [_, _]) hS Tryz.sizeOf33 rfl rfl rfl rfl rfl rfl rfl ?_
  clear hS; intro W4 hS
  refine op_assign rfl rfl ?_
  refine endF ?_
  refine XF.thenN ?_
  refine retF ?_
  refine XF.thenR ?_
  refine XF.res (resCT (vs := [_, _, _, _, _, _]) Tryz.results13 Tryz.isAgg33 Tryz.sizeOf33 rfl (CellsAt.own (j := 0) (m := 6) (hS.at_ 0 rfl) rfl) rfl) ?_
  exact ⟨by rw [space_50 hse], hS.below⟩

set_option maxRecDepth 100000 in
set_option maxHeartbeats 4000000 in
theorem OneW_bad (ds : Nat) (s : SV) (w : World) (hs : SIn w ds s) (hse : spaceE s ≠ 0) :
    Calls Tryz.prog 12 #[s.f.val] w (fun e w' => e = .returned (.tuple #[.agg #[.bool false, .int .i64 0, .int .u64 0, .slice none 0 0, .slice none 0 0, .slice none 0 0], .int .i64 (spaceE s)]) ∧ Below w.heap.size w w') := by
  refine enterF (args := [s.f.val]) Tryz.func12 rfl Tryz.ntmps12 rfl ?_
  have hS := St.start w
  refine seqF ?_
  refine regF ?_
  refine op_box (cs := [_, _, _]) hS rfl rfl rfl ?_
  clear hS; intro B1 W1 hS
  refine op_alloc (cs := [_, _, _, _, _, _]) hS Tryz.zeroValue33 rfl rfl ?_
  clear hS; intro B2 W2 hS
  refine op_assign rfl rfl ?_
  refine endF ?_
  refine XF.thenN ?_
  refine seqF ?_
  refine seqF ?_
  refine regF ?_
  refine op_loadA (vs := [_, _, _]) Tryz.isAgg25 Tryz.sizeOf25 rfl (CellsAt.own (j := 0) (m := 3) (hS.at_ 1 rfl) rfl) rfl ?_
  refine op_call (vs := [_]) hS goes_18 rfl (spaceA_is ds s _ _ (SIn.below hS.below hs) rfl) rfl ?_
  rintro e W3 ⟨rfl, hb⟩
  refine ⟨_, rfl, hb, fun hS' => ?_⟩
  clear hS; have hS := hS'; clear hS' hb
  refine op_assign rfl rfl ?_
  refine endF ?_
  refine XF.thenN ?_
  refine seqF ?_
  refine regF ?_
  refine op_move rfl rfl ?_
  refine op_neq rfl rfl rfl ?_
  refine endF ?_
  refine XF.thenN ?_
  refine condF rfl (fun hc => ?_) (fun hc => absurd (of_decide_eq_false hc) (by omega))
  have hc := of_decide_eq_true hc
  refine seqF ?_
  refine regF ?_
  refine op_build (us := []) rfl (bld_33) rfl ?_
  refine op_move rfl rfl ?_
  refine op_storeA (i := 0) (vs := [_, _, _, _, _, _]) (cs' := [_, _, _, _, _, _]) (O' := [_, _]) hS Tryz.sizeOf33 rfl rfl rfl rfl rfl rfl rfl ?_
  clear hS; intro W4 hS
  refine op_assign rfl rfl ?_
  refine endF ?_
  refine XF.thenN ?_
  refine retF ?_
  refine XF.thenR ?_
  refine XF.res (resCT (vs := [_, _, _, _, _, _]) Tryz.results12 Tryz.isAgg33 Tryz.sizeOf33 rfl (CellsAt.own (j := 0) (m := 6) (hS.at_ 0 rfl) rfl) rfl) ?_
  exact ⟨rfl, hS.below⟩

set_option maxRecDepth 100000 in
set_option maxHeartbeats 4000000 in
theorem checkAllW_one (ds da : Nat) (s : SV) (x : WV) (w : World) (hs : SIn w ds s) (hx : WIn w da x) (h100 : x.f.rl ≤ 100) (h101 : ∀ p ∈ x.ps, p.f.rl ≤ 100) (b : Nat) (hb0 : CellsAt w b 0 x.f.six) :
    Calls Tryz.prog 45 #[s.f.val, .slice (some ⟨b, 0, none⟩) 1 1] w (fun e w' => e = .returned (.int .i64 (chkW s x)) ∧ Below w.heap.size w w') := by
  refine enterF (args := [s.f.val, .slice (some ⟨b, 0, none⟩) 1 1]) Tryz.func45 rfl Tryz.ntmps45 rfl ?_
  have hS := St.start w
  refine seqF ?_
  refine regF ?_
  refine op_box (cs := [_, _, _]) hS rfl rfl rfl ?_
  clear hS; intro B1 W1 hS
  refine op_assign rfl rfl ?_
  refine endF ?_
  refine XF.thenN ?_
  refine seqF ?_
  refine seqF ?_
  refine regF ?_
  refine op_loadA (vs := [_, _, _]) Tryz.isAgg25 Tryz.sizeOf25 rfl (CellsAt.own (j := 0) (m := 3) (hS.at_ 0 rfl) rfl) rfl ?_
  refine op_call (vs := [_]) hS goes_18 rfl (spaceA_is ds s _ _ (SIn.below hS.below hs) rfl) rfl ?_
  rintro e W2 ⟨rfl, hb⟩
  refine ⟨_, rfl, hb, fun hS' => ?_⟩
  clear hS; have hS := hS'; clear hS' hb
  refine op_assign rfl rfl ?_
  refine endF ?_
  refine XF.thenN ?_
  refine seqF ?_
  refine regF ?_
  refine op_move rfl rfl ?_
  refine op_neq rfl rfl rfl ?_
  refine endF ?_
  refine XF.thenN ?_
  refine condF rfl (fun hc => ?_) (fun hc => ?_)
  · have hc11 := of_decide_eq_true hc; clear hc
    refine seqF ?_
    refine regF ?_
    refine op_move rfl rfl ?_
    refine op_assign rfl rfl ?_
    refine endF ?_
    refine XF.thenN ?_
    refine retF ?_
    refine XF.thenR ?_
    refine XF.res (res1 Tryz.results45 rfl) ?_
    exact ⟨rint (by unfold chkW; rw [if_neg hc11]), hS.below⟩
  · have hc11 := of_decide_eq_false hc; clear hc
    have hse : spaceE s = 0 := by omega
    refine skipF ?_
    refine XF.thenN ?_
    refine seqF ?_
    refine seqF ?_
    refine regF ?_
    refine op_move rfl rfl ?_
    refine op_len Tryz.underlying31 rfl rfl ?_
    refine op_move rfl rfl ?_
    refine endF ?_
    refine XF.thenN ?_
    refine blockF ?_
    refine loopF (fun q l W => ∃ k : Nat, k ≤ 1 ∧ q = 1 - k ∧ l = [(2, .pointer (some ⟨B1, 0, none⟩)), (13, .slice (some ⟨b, 0, none⟩) 1 1), (14, .int .i64 1), (15, .int .i64 (k : Int))] ∧ (1 ≤ k → okW s x = true) ∧ St w [(B1, [.int .i64 s.f.tag, .int .i64 s.f.dim, .slice s.f.a s.f.len s.f.cap], 25)] [] [] W) (1 - 0) ([(2, _), (13, _), (14, _), (15, _)]) ⟨rfl, rfl, rfl, rfl, trivial⟩ (⟨0, Nat.zero_le _, rfl, rfl, fun h => by omega, hS.clear⟩) ?_
    clear hS
    rintro q l W ⟨k, hk1, rfl, rfl, hok, hS⟩
    refine seqF ?_
    refine regF ?_
    refine op_lss rfl rfl rfl ?_
    refine endF ?_
    refine XF.thenN ?_
    refine seqF ?_
    refine condF rfl (fun hc => ?_) (fun hc => ?_)
    · have hc16 := of_decide_eq_true hc; clear hc
      obtain rfl : k = 0 := by omega
      have k1 := CellsAt.agree hS.agree (Nat.zero_le _) hb0
      refine skipF ?_
      refine XF.thenN ?_
      refine seqF ?_
      refine blockF ?_
      refine seqF ?_
      refine regF ?_
      refine op_indexA  Tryz.underlying31 Tryz.sizeOf33 rfl rfl rfl (by omega) rfl rfl ?_
      refine op_loadA (vs := [_, _, _, _, _, _]) Tryz.isAgg33 Tryz.sizeOf33 rfl (by assumption) rfl ?_
      refine op_alloc (cs := [_, _, _, _, _, _]) hS Tryz.zeroValue33 rfl rfl ?_
      clear hS; intro B3 W3 hS
      refine op_storeA (i := 0) (vs := [_, _, _, _, _, _]) (cs' := [_, _, _, _, _, _]) (O' := [_, _]) hS Tryz.sizeOf33 rfl rfl rfl rfl rfl rfl rfl ?_
      clear hS; intro W4 hS
      refine endF ?_
      refine XF.thenN ?_
      refine seqF ?_
      refine regF ?_
      refine op_loadA (vs := [_, _, _]) Tryz.isAgg25 Tryz.sizeOf25 rfl (CellsAt.own (j := 0) (m := 3) (hS.at_ 1 rfl) rfl) rfl ?_
      refine op_loadA (vs := [_, _, _, _, _, _]) Tryz.isAgg33 Tryz.sizeOf33 rfl (CellsAt.own (j := 0) (m := 6) (hS.at_ 0 rfl) rfl) rfl ?_
      refine op_call (vs := [_, _]) hS goes_63 rfl (isA_gen (SIn.below hS.below hs) hse (WIn.below hS.below hx) h100 h101) rfl ?_
      rintro e W5 ⟨rfl, hb⟩
      refine ⟨_, rfl, hb, fun hS' => ?_⟩
      clear hS; have hS := hS'; clear hS' hb
      refine op_not rfl rfl ?_
      refine endF ?_
      refine XF.thenN ?_
      refine condF rfl (fun hc => ?_) (fun hc => ?_)
      · have hc22 := hc; clear hc
        refine seqF ?_
        refine regF ?_
        refine op_assign rfl rfl ?_
        refine endF ?_
        refine XF.thenN ?_
        refine retF ?_
        refine XF.blkR ?_
        refine XF.thenR ?_
        refine XF.thenR ?_
        refine XF.blkR ?_
        refine XF.thenR ?_
        refine XF.res (res1 Tryz.results45 rfl) ?_
        exact ⟨rint (by unfold chkW; rw [if_pos hse, if_neg (by simpa using hc22)]), hS.below⟩
      · have hc22 := hc; clear hc
        refine skipF ?_
        refine XF.blkN ?_
        refine XF.thenN ?_
        refine regF ?_
        refine op_add rfl rfl (IntWalk.i64_in _ (by omega)) rfl ?_
        refine op_move rfl rfl ?_
        refine endF ?_
        exact XF.round (1 - 1) [(2, _), (13, _), (14, _), (15, _)] (by omega) ⟨rfl, rfl, rfl, rfl, trivial⟩ ⟨1, by omega, rfl, rfl, fun _ => by simpa using hc22, hS.tail.clear⟩
    · have hc16 := of_decide_eq_false hc; clear hc
      refine exitF ?_
      refine XF.thenX ?_
      refine XF.thenX ?_
      refine XF.blkX ?_
      refine XF.thenN ?_
      refine seqF ?_
      refine regF ?_
      refine op_assign rfl rfl ?_
      refine endF ?_
      refine XF.thenN ?_
      refine retF ?_
      refine XF.res (res1 Tryz.results45 rfl) ?_
      exact ⟨rint (by unfold chkW; rw [if_pos hse, if_pos (hok (by omega))]), hS.below⟩

set_option maxRecDepth 100000 in
set_option maxHeartbeats 4000000 in
theorem checkA_gen (ds da : Nat) (s : SV) (x : WV) (w : World) (hs : SIn w ds s) (hx : WIn w da x) (h100 : x.f.rl ≤ 100) (h101 : ∀ p ∈ x.ps, p.f.rl ≤ 100) :
    Calls Tryz.prog 20 #[s.f.val, x.f.val] w (fun e w' => e = .returned (.int .i64 (chkW s x)) ∧ Below w.heap.size w w') := by
  refine enterF (args := [s.f.val, x.f.val]) Tryz.func20 rfl Tryz.ntmps20 rfl ?_
  have hS := St.start w
  refine seqF ?_
  refine regF ?_
  refine op_box (cs := [_, _, _]) hS rfl rfl rfl ?_
  clear hS; intro B1 W1 hS
  refine op_box (cs := [_, _, _, _, _, _]) hS rfl rfl rfl ?_
  clear hS; intro B2 W2 hS
  refine op_assign rfl rfl ?_
  refine endF ?_
  refine XF.thenN ?_
  refine seqF ?_
  refine regF ?_
  refine op_loadA (vs := [_, _, _]) Tryz.isAgg25 Tryz.sizeOf25 rfl (CellsAt.own (j := 0) (m := 3) (hS.at_ 1 rfl) rfl) rfl ?_
  refine op_loadA (vs := [_, _, _, _, _, _]) Tryz.isAgg33 Tryz.sizeOf33 rfl (CellsAt.own (j := 0) (m := 6) (hS.at_ 0 rfl) rfl) rfl ?_
  refine op_buildSlice (us := [(0, .agg (List.toArray [_, _, _, _, _, _]))]) hS Tryz.underlying31 Tryz.sizeOf33 Tryz.zeroValue33 rfl rfl rfl (bs_31_1 _ _ _ _ _ _) rfl ?_
  clear hS; intro B3 W3 hS
  refine op_call (vs := [_, _]) hS goes_45 rfl (checkAllW_one ds da s x _ (SIn.below hS.below hs) (WIn.below hS.below hx) h100 h101 _ (CellsAt.own (j := 0) (m := 6) (hS.at_ 0 rfl) rfl)) rfl ?_
  rintro e W4 ⟨rfl, hb⟩
  refine ⟨_, rfl, hb, fun hS' => ?_⟩
  clear hS; have hS := hS'; clear hS' hb
  refine op_assign rfl rfl ?_
  refine endF ?_
  refine XF.thenN ?_
  refine retF ?_
  refine XF.res (res1 Tryz.results20 rfl) ?_
  exact ⟨rfl, hS.below⟩
end Go.Proofs.YtjcminoaiieckaaGreatDoor
namespace Go.Proofs.YtjcminoaiieckaaGreatDoor
open Go Go.RowKit
set_option linter.unusedVariables false
def isPairRow (lo : Nat) (S : PS) (x : PX) : Asr := fun v w => ∃ b, v = .slice (some ⟨b, 0, none⟩) 2 2 ∧ XNew lo w S (pairF b) x
theorem stab_isPairRow {lo : Nat} {S : PS} {x : PX} : Stab (isPairRow lo S x) := fun v w w' ⟨b, h1, h2⟩ hb => ⟨b, h1, h2.below hb⟩
theorem has_one {b : Act} {v : Value} (h : b.eval (.tmp 16) = v) : ∀ x u, evL [(16, v)] x = some u → b.eval x = u := by
  intro x u hx
  cases x with
  | tmp t =>
    have hx' : look [(16, v)] t = some u := hx
    unfold look at hx'
    cases hb : Nat.beq 16 t with
    | true =>
      simp only [hb, cond_true, Option.some.injEq] at hx'
      rw [← Nat.eq_of_beq_eq_true hb, h, hx']
    | false =>
      simp only [hb, cond_false] at hx'
      cases hx'
  | const c => exact Option.some.inj hx
  | global g => exact Option.some.inj hx
  | func f => exact Option.some.inj hx
section
variable {n : Nat} {Q : Exit → Act → World → Prop} {l : Fr} {W : World} {ops : Array Oper} {L : List Asr} {i d : Nat} {ty : TypeId} {pos : String} {aft : Array Edge} {gd : Option (Nat × Bool)} {t k u m : Int} {x y : PF} {p q : Operand}
theorem rg_pairRow (hi : ops[i]? = some ⟨some d, .buildSlice 31 2 (List.toArray [(0, p), (1, q)]), ty, pos, aft, gd⟩) (hw : Wants ops L i ⟨some d, .buildSlice 31 2 (List.toArray [(0, p), (1, q)]), ty, pos, aft, gd⟩) (hp : AllP n ops l L i [p, q] [isNew W.heap.size (.one t k) (.one x), isNew W.heap.size (.one u m) (.one y)]) (hI : atI L i = isPairRow W.heap.size (.two t k u m) (.two x y)) : RG Tryz.prog n ops Q l W L i :=
  rg_row [isNew W.heap.size (.one t k) (.one x), isNew W.heap.size (.one u m) (.one y)] hi hw Tryz.underlying31 Tryz.sizeOf33 Tryz.zeroValue33 rfl rfl hp fun vs w hb hh => by
    obtain ⟨v1, v2, rfl, ⟨f, rfl, hf⟩, g, rfl, hg⟩ := holds2 hh
    refine ⟨f.six ++ g.six, bs_31_2 _ _ _ _ _ _ _ _ _ _ _ _, fun B w' hB h1 h2 => ?_⟩
    rw [hI]
    rcases frow2 h1 with h | ⟨b, off, e, h3⟩
    · cases h
    · cases e
      exact ⟨B, rfl, pair_new (h3 0 f rfl) (h3 1 g rfl) (by rw [← hB]; exact hb.size) (PNew.below hf h2) (PNew.below hg h2)⟩
theorem rg_pairBuild {lo : Nat} {S : PS} {z : PX} (hi : ops[i]? = some ⟨some d, .build 33 (List.toArray [(4, .tmp 16)]), ty, pos, aft, gd⟩) (hw : Wants ops L i ⟨some d, .build 33 (List.toArray [(4, .tmp 16)]), ty, pos, aft, gd⟩) (hp : OpG n ops l L i 16 (isPairRow lo S z)) (hI : atI L i = isNew lo S z) : RG Tryz.prog n ops Q l W L i := fun a ha => st_value hi hw fun b w hF hG hD => by
  obtain ⟨B, hv, hx⟩ := hp a ha b w hF hD
  refine ⟨(pairF B).val, w, ?_, by rw [hI]; exact ⟨pairF B, rfl, hx⟩, Below.refl _ _⟩
  rw [execOp_guard b.eval _ _ _ _ pos _ #[] _ none]
  exact rn_build (l := [(16, .slice (some ⟨B, 0, none⟩) 2 2)]) (us := [(4, .slice (some ⟨B, 0, none⟩) 2 2)]) rfl (bld_33_4 _ _ _) b.eval (has_one hv)
end
set_option maxRecDepth 100000 in
set_option maxHeartbeats 4000000 in
theorem zeroR_plain (t n : Int) (sa : Option Addr) (sc : Nat) (w : World) (hp : plainB t n 0 = true) :
    Calls Tryz.prog 42 #[.agg #[.int .i64 t, .int .i64 n, .slice sa 0 sc]] w (WRet (.one t n) (.one zeroP) w) := by
  refine enterF (args := [.agg #[.int .i64 t, .int .i64 n, .slice sa 0 sc]]) Tryz.func42 rfl Tryz.ntmps42 rfl ?_
  have hS := St.start w
  refine seqF ?_
  refine regF ?_
  refine op_box (cs := [_, _, _]) hS rfl rfl rfl ?_
  clear hS; intro B1 W1 hS
  refine op_alloc (cs := [_, _, _, _, _, _]) hS Tryz.zeroValue33 rfl rfl ?_
  clear hS; intro B2 W2 hS
  refine endF ?_
  refine XF.thenN ?_
  refine seqF ?_
  refine seqF ?_
  refine regF ?_
  refine op_field (o' := 0) fa_25_0 rfl rfl rfl ?_
  refine op_load Tryz.isAgg22 rfl (cell_own (hS.at_ 1 rfl) rfl) rfl ?_
  refine op_eql rfl rfl rfl ?_
  refine endF ?_
  refine XF.thenN ?_
  refine condF rfl (fun hc => absurd (of_decide_eq_true hc) (by exact plain_ne5 hp)) (fun hc => ?_)
  have hc := of_decide_eq_false hc
  refine skipF ?_
  refine XF.thenN ?_
  refine seqF ?_
  refine regF ?_
  refine op_build (us := [(0, .bool _)]) rfl (bld_33_0 _) rfl ?_
  refine op_storeA (i := 0) (vs := [_, _, _, _, _, _]) (cs' := [_, _, _, _, _, _]) (O' := [_, _]) hS Tryz.sizeOf33 rfl rfl rfl rfl rfl rfl rfl ?_
  clear hS; intro W3 hS
  refine endF ?_
  refine XF.thenN ?_
  refine retF ?_
  refine XF.res (resC1 (vs := [_, _, _, _, _, _]) Tryz.results42 Tryz.isAgg33 Tryz.sizeOf33 rfl (CellsAt.own (j := 0) (m := 6) (hS.at_ 0 rfl) rfl)) ?_
  exact ⟨zeroF, rfl, zero_new _ _ _ _, hS.below⟩

set_option maxRecDepth 100000 in
set_option maxHeartbeats 4000000 in
theorem zeroR_pair (t n u m : Int) (a1 a2 : Option Addr) (c1 c2 b off sc : Nat) (w : World) (hs1 : S3 w b off ⟨t, n, a1, 0, c1⟩) (hs2 : S3 w b (off + 3) ⟨u, m, a2, 0, c2⟩) (hp1 : plainB t n 0 = true) (hp2 : plainB u m 0 = true) :
    Calls Tryz.prog 42 #[.agg #[.int .i64 5, .int .i64 0, .slice (some ⟨b, off, none⟩) 2 sc]] w (WRet (.two t n u m) (.two zeroP zeroP) w) := by
  refine enterF (args := [.agg #[.int .i64 5, .int .i64 0, .slice (some ⟨b, off, none⟩) 2 sc]]) Tryz.func42 rfl Tryz.ntmps42 rfl ?_
  have hS := St.start w
  refine seqF ?_
  refine regF ?_
  refine op_box (cs := [_, _, _]) hS rfl rfl rfl ?_
  clear hS; intro B1 W1 hS
  refine op_alloc (cs := [_, _, _, _, _, _]) hS Tryz.zeroValue33 rfl rfl ?_
  clear hS; intro B2 W2 hS
  refine endF ?_
  refine XF.thenN ?_
  refine seqF ?_
  refine seqF ?_
  refine regF ?_
  refine op_field (o' := 0) fa_25_0 rfl rfl rfl ?_
  refine op_load Tryz.isAgg22 rfl (cell_own (hS.at_ 1 rfl) rfl) rfl ?_
  refine op_eql rfl rfl rfl ?_
  refine endF ?_
  refine XF.thenN ?_
  refine condF rfl (fun hc => ?_) (fun hc => absurd (of_decide_eq_false hc) (by omega))
  have hc := of_decide_eq_true hc
  refine seqF ?_
  have hsz := hS.below.size
  have k1 := CellsAt.agree hS.agree (Nat.zero_le _) hs1.cells
  have k2 := CellsAt.agree hS.agree (Nat.zero_le _) hs2.cells
  refine regBK followsM 12 hS rfl rfl (by kernel_rfl) (by kernel_rfl) (by kernel_rfl) (fun d hd => by cases hd) ?_
  refine bl_cons 1 rfl (isV _) (stab_isV _) (rgV (li := [(1, _)]) rfl (w_free rfl) ⟨g_fr (by kernel_rfl) rfl, trivial⟩ (fun w hw => rn_field (o' := 2) fa_25_2 rfl rfl) (at_top rfl)) ?_
  refine bl_cons 2 rfl (isV _) (stab_isV _) (rgV (li := [(6, _)]) rfl (w_free rfl) ⟨g_dep 0 (by kernel_rfl) (at_dep rfl rfl rfl), trivial⟩ (fun w hw => rn_load Tryz.isAgg23 rfl ((below_agree hw 0).cell (Nat.zero_le _) (cell_own (hS.at_ 1 rfl) rfl))) (at_top rfl)) ?_
  refine bl_cons 3 rfl (isV _) (stab_isV _) (rgV (li := [(7, _)]) rfl (w_free rfl) ⟨g_dep 1 (by kernel_rfl) (at_dep rfl rfl rfl), trivial⟩ (fun w hw => rn_indexA (j := 0) Tryz.underlying23 Tryz.sizeOf25 rfl rfl rfl (by omega) (Nat.add_zero _)) (at_top rfl)) ?_
  refine bl_cons 4 rfl (isV _) (stab_isV _) (rgV (li := [(8, _)]) rfl (w_free rfl) ⟨g_dep 2 (by kernel_rfl) (at_dep rfl rfl rfl), trivial⟩ (fun w hw => rn_loadA (vs := [_, _, _]) Tryz.isAgg25 Tryz.sizeOf25 rfl (CellsAt.agree (below_agree hw 0) (Nat.zero_le _) (by assumption))) (at_top rfl)) ?_
  refine bl_cons 5 rfl (isNew W2.heap.size (.one t n) (.one zeroP)) (stab_isNew) (rg_call [isV _] rfl goes_42 (w_free rfl) ⟨p_tmp (g_dep 3 (by kernel_rfl) (at_dep rfl rfl rfl)), trivial⟩ (fun vs w' hb hh => by have e := holds_isV (us := [_]) hh; subst e; exact wret_gives hb.size (zeroR_plain _ _ _ _ _ hp1)) (at_top rfl)) ?_
  refine bl_cons 6 rfl (isV _) (stab_isV _) (rgV (li := [(1, _)]) rfl (w_free rfl) ⟨g_fr (by kernel_rfl) rfl, trivial⟩ (fun w hw => rn_field (o' := 2) fa_25_2 rfl rfl) (at_top rfl)) ?_
  refine bl_cons 7 rfl (isV _) (stab_isV _) (rgV (li := [(11, _)]) rfl (w_free rfl) ⟨g_dep 5 (by kernel_rfl) (at_dep rfl rfl rfl), trivial⟩ (fun w hw => rn_load Tryz.isAgg23 rfl ((below_agree hw 0).cell (Nat.zero_le _) (cell_own (hS.at_ 1 rfl) rfl))) (at_top rfl)) ?_
  refine bl_cons 8 rfl (isV _) (stab_isV _) (rgV (li := [(12, _)]) rfl (w_free rfl) ⟨g_dep 6 (by kernel_rfl) (at_dep rfl rfl rfl), trivial⟩ (fun w hw => rn_indexA (j := 1) Tryz.underlying23 Tryz.sizeOf25 rfl rfl rfl (by omega) rfl) (at_top rfl)) ?_
  refine bl_cons 9 rfl (isV _) (stab_isV _) (rgV (li := [(13, _)]) rfl (w_free rfl) ⟨g_dep 7 (by kernel_rfl) (at_dep rfl rfl rfl), trivial⟩ (fun w hw => rn_loadA (vs := [_, _, _]) Tryz.isAgg25 Tryz.sizeOf25 rfl (CellsAt.agree (below_agree hw 0) (Nat.zero_le _) (by assumption))) (at_top rfl)) ?_
  refine bl_cons 10 rfl (isNew W2.heap.size (.one u m) (.one zeroP)) (stab_isNew) (rg_call [isV _] rfl goes_42 (w_free rfl) ⟨p_tmp (g_dep 8 (by kernel_rfl) (at_dep rfl rfl rfl)), trivial⟩ (fun vs w' hb hh => by have e := holds_isV (us := [_]) hh; subst e; exact wret_gives hb.size (zeroR_plain _ _ _ _ _ hp2)) (at_top rfl)) ?_
  refine bl_cons 11 rfl (isPairRow W2.heap.size (.two t n u m) (.two zeroP zeroP)) (stab_isPairRow) (rg_pairRow rfl (w_free rfl) ⟨p_tmp (g_dep 4 (by kernel_rfl) (at_dep rfl rfl rfl)), p_tmp (g_dep 9 (by kernel_rfl) (at_dep rfl rfl rfl)), trivial⟩ (at_top rfl)) ?_
  refine bl_cons 12 rfl (isNew W2.heap.size (.two t n u m) (.two zeroP zeroP)) (stab_isNew) (rg_pairBuild rfl (w_free rfl) (g_dep 10 (by kernel_rfl) (at_dep rfl rfl rfl)) (at_top rfl)) ?_
  refine bl_nil ?_
  intro W3 hbR hS'
  clear hS; have hS := hS'; clear hS'
  refine fin_v ?_
  refine fin_v ?_
  refine fin_v ?_
  refine fin_v ?_
  refine fin_p ?_; rintro _ ⟨v1, rfl, hn1⟩
  refine fin_v ?_
  refine fin_v ?_
  refine fin_v ?_
  refine fin_v ?_
  refine fin_p ?_; rintro _ ⟨v2, rfl, hn2⟩
  refine fin_p ?_; rintro _ _
  refine fin_p ?_; rintro _ ⟨v3, rfl, hn3⟩
  refine fin_nil ?_
  refine op_storeA (i := 0) (vs := [_, _, _, _, _, _]) (cs' := [_, _, _, _, _, _]) (O' := [_, _]) hS Tryz.sizeOf33 rfl rfl rfl rfl rfl rfl rfl ?_
  clear hS; intro W4 hS
  refine endF ?_
  refine XF.thenN ?_
  refine retF ?_
  refine XF.thenR ?_
  refine XF.res (resC1 (vs := [_, _, _, _, _, _]) Tryz.results42 Tryz.isAgg33 Tryz.sizeOf33 rfl (CellsAt.own (j := 0) (m := 6) (hS.at_ 0 rfl) rfl)) ?_
  exact ⟨v3, rfl, (hn3.agree (hS.since 0 rfl)).mono hsz, hS.below⟩

theorem zeroR_ok {S : PS} {sf : SF} {w : World} (hs : SIs w S sf) (hok : S.ok) : Calls Tryz.prog 42 #[sf.val] w (WRet S (zeroX S) w) := by
  cases S with
  | one t n =>
    obtain ⟨a, c, rfl⟩ := hs
    exact zeroR_plain _ _ _ _ _ hok
  | two t n u m =>
    obtain ⟨b, off, c, a1, c1, a2, c2, rfl, h1, h2⟩ := hs
    exact zeroR_pair _ _ _ _ _ _ _ _ _ _ _ _ h1 h2 hok.1 hok.2

set_option maxRecDepth 100000 in
set_option maxHeartbeats 4000000 in
theorem ZeroR_plain (S : PS) (sf : SF) (w : World) (hs : SIs w S sf) (hok : S.ok) :
    Calls Tryz.prog 15 #[sf.val] w (WRet2 S (zeroX S) 0 w) := by
  refine enterF (args := [sf.val]) Tryz.func15 rfl Tryz.ntmps15 rfl ?_
  have hS := St.start w
  refine seqF ?_
  refine regF ?_
  refine op_box (cs := [_, _, _]) hS rfl rfl rfl ?_
  clear hS; intro B1 W1 hS
  refine op_alloc (cs := [_, _, _, _, _, _]) hS Tryz.zeroValue33 rfl rfl ?_
  clear hS; intro B2 W2 hS
  refine op_assign rfl rfl ?_
  refine endF ?_
  refine XF.thenN ?_
  refine seqF ?_
  refine seqF ?_
  refine regF ?_
  refine op_loadA (vs := [_, _, _]) Tryz.isAgg25 Tryz.sizeOf25 rfl (CellsAt.own (j := 0) (m := 3) (hS.at_ 1 rfl) rfl) rfl ?_
  refine op_call (vs := [_]) hS goes_19 rfl (spaceR_ok (hs.below hS.below) hok) rfl ?_
  rintro e W3 ⟨rfl, hb⟩
  refine ⟨_, rfl, hb, fun hS' => ?_⟩
  clear hS; have hS := hS'; clear hS' hb
  refine op_neq rfl rfl rfl ?_
  refine endF ?_
  refine XF.thenN ?_
  refine condF rfl (fun hc => absurd (of_decide_eq_true hc) (by omega)) (fun hc => ?_)
  have hc := of_decide_eq_false hc
  refine skipF ?_
  refine XF.thenN ?_
  refine seqF ?_
  refine regF ?_
  refine op_loadA (vs := [_, _, _]) Tryz.isAgg25 Tryz.sizeOf25 rfl (CellsAt.own (j := 0) (m := 3) (hS.at_ 1 rfl) rfl) rfl ?_
  have hsz := hS.below.size
  refine op_call (vs := [_]) hS goes_42 rfl (zeroR_ok (hs.below hS.below) hok) rfl ?_
  rintro e W4 ⟨f, rfl, hn, hb⟩
  refine ⟨_, rfl, hb, fun hS' => ?_⟩
  clear hS; have hS := hS'; clear hS'
  refine op_storeA (i := 0) (vs := [_, _, _, _, _, _]) (cs' := [_, _, _, _, _, _]) (O' := [_, _]) hS Tryz.sizeOf33 rfl rfl rfl rfl rfl rfl rfl ?_
  clear hS; intro W5 hS
  refine op_assign rfl rfl ?_
  refine endF ?_
  refine XF.thenN ?_
  refine retF ?_
  refine XF.res (resCT (vs := [_, _, _, _, _, _]) Tryz.results15 Tryz.isAgg33 Tryz.sizeOf33 rfl (CellsAt.own (j := 0) (m := 6) (hS.at_ 0 rfl) rfl) rfl) ?_
  exact ⟨f, rfl, (hn.agree (hS.since 0 rfl)).mono hsz, hS.below⟩
end Go.Proofs.YtjcminoaiieckaaGreatDoor
namespace Go.Proofs.YtjcminoaiieckaaGreatDoor
open Go Go.RowKit
set_option linter.unusedVariables false
set_option maxRecDepth 100000 in
set_option maxHeartbeats 4000000 in
theorem oneR_not4 (t n : Int) (sa : Option Addr) (sc : Nat) (w : World) (hp : plainB t n 0 = true) (ht4 : t ≠ 4) :
    Calls Tryz.prog 40 #[.agg #[.int .i64 t, .int .i64 n, .slice sa 0 sc]] w (WRet (.one t n) (.one (oneP t n)) w) := by
  refine enterF (args := [.agg #[.int .i64 t, .int .i64 n, .slice sa 0 sc]]) Tryz.func40 rfl Tryz.ntmps40 rfl ?_
  have hS := St.start w
  refine seqF ?_
  refine regF ?_
  refine op_box (cs := [_, _, _]) hS rfl rfl rfl ?_
  clear hS; intro B1 W1 hS
  refine op_alloc (cs := [_, _, _, _, _, _]) hS Tryz.zeroValue33 rfl rfl ?_
  clear hS; intro B2 W2 hS
  refine endF ?_
  refine XF.thenN ?_
  refine seqF ?_
  refine regF ?_
  refine op_build (us := []) rfl (bld_33) rfl ?_
  refine op_alloc (cs := [_, _, _, _, _, _]) hS Tryz.zeroValue33 rfl rfl ?_
  clear hS; intro B3 W3 hS
  refine op_storeA (i := 0) (vs := [_, _, _, _, _, _]) (cs' := [_, _, _, _, _, _]) (O' := [_, _, _]) hS Tryz.sizeOf33 rfl rfl rfl rfl rfl rfl rfl ?_
  clear hS; intro W4 hS
  refine endF ?_
  refine XF.thenN ?_
  refine seqF ?_
  refine seqF ?_
  refine regF ?_
  refine op_field (o' := 0) fa_25_0 rfl rfl rfl ?_
  refine op_load Tryz.isAgg22 rfl (cell_own (hS.at_ 2 rfl) rfl) rfl ?_
  refine endF ?_
  refine XF.thenN ?_
  refine blockF ?_
  refine seqF ?_
  refine regF ?_
  refine op_eql rfl rfl rfl ?_
  refine op_assign rfl rfl ?_
  refine endF ?_
  refine XF.thenN ?_
  refine condF rfl (fun hc => ?_) (fun hc => ?_)
  · have hc8 := of_decide_eq_true hc; clear hc
    have e3 : t = 3 := hc8
    subst e3
    obtain ⟨m, rfl, hm⟩ := dim3 hp (.inl rfl)
    refine regF ?_
    refine op_field (o' := 1) fa_25_1 rfl rfl rfl ?_
    refine op_load Tryz.isAgg3 rfl (cell_own (hS.at_ 2 rfl) rfl) rfl ?_
    have hsz := hS.below.size
    refine op_call (vs := [_]) hS goes_68 rfl ((oneR_is m _ _ (one_good hm).1 _ (one_good hm).2).mono fun _ _ h => FOwn.ret h) rfl ?_
    rintro e W5 ⟨a1, c1, rfl, hv, hl, hb⟩
    refine ⟨_, rfl, hb, fun hS' => ?_⟩
    clear hS; have hS := hS'; clear hS'
    refine op_move rfl rfl ?_
    refine op_extract rfl rfl rfl ?_
    refine op_extract rfl rfl rfl ?_
    refine op_field (o' := 2) fa_33_2 rfl rfl rfl ?_
    refine op_storeA (i := 0) (vs := [_, _]) (cs' := [_, _, _, _, _, _]) (O' := [_, _, _]) hS Tryz.sizeOf29 rfl rfl rfl rfl rfl rfl rfl ?_
    clear hS; intro W6 hS
    refine endF ?_
    refine XF.blkN ?_
    refine XF.thenN ?_
    refine seqF ?_
    refine regF ?_
    refine op_loadA (vs := [_, _, _, _, _, _]) Tryz.isAgg33 Tryz.sizeOf33 rfl (CellsAt.own (j := 0) (m := 6) (hS.at_ 0 rfl) rfl) rfl ?_
    refine op_storeA (i := 1) (vs := [_, _, _, _, _, _]) (cs' := [_, _, _, _, _, _]) (O' := [_, _, _]) hS Tryz.sizeOf33 rfl rfl rfl rfl rfl rfl rfl ?_
    clear hS; intro W7 hS
    refine endF ?_
    refine XF.thenN ?_
    refine retF ?_
    refine XF.res (resC1 (vs := [_, _, _, _, _, _]) Tryz.results40 Tryz.isAgg33 Tryz.sizeOf33 rfl (CellsAt.own (j := 0) (m := 6) (hS.at_ 1 rfl) rfl)) ?_
    exact wret_one (one_f3 hm (hv.agree (fun ad e => (hl ad e).1) (hS.since 0 rfl)) (fun ad e => Nat.le_trans hsz (hl ad e).1)) hS.below
  · have hc8 := of_decide_eq_false hc; clear hc
    refine seqF ?_
    refine regF ?_
    refine op_eql rfl rfl rfl ?_
    refine op_assign rfl rfl ?_
    refine endF ?_
    refine XF.thenN ?_
    refine condF rfl (fun hc => absurd (of_decide_eq_true hc) (by exact ht4)) (fun hc => ?_)
    have hc := of_decide_eq_false hc
    refine seqF ?_
    refine regF ?_
    refine op_eql rfl rfl rfl ?_
    refine op_assign rfl rfl ?_
    refine endF ?_
    refine XF.thenN ?_
    refine condF rfl (fun hc => absurd (of_decide_eq_true hc) (by exact plain_ne5 hp)) (fun hc => ?_)
    have hc := of_decide_eq_false hc
    refine skipF ?_
    refine XF.blkN ?_
    refine XF.thenN ?_
    refine seqF ?_
    refine regF ?_
    refine op_loadA (vs := [_, _, _, _, _, _]) Tryz.isAgg33 Tryz.sizeOf33 rfl (CellsAt.own (j := 0) (m := 6) (hS.at_ 0 rfl) rfl) rfl ?_
    refine op_storeA (i := 1) (vs := [_, _, _, _, _, _]) (cs' := [_, _, _, _, _, _]) (O' := [_, _, _]) hS Tryz.sizeOf33 rfl rfl rfl rfl rfl rfl rfl ?_
    clear hS; intro W8 hS
    refine endF ?_
    refine XF.thenN ?_
    refine retF ?_
    refine XF.res (resC1 (vs := [_, _, _, _, _, _]) Tryz.results40 Tryz.isAgg33 Tryz.sizeOf33 rfl (CellsAt.own (j := 0) (m := 6) (hS.at_ 1 rfl) rfl)) ?_
    exact wret_one (one_f1 hp hc8 ht4) hS.below

set_option maxRecDepth 100000 in
set_option maxHeartbeats 4000000 in
theorem oneR_pair (t n u m : Int) (a1 a2 : Option Addr) (c1 c2 b off sc : Nat) (w : World) (hs1 : S3 w b off ⟨t, n, a1, 0, c1⟩) (hs2 : S3 w b (off + 3) ⟨u, m, a2, 0, c2⟩) (hp1 : plainB t n 0 = true) (hp2 : plainB u m 0 = true) (ih10 : ∀ W : World, Calls Tryz.prog 40 #[.agg #[.int .i64 t, .int .i64 n, .slice a1 0 c1]] W (WRet (.one t n) (.one (oneP t n)) W)) (ih20 : ∀ W : World, Calls Tryz.prog 40 #[.agg #[.int .i64 u, .int .i64 m, .slice a2 0 c2]] W (WRet (.one u m) (.one (oneP u m)) W)) :
    Calls Tryz.prog 40 #[.agg #[.int .i64 5, .int .i64 0, .slice (some ⟨b, off, none⟩) 2 sc]] w (WRet (.two t n u m) (.two (oneP t n) (oneP u m)) w) := by
  refine enterF (args := [.agg #[.int .i64 5, .int .i64 0, .slice (some ⟨b, off, none⟩) 2 sc]]) Tryz.func40 rfl Tryz.ntmps40 rfl ?_
  have hS := St.start w
  refine seqF ?_
  refine regF ?_
  refine op_box (cs := [_, _, _]) hS rfl rfl rfl ?_
  clear hS; intro B1 W1 hS
  refine op_alloc (cs := [_, _, _, _, _, _]) hS Tryz.zeroValue33 rfl rfl ?_
  clear hS; intro B2 W2 hS
  refine endF ?_
  refine XF.thenN ?_
  refine seqF ?_
  refine regF ?_
  refine op_build (us := []) rfl (bld_33) rfl ?_
  refine op_alloc (cs := [_, _, _, _, _, _]) hS Tryz.zeroValue33 rfl rfl ?_
  clear hS; intro B3 W3 hS
  refine op_storeA (i := 0) (vs := [_, _, _, _, _, _]) (cs' := [_, _, _, _, _, _]) (O' := [_, _, _]) hS Tryz.sizeOf33 rfl rfl rfl rfl rfl rfl rfl ?_
  clear hS; intro W4 hS
  refine endF ?_
  refine XF.thenN ?_
  refine seqF ?_
  refine seqF ?_
  refine regF ?_
  refine op_field (o' := 0) fa_25_0 rfl rfl rfl ?_
  refine op_load Tryz.isAgg22 rfl (cell_own (hS.at_ 2 rfl) rfl) rfl ?_
  refine endF ?_
  refine XF.thenN ?_
  refine blockF ?_
  refine seqF ?_
  refine regF ?_
  refine op_eql rfl rfl rfl ?_
  refine op_assign rfl rfl ?_
  refine endF ?_
  refine XF.thenN ?_
  refine condF rfl (fun hc => absurd (of_decide_eq_true hc) (by omega)) (fun hc => ?_)
  have hc := of_decide_eq_false hc
  refine seqF ?_
  refine regF ?_
  refine op_eql rfl rfl rfl ?_
  refine op_assign rfl rfl ?_
  refine endF ?_
  refine XF.thenN ?_
  refine condF rfl (fun hc => absurd (of_decide_eq_true hc) (by omega)) (fun hc => ?_)
  have hc := of_decide_eq_false hc
  refine seqF ?_
  refine regF ?_
  refine op_eql rfl rfl rfl ?_
  refine op_assign rfl rfl ?_
  refine endF ?_
  refine XF.thenN ?_
  refine condF rfl (fun hc => ?_) (fun hc => absurd (of_decide_eq_false hc) (by omega))
  have hc := of_decide_eq_true hc
  have hsz := hS.below.size
  have k1 := CellsAt.agree hS.agree (Nat.zero_le _) hs1.cells
  have k2 := CellsAt.agree hS.agree (Nat.zero_le _) hs2.cells
  have ih1 := fun (W2 : World) (_ : Below W4.heap.size W4 W2) => ih10 W2
  have ih2 := fun (W2 : World) (_ : Below W4.heap.size W4 W2) => ih20 W2
  refine regBK followsM 12 hS rfl rfl (by kernel_rfl) (by kernel_rfl) (by kernel_rfl) (fun d hd => by cases hd) ?_
  refine bl_cons 1 rfl (isV _) (stab_isV _) (rgV (li := [(1, _)]) rfl (w_free rfl) ⟨g_fr (by kernel_rfl) rfl, trivial⟩ (fun w hw => rn_field (o' := 2) fa_25_2 rfl rfl) (at_top rfl)) ?_
  refine bl_cons 2 rfl (isV _) (stab_isV _) (rgV (li := [(35, _)]) rfl (w_free rfl) ⟨g_dep 0 (by kernel_rfl) (at_dep rfl rfl rfl), trivial⟩ (fun w hw => rn_load Tryz.isAgg23 rfl ((below_agree hw 0).cell (Nat.zero_le _) (cell_own (hS.at_ 2 rfl) rfl))) (at_top rfl)) ?_
  refine bl_cons 3 rfl (isV _) (stab_isV _) (rgV (li := [(36, _)]) rfl (w_free rfl) ⟨g_dep 1 (by kernel_rfl) (at_dep rfl rfl rfl), trivial⟩ (fun w hw => rn_indexA (j := 0) Tryz.underlying23 Tryz.sizeOf25 rfl rfl rfl (by omega) (Nat.add_zero _)) (at_top rfl)) ?_
  refine bl_cons 4 rfl (isV _) (stab_isV _) (rgV (li := [(37, _)]) rfl (w_free rfl) ⟨g_dep 2 (by kernel_rfl) (at_dep rfl rfl rfl), trivial⟩ (fun w hw => rn_loadA (vs := [_, _, _]) Tryz.isAgg25 Tryz.sizeOf25 rfl (CellsAt.agree (below_agree hw 0) (Nat.zero_le _) (by assumption))) (at_top rfl)) ?_
  refine bl_cons 5 rfl (isNew W4.heap.size (.one t n) (.one (oneP t n))) (stab_isNew) (rg_call [isV _] rfl goes_40 (w_free rfl) ⟨p_tmp (g_dep 3 (by kernel_rfl) (at_dep rfl rfl rfl)), trivial⟩ (fun vs w' hb hh => by have e := holds_isV (us := [_]) hh; subst e; exact wret_gives hb.size (ih1 _ hb)) (at_top rfl)) ?_
  refine bl_cons 6 rfl (isV _) (stab_isV _) (rgV (li := [(1, _)]) rfl (w_free rfl) ⟨g_fr (by kernel_rfl) rfl, trivial⟩ (fun w hw => rn_field (o' := 2) fa_25_2 rfl rfl) (at_top rfl)) ?_
  refine bl_cons 7 rfl (isV _) (stab_isV _) (rgV (li := [(40, _)]) rfl (w_free rfl) ⟨g_dep 5 (by kernel_rfl) (at_dep rfl rfl rfl), trivial⟩ (fun w hw => rn_load Tryz.isAgg23 rfl ((below_agree hw 0).cell (Nat.zero_le _) (cell_own (hS.at_ 2 rfl) rfl))) (at_top rfl)) ?_
  refine bl_cons 8 rfl (isV _) (stab_isV _) (rgV (li := [(41, _)]) rfl (w_free rfl) ⟨g_dep 6 (by kernel_rfl) (at_dep rfl rfl rfl), trivial⟩ (fun w hw => rn_indexA (j := 1) Tryz.underlying23 Tryz.sizeOf25 rfl rfl rfl (by omega) rfl) (at_top rfl)) ?_
  refine bl_cons 9 rfl (isV _) (stab_isV _) (rgV (li := [(42, _)]) rfl (w_free rfl) ⟨g_dep 7 (by kernel_rfl) (at_dep rfl rfl rfl), trivial⟩ (fun w hw => rn_loadA (vs := [_, _, _]) Tryz.isAgg25 Tryz.sizeOf25 rfl (CellsAt.agree (below_agree hw 0) (Nat.zero_le _) (by assumption))) (at_top rfl)) ?_
  refine bl_cons 10 rfl (isNew W4.heap.size (.one u m) (.one (oneP u m))) (stab_isNew) (rg_call [isV _] rfl goes_40 (w_free rfl) ⟨p_tmp (g_dep 8 (by kernel_rfl) (at_dep rfl rfl rfl)), trivial⟩ (fun vs w' hb hh => by have e := holds_isV (us := [_]) hh; subst e; exact wret_gives hb.size (ih2 _ hb)) (at_top rfl)) ?_
  refine bl_cons 11 rfl (isPairRow W4.heap.size (.two t n u m) (.two (oneP t n) (oneP u m))) (stab_isPairRow) (rg_pairRow rfl (w_free rfl) ⟨p_tmp (g_dep 4 (by kernel_rfl) (at_dep rfl rfl rfl)), p_tmp (g_dep 9 (by kernel_rfl) (at_dep rfl rfl rfl)), trivial⟩ (at_top rfl)) ?_
  refine bl_cons 12 rfl (isV _) (stab_isV _) (rgV (li := [(3, _)]) rfl (w_free rfl) ⟨g_fr (by kernel_rfl) rfl, trivial⟩ (fun w hw => rn_field (o' := 5) fa_33_4 rfl rfl) (at_top rfl)) ?_
  refine bl_nil ?_
  intro W5 hbR hS'
  clear hS; have hS := hS'; clear hS'
  refine fin_v ?_
  refine fin_v ?_
  refine fin_v ?_
  refine fin_v ?_
  refine fin_p ?_; rintro _ ⟨v1, rfl, hn1⟩
  refine fin_v ?_
  refine fin_v ?_
  refine fin_v ?_
  refine fin_v ?_
  refine fin_p ?_; rintro _ ⟨v2, rfl, hn2⟩
  refine fin_p ?_; rintro _ ⟨b9, rfl, hn9⟩
  refine fin_v ?_
  refine fin_nil ?_
  refine op_store (i := 0) (cs' := [_, _, _, _, _, _]) (O' := [_, _, _]) hS Tryz.sizeOf31 rfl rfl rfl rfl rfl rfl rfl ?_
  clear hS; intro W6 hS
  refine endF ?_
  refine XF.blkN ?_
  refine XF.thenN ?_
  refine seqF ?_
  refine regF ?_
  refine op_loadA (vs := [_, _, _, _, _, _]) Tryz.isAgg33 Tryz.sizeOf33 rfl (CellsAt.own (j := 0) (m := 6) (hS.at_ 0 rfl) rfl) rfl ?_
  refine op_storeA (i := 1) (vs := [_, _, _, _, _, _]) (cs' := [_, _, _, _, _, _]) (O' := [_, _, _]) hS Tryz.sizeOf33 rfl rfl rfl rfl rfl rfl rfl ?_
  clear hS; intro W7 hS
  refine endF ?_
  refine XF.thenN ?_
  refine retF ?_
  refine XF.res (resC1 (vs := [_, _, _, _, _, _]) Tryz.results40 Tryz.isAgg33 Tryz.sizeOf33 rfl (CellsAt.own (j := 0) (m := 6) (hS.at_ 1 rfl) rfl)) ?_
  exact ⟨pairF b9, rfl, (hn9.agree (hS.since 0 rfl)).mono hsz, hS.below⟩
end Go.Proofs.YtjcminoaiieckaaGreatDoor
namespace Go.Proofs.YtjcminoaiieckaaGreatDoor
open Go Go.RowKit
set_option linter.unusedVariables false
def zvW : WV := .mk ⟨false, 0, 0, none, 0, 0, [], none, 0, 0, [], none, 0, 0⟩ []
theorem zv_in (w : World) : WIn w 1 zvW :=
  ⟨⟨.inl rfl, rfl, by decide, (fun r hr => by cases hr), .inl rfl, rfl, (fun c hc => by cases hc), by decide⟩, rfl, .inl rfl, fun p hp => by cases hp⟩
theorem sameZ (w : World) : Calls Tryz.prog 22 #[.agg #[.bool false, .int .i64 0, .int .u64 0, .slice none 0 0, .slice none 0 0, .slice none 0 0], .agg #[.bool false, .int .i64 0, .int .u64 0, .slice none 0 0, .slice none 0 0, .slice none 0 0]] w fun e w' => e = .returned (.bool true) ∧ Below w.heap.size w w' :=
  sameWR_is 1 1 zvW zvW w (zv_in w) (zv_in w) rfl rfl

set_option maxRecDepth 100000 in
set_option maxHeartbeats 4000000 in
theorem weightSpaces_walk0 (ds dw dt dv : Nat) (s : SV) (x : WV) (t : SV) (y : WV) (w : World) (hs : SIn w ds s) (hx : WIn w dw x) (htt : SIn w dt t) (hy : WIn w dv y) (ht : Tabs w) (oneR : ∀ (S : PS) (sf : SF) (W : World), SIs W S sf → S.ok → Calls Tryz.prog 13 #[sf.val] W (WRet2 S (oneX S) 0 W)) :
    Calls Tryz.prog 3 #[s.f.val, x.f.val, t.f.val, y.f.val] w (fun e w' => e = .returned (.bool true) ∧ Below w.heap.size w w') := by
  refine enterF (args := [s.f.val, x.f.val, t.f.val, y.f.val]) Tryz.func3 rfl Tryz.ntmps3 rfl ?_
  have hS := St.start w
  refine seqF ?_
  refine regF ?_
  refine op_box (cs := [_, _, _]) hS rfl rfl rfl ?_
  clear hS; intro B1 W1 hS
  refine op_box (cs := [_, _, _, _, _, _]) hS rfl rfl rfl ?_
  clear hS; intro B2 W2 hS
  refine op_box (cs := [_, _, _]) hS rfl rfl rfl ?_
  clear hS; intro B3 W3 hS
  refine op_box (cs := [_, _, _, _, _, _]) hS rfl rfl rfl ?_
  clear hS; intro B4 W4 hS
  refine op_assign rfl rfl ?_
  refine endF ?_
  refine XF.thenN ?_
  refine seqF ?_
  refine seqF ?_
  refine regF ?_
  refine op_loadA (vs := [_, _, _]) Tryz.isAgg25 Tryz.sizeOf25 rfl (CellsAt.own (j := 0) (m := 3) (hS.at_ 3 rfl) rfl) rfl ?_
  refine op_call (vs := [_, _]) hS goes_9 rfl (smallSpace_is 4 0 ds s _ (by omega) (SIn.below hS.below hs)) rfl ?_
  rintro e W5 ⟨rfl, hb⟩
  refine ⟨_, rfl, hb, fun hS' => ?_⟩
  clear hS; have hS := hS'; clear hS' hb
  refine op_not rfl rfl ?_
  refine op_move rfl rfl ?_
  refine op_cases (d := 24) rfl (fun hc => ?_) (fun hc => ?_)
  · have hg24 := hc; clear hc
    refine op_notF (d := 24) rfl rfl rfl rfl ?_
    refine op_notF (d := 24) rfl rfl rfl rfl ?_
    refine op_notF (d := 24) rfl rfl rfl rfl ?_
    refine op_pickT rfl rfl rfl ?_
    refine op_move rfl rfl ?_
    refine op_notF (d := 29) rfl rfl rfl rfl ?_
    refine op_notF (d := 29) rfl rfl rfl rfl ?_
    refine op_notF (d := 29) rfl rfl rfl rfl ?_
    refine op_pickT rfl rfl rfl ?_
    refine op_move rfl rfl ?_
    refine op_notF (d := 34) rfl rfl rfl rfl ?_
    refine op_notF (d := 34) rfl rfl rfl rfl ?_
    refine op_notF (d := 34) rfl rfl rfl rfl ?_
    refine op_pickT rfl rfl rfl ?_
    refine endF ?_
    refine XF.thenN ?_
    refine condT rfl ?_
    refine seqF ?_
    refine regF ?_
    refine op_call (vs := []) hS goes_11 rfl (aliveW_is _ (ht.below hS.below)) rfl ?_
    rintro e W6 ⟨rfl, hb⟩
    refine ⟨_, rfl, hb, fun hS' => ?_⟩
    clear hS; have hS := hS'; clear hS' hb
    refine op_assign rfl rfl ?_
    refine endF ?_
    refine XF.thenN ?_
    refine retF ?_
    refine XF.thenR ?_
    refine XF.res (res1 Tryz.results3 rfl) ?_
    exact ⟨rfl, hS.below⟩
  · have hg24 := hc; clear hc
    have hs4 : smS 4 s = true := by simpa using hg24
    refine op_wantedF (d := 24) rfl rfl ?_
    refine op_loadA (vs := [_, _, _]) Tryz.isAgg25 Tryz.sizeOf25 rfl (CellsAt.own (j := 0) (m := 3) (hS.at_ 1 rfl) rfl) rfl ?_
    refine op_wantedF (d := 24) rfl rfl ?_
    refine op_call (vs := [_, _]) hS goes_9 rfl (smallSpace_is 4 0 dt t _ (by omega) (SIn.below hS.below htt)) rfl ?_
    rintro e W7 ⟨rfl, hb⟩
    refine ⟨_, rfl, hb, fun hS' => ?_⟩
    clear hS; have hS := hS'; clear hS' hb
    refine op_wantedF (d := 24) rfl rfl ?_
    refine op_not rfl rfl ?_
    refine op_pickF rfl rfl rfl ?_
    refine op_move rfl rfl ?_
    refine op_cases (d := 29) rfl (fun hc => ?_) (fun hc => ?_)
    · have hg29 := hc; clear hc
      refine op_notF (d := 29) rfl rfl rfl rfl ?_
      refine op_notF (d := 29) rfl rfl rfl rfl ?_
      refine op_notF (d := 29) rfl rfl rfl rfl ?_
      refine op_pickT rfl rfl rfl ?_
      refine op_move rfl rfl ?_
      refine op_notF (d := 34) rfl rfl rfl rfl ?_
      refine op_notF (d := 34) rfl rfl rfl rfl ?_
      refine op_notF (d := 34) rfl rfl rfl rfl ?_
      refine op_pickT rfl rfl rfl ?_
      refine endF ?_
      refine XF.thenN ?_
      refine condT rfl ?_
      refine seqF ?_
      refine regF ?_
      refine op_call (vs := []) hS goes_11 rfl (aliveW_is _ (ht.below hS.below)) rfl ?_
      rintro e W8 ⟨rfl, hb⟩
      refine ⟨_, rfl, hb, fun hS' => ?_⟩
      clear hS; have hS := hS'; clear hS' hb
      refine op_assign rfl rfl ?_
      refine endF ?_
      refine XF.thenN ?_
      refine retF ?_
      refine XF.thenR ?_
      refine XF.res (res1 Tryz.results3 rfl) ?_
      exact ⟨rfl, hS.below⟩
    · have hg29 := hc; clear hc
      have ht4 : smS 4 t = true := by simpa using hg29
      refine op_wantedF (d := 29) rfl rfl ?_
      refine op_loadA (vs := [_, _, _, _, _, _]) Tryz.isAgg33 Tryz.sizeOf33 rfl (CellsAt.own (j := 0) (m := 6) (hS.at_ 2 rfl) rfl) rfl ?_
      refine op_wantedF (d := 29) rfl rfl ?_
      refine op_call (vs := [_, _]) hS goes_10 rfl (small_is 4 0 dw x _ (by omega) (WIn.below hS.below hx)) rfl ?_
      rintro e W9 ⟨rfl, hb⟩
      refine ⟨_, rfl, hb, fun hS' => ?_⟩
      clear hS; have hS := hS'; clear hS' hb
      refine op_wantedF (d := 29) rfl rfl ?_
      refine op_not rfl rfl ?_
      refine op_pickF rfl rfl rfl ?_
      refine op_move rfl rfl ?_
      refine op_cases (d := 34) rfl (fun hc => ?_) (fun hc => ?_)
      · have hg34 := hc; clear hc
        refine op_notF (d := 34) rfl rfl rfl rfl ?_
        refine op_notF (d := 34) rfl rfl rfl rfl ?_
        refine op_notF (d := 34) rfl rfl rfl rfl ?_
        refine op_pickT rfl rfl rfl ?_
        refine endF ?_
        refine XF.thenN ?_
        refine condT rfl ?_
        refine seqF ?_
        refine regF ?_
        refine op_call (vs := []) hS goes_11 rfl (aliveW_is _ (ht.below hS.below)) rfl ?_
        rintro e W10 ⟨rfl, hb⟩
        refine ⟨_, rfl, hb, fun hS' => ?_⟩
        clear hS; have hS := hS'; clear hS' hb
        refine op_assign rfl rfl ?_
        refine endF ?_
        refine XF.thenN ?_
        refine retF ?_
        refine XF.thenR ?_
        refine XF.res (res1 Tryz.results3 rfl) ?_
        exact ⟨rfl, hS.below⟩
      · have hg34 := hc; clear hc
        have hx4 : smN 4 x = true := by simpa using hg34
        refine op_wantedF (d := 34) rfl rfl ?_
        refine op_loadA (vs := [_, _, _, _, _, _]) Tryz.isAgg33 Tryz.sizeOf33 rfl (CellsAt.own (j := 0) (m := 6) (hS.at_ 0 rfl) rfl) rfl ?_
        refine op_wantedF (d := 34) rfl rfl ?_
        refine op_call (vs := [_, _]) hS goes_10 rfl (small_is 4 0 dv y _ (by omega) (WIn.below hS.below hy)) rfl ?_
        rintro e W11 ⟨rfl, hb⟩
        refine ⟨_, rfl, hb, fun hS' => ?_⟩
        clear hS; have hS := hS'; clear hS' hb
        refine op_wantedF (d := 34) rfl rfl ?_
        refine op_not rfl rfl ?_
        refine op_pickF rfl rfl rfl ?_
        refine endF ?_
        refine XF.thenN ?_
        refine condF rfl (fun hc => ?_) (fun hc => ?_)
        · have hc38 := hc; clear hc
          refine seqF ?_
          refine regF ?_
          refine op_call (vs := []) hS goes_11 rfl (aliveW_is _ (ht.below hS.below)) rfl ?_
          rintro e W12 ⟨rfl, hb⟩
          refine ⟨_, rfl, hb, fun hS' => ?_⟩
          clear hS; have hS := hS'; clear hS' hb
          refine op_assign rfl rfl ?_
          refine endF ?_
          refine XF.thenN ?_
          refine retF ?_
          refine XF.thenR ?_
          refine XF.res (res1 Tryz.results3 rfl) ?_
          exact ⟨rfl, hS.below⟩
        · have hc38 := hc; clear hc
          have hy4 : smN 4 y = true := by simpa using hc38
          obtain ⟨hx1, hx2⟩ := smN_100 hx hx4
          have hxm := WIn.more (Nat.le_max_left dw dv) hx
          have hym := WIn.more (Nat.le_max_right dw dv) hy
          have hsm := SIn.more (Nat.le_max_left ds dt) hs
          have htm := SIn.more (Nat.le_max_right ds dt) htt
          refine skipF ?_
          refine XF.thenN ?_
          refine seqF ?_
          by_cases hse : spaceE s = 0
          · obtain ⟨S, hok, hsi, _⟩ := space_of hs hse
            refine regF ?_
            refine op_loadA (vs := [_, _, _]) Tryz.isAgg25 Tryz.sizeOf25 rfl (CellsAt.own (j := 0) (m := 3) (hS.at_ 3 rfl) rfl) rfl ?_
            refine op_call (vs := [_]) hS goes_12 rfl (OneW_ok S s.f _ (hsi.below hS.below) hok) rfl ?_
            rintro e W13 ⟨fa, rfl, hna, hb⟩
            refine ⟨_, rfl, hb, fun hS' => ?_⟩
            clear hS; have hS := hS'; clear hS' hb
            refine op_move rfl rfl ?_
            refine op_extract rfl rfl rfl ?_
            refine op_extract rfl rfl rfl ?_
            refine op_alloc (cs := [_, _, _, _, _, _]) hS Tryz.zeroValue33 rfl rfl ?_
            clear hS; intro B14 W14 hS
            refine op_storeA (i := 0) (vs := [_, _, _, _, _, _]) (cs' := [_, _, _, _, _, _]) (O' := [_, _, _, _, _]) hS Tryz.sizeOf33 rfl rfl rfl rfl rfl rfl rfl ?_
            clear hS; intro W15 hS
            refine op_assign rfl rfl ?_
            refine endF ?_
            refine XF.thenN ?_
            refine seqF ?_
            refine regF ?_
            refine op_loadA (vs := [_, _, _]) Tryz.isAgg25 Tryz.sizeOf25 rfl (CellsAt.own (j := 0) (m := 3) (hS.at_ 4 rfl) rfl) rfl ?_
            refine op_call (vs := [_]) hS goes_13 rfl (oneR S s.f _ (hsi.below hS.below) hok) rfl ?_
            rintro e W16 ⟨fb, rfl, hnb, hb⟩
            refine ⟨_, rfl, hb, fun hS' => ?_⟩
            clear hS; have hS := hS'; clear hS' hb
            refine op_move rfl rfl ?_
            refine op_extract rfl rfl rfl ?_
            refine op_extract rfl rfl rfl ?_
            refine op_alloc (cs := [_, _, _, _, _, _]) hS Tryz.zeroValue33 rfl rfl ?_
            clear hS; intro B17 W17 hS
            refine op_storeA (i := 0) (vs := [_, _, _, _, _, _]) (cs' := [_, _, _, _, _, _]) (O' := [_, _, _, _, _, _]) hS Tryz.sizeOf33 rfl rfl rfl rfl rfl rfl rfl ?_
            clear hS; intro W18 hS
            refine op_assign rfl rfl ?_
            refine endF ?_
            refine XF.thenN ?_
            refine seqF ?_
            refine regF ?_
            refine op_loadA (vs := [_, _, _]) Tryz.isAgg25 Tryz.sizeOf25 rfl (CellsAt.own (j := 0) (m := 3) (hS.at_ 5 rfl) rfl) rfl ?_
            refine op_call (vs := [_]) hS goes_14 rfl (ZeroW_ok S s.f _ (hsi.below hS.below) hok) rfl ?_
            rintro e W19 ⟨fc, rfl, hnc, hb⟩
            refine ⟨_, rfl, hb, fun hS' => ?_⟩
            clear hS; have hS := hS'; clear hS' hb
            refine op_move rfl rfl ?_
            refine op_extract rfl rfl rfl ?_
            refine op_extract rfl rfl rfl ?_
            refine op_alloc (cs := [_, _, _, _, _, _]) hS Tryz.zeroValue33 rfl rfl ?_
            clear hS; intro B20 W20 hS
            refine op_storeA (i := 0) (vs := [_, _, _, _, _, _]) (cs' := [_, _, _, _, _, _]) (O' := [_, _, _, _, _, _, _]) hS Tryz.sizeOf33 rfl rfl rfl rfl rfl rfl rfl ?_
            clear hS; intro W21 hS
            refine op_assign rfl rfl ?_
            refine endF ?_
            refine XF.thenN ?_
            refine seqF ?_
            refine regF ?_
            refine op_loadA (vs := [_, _, _]) Tryz.isAgg25 Tryz.sizeOf25 rfl (CellsAt.own (j := 0) (m := 3) (hS.at_ 6 rfl) rfl) rfl ?_
            refine op_call (vs := [_]) hS goes_15 rfl (ZeroR_plain S s.f _ (hsi.below hS.below) hok) rfl ?_
            rintro e W22 ⟨fd, rfl, hnd, hb⟩
            refine ⟨_, rfl, hb, fun hS' => ?_⟩
            clear hS; have hS := hS'; clear hS' hb
            refine op_move rfl rfl ?_
            refine op_extract rfl rfl rfl ?_
            refine op_extract rfl rfl rfl ?_
            refine op_alloc (cs := [_, _, _, _, _, _]) hS Tryz.zeroValue33 rfl rfl ?_
            clear hS; intro B23 W23 hS
            refine op_storeA (i := 0) (vs := [_, _, _, _, _, _]) (cs' := [_, _, _, _, _, _]) (O' := [_, _, _, _, _, _, _, _]) hS Tryz.sizeOf33 rfl rfl rfl rfl rfl rfl rfl ?_
            clear hS; intro W24 hS
            refine op_assign rfl rfl ?_
            refine endF ?_
            refine XF.thenN ?_
            refine seqF ?_
            refine regF ?_
            refine op_loadA (vs := [_, _, _]) Tryz.isAgg25 Tryz.sizeOf25 rfl (CellsAt.own (j := 0) (m := 3) (hS.at_ 7 rfl) rfl) rfl ?_
            refine op_call (vs := [_]) hS goes_16 rfl (HeightW_ok S s.f _ (hsi.below hS.below) hok) rfl ?_
            rintro e W25 ⟨rfl, hb⟩
            refine ⟨_, rfl, hb, fun hS' => ?_⟩
            clear hS; have hS := hS'; clear hS' hb
            refine op_move rfl rfl ?_
            refine op_extract rfl rfl rfl ?_
            refine op_extract rfl rfl rfl ?_
            refine op_assign rfl rfl ?_
            refine op_assign rfl rfl ?_
            refine endF ?_
            refine XF.thenN ?_
            refine seqF ?_
            refine regF ?_
            refine op_loadA (vs := [_, _, _]) Tryz.isAgg25 Tryz.sizeOf25 rfl (CellsAt.own (j := 0) (m := 3) (hS.at_ 7 rfl) rfl) rfl ?_
            refine op_call (vs := [_]) hS goes_17 rfl (HeightR_ok (hsi.below hS.below) hok) rfl ?_
            rintro e W26 ⟨rfl, hb⟩
            refine ⟨_, rfl, hb, fun hS' => ?_⟩
            clear hS; have hS := hS'; clear hS' hb
            refine op_move rfl rfl ?_
            refine op_extract rfl rfl rfl ?_
            refine op_extract rfl rfl rfl ?_
            refine op_assign rfl rfl ?_
            refine op_assign rfl rfl ?_
            refine endF ?_
            refine XF.thenN ?_
            refine seqF ?_
            refine seqF ?_
            have hfa := (hna.agree (hS.since 5 rfl)).is
            have hfb := (hnb.agree (hS.since 4 rfl)).is
            have hfc := (hnc.agree (hS.since 3 rfl)).is
            have hfd := (hnd.agree (hS.since 2 rfl)).is
            refine regB (m := 46) followsM hS (by kernel_rfl) (by kernel_rfl) rfl ?_
            refine bl_cons 1 rfl (isV _) (stab_isV _) (rgV (li := [(4, _)]) rfl (w_free rfl) ⟨g_fr (by kernel_rfl) rfl, trivial⟩ (fun w hw => rn_loadA (vs := [_, _, _]) Tryz.isAgg25 Tryz.sizeOf25 rfl (CellsAt.agree (below_agree hw 0) (Nat.zero_le _) (CellsAt.own (j := 0) (m := 3) (hS.at_ 7 rfl) rfl))) (at_top rfl)) ?_
            refine bl_cons 2 rfl (isV (.int .i64 (spaceE s))) (stab_isV _) (rg_call [isV _] rfl goes_18 (w_free rfl) ⟨p_tmp (g_dep 0 (by kernel_rfl) (at_dep rfl rfl rfl)), trivial⟩ (fun vs w' hb hh => by have e := holds_isV (us := [_]) hh; subst e; exact (spaceA_is ds s _ _ (SIn.below (hS.below.trans (hb.mono hS.below.size)) hs) rfl).mono fun e w2 h => ⟨_, h.1, rfl, h.2⟩) (at_top rfl)) ?_
            refine bl_cons 3 rfl (isV _) (stab_isV _) (rgV (li := [(4, _)]) rfl (w_free rfl) ⟨g_fr (by kernel_rfl) rfl, trivial⟩ (fun w hw => rn_loadA (vs := [_, _, _]) Tryz.isAgg25 Tryz.sizeOf25 rfl (CellsAt.agree (below_agree hw 0) (Nat.zero_le _) (CellsAt.own (j := 0) (m := 3) (hS.at_ 7 rfl) rfl))) (at_top rfl)) ?_
            refine bl_cons 4 rfl (isV (.int .i64 (spaceE s))) (stab_isV _) (rg_call [isV _] rfl goes_19 (w_free rfl) ⟨p_tmp (g_dep 2 (by kernel_rfl) (at_dep rfl rfl rfl)), trivial⟩ (fun vs w' hb hh => by have e := holds_isV (us := [_]) hh; subst e; exact (spaceR_is ds s _ _ (SIn.below (hS.below.trans (hb.mono hS.below.size)) hs) rfl).mono fun e w2 h => ⟨_, h.1, rfl, h.2⟩) (at_top rfl)) ?_
            refine bl_cons 5 rfl (isV (.bool false)) (stab_isV _) (rgVe (li := [(71, _), (73, _)]) rfl (w_free rfl) ⟨g_dep 1 (by kernel_rfl) (at_dep rfl rfl rfl), g_dep 3 (by kernel_rfl) (at_dep rfl rfl rfl), trivial⟩ (fun w hw => rn_neq rfl rfl) (by simp) (at_top rfl)) ?_
            refine bl_cons 6 rfl (isV _) (stab_isV _) (rgV (li := [(74, _)]) rfl (w_free rfl) ⟨g_dep 4 (by kernel_rfl) (at_dep rfl rfl rfl), trivial⟩ (fun w hw => rn_move rfl) (at_top rfl)) ?_
            refine bl_cons 7 rfl (isV _) (stab_isV _) (rgV (li := [(4, _)]) rfl (w_yes 75 rfl (by kernel_rfl) (by kernel_rfl) (at_dep rfl rfl rfl)) ⟨g_fr (by kernel_rfl) rfl, trivial⟩ (fun w hw => rn_loadA (vs := [_, _, _]) Tryz.isAgg25 Tryz.sizeOf25 rfl (CellsAt.agree (below_agree hw 0) (Nat.zero_le _) (CellsAt.own (j := 0) (m := 3) (hS.at_ 7 rfl) rfl))) (at_top rfl)) ?_
            refine bl_cons 8 rfl (isV _) (stab_isV _) (rgV (li := [(5, _)]) rfl (w_yes 75 rfl (by kernel_rfl) (by kernel_rfl) (at_dep rfl rfl rfl)) ⟨g_fr (by kernel_rfl) rfl, trivial⟩ (fun w hw => rn_loadA (vs := [_, _, _, _, _, _]) Tryz.isAgg33 Tryz.sizeOf33 rfl (CellsAt.agree (below_agree hw 0) (Nat.zero_le _) (CellsAt.own (j := 0) (m := 6) (hS.at_ 6 rfl) rfl))) (at_top rfl)) ?_
            refine bl_cons 9 rfl (isV (.int .i64 (chkW s x))) (stab_isV _) (rg_call [isV _, isV _] rfl goes_20 (w_yes 75 rfl (by kernel_rfl) (by kernel_rfl) (at_dep rfl rfl rfl)) ⟨p_tmp (g_dep 6 (by kernel_rfl) (at_dep rfl rfl rfl)), p_tmp (g_dep 7 (by kernel_rfl) (at_dep rfl rfl rfl)), trivial⟩ (fun vs w' hb hh => by have e := holds_isV (us := [_, _]) hh; subst e; exact (checkA_gen ds dw s x _ (SIn.below (hS.below.trans (hb.mono hS.below.size)) hs) (WIn.below (hS.below.trans (hb.mono hS.below.size)) hx) hx1 hx2).mono fun e w2 h => ⟨_, h.1, rfl, h.2⟩) (at_top rfl)) ?_
            refine bl_cons 10 rfl (isV _) (stab_isV _) (rgV (li := [(4, _)]) rfl (w_yes 75 rfl (by kernel_rfl) (by kernel_rfl) (at_dep rfl rfl rfl)) ⟨g_fr (by kernel_rfl) rfl, trivial⟩ (fun w hw => rn_loadA (vs := [_, _, _]) Tryz.isAgg25 Tryz.sizeOf25 rfl (CellsAt.agree (below_agree hw 0) (Nat.zero_le _) (CellsAt.own (j := 0) (m := 3) (hS.at_ 7 rfl) rfl))) (at_top rfl)) ?_
            refine bl_cons 11 rfl (isV _) (stab_isV _) (rgV (li := [(5, _)]) rfl (w_yes 75 rfl (by kernel_rfl) (by kernel_rfl) (at_dep rfl rfl rfl)) ⟨g_fr (by kernel_rfl) rfl, trivial⟩ (fun w hw => rn_loadA (vs := [_, _, _, _, _, _]) Tryz.isAgg33 Tryz.sizeOf33 rfl (CellsAt.agree (below_agree hw 0) (Nat.zero_le _) (CellsAt.own (j := 0) (m := 6) (hS.at_ 6 rfl) rfl))) (at_top rfl)) ?_
            refine bl_cons 12 rfl (isV (.int .i64 (chkW s x))) (stab_isV _) (rg_call [isV _, isV _] rfl goes_21 (w_yes 75 rfl (by kernel_rfl) (by kernel_rfl) (at_dep rfl rfl rfl)) ⟨p_tmp (g_dep 9 (by kernel_rfl) (at_dep rfl rfl rfl)), p_tmp (g_dep 10 (by kernel_rfl) (at_dep rfl rfl rfl)), trivial⟩ (fun vs w' hb hh => by have e := holds_isV (us := [_, _]) hh; subst e; exact (checkR_gen ds dw s x _ (SIn.below (hS.below.trans (hb.mono hS.below.size)) hs) (WIn.below (hS.below.trans (hb.mono hS.below.size)) hx) hx1 hx2).mono fun e w2 h => ⟨_, h.1, rfl, h.2⟩) (at_top rfl)) ?_
            refine bl_cons 13 rfl (isV (.bool false)) (stab_isV _) (rgVe (li := [(78, _), (81, _)]) rfl (w_yes 75 rfl (by kernel_rfl) (by kernel_rfl) (at_dep rfl rfl rfl)) ⟨g_dep 8 (by kernel_rfl) (at_dep rfl rfl rfl), g_dep 11 (by kernel_rfl) (at_dep rfl rfl rfl), trivial⟩ (fun w hw => rn_neq rfl rfl) (by simp) (at_top rfl)) ?_
            refine bl_cons 14 rfl (isV _) (stab_isV _) (rgV (li := [(75, _), (82, _)]) rfl (w_free rfl) ⟨g_dep 5 (by kernel_rfl) (at_dep rfl rfl rfl), g_dep 12 (by kernel_rfl) (at_dep rfl rfl rfl), trivial⟩ (fun w hw => rn_pickF rfl rfl) (at_top rfl)) ?_
            refine bl_cons 15 rfl (isV _) (stab_isV _) (rgV (li := [(83, _)]) rfl (w_free rfl) ⟨g_dep 13 (by kernel_rfl) (at_dep rfl rfl rfl), trivial⟩ (fun w hw => rn_move rfl) (at_top rfl)) ?_
            refine bl_cons 16 rfl (isV _) (stab_isV _) (rgV (li := [(9, _)]) rfl (w_yes 84 rfl (by kernel_rfl) (by kernel_rfl) (at_dep rfl rfl rfl)) ⟨g_fr (by kernel_rfl) rfl, trivial⟩ (fun w hw => rn_loadA (vs := [_, _, _, _, _, _]) Tryz.isAgg33 Tryz.sizeOf33 rfl (CellsAt.agree (below_agree hw 0) (Nat.zero_le _) (CellsAt.own (j := 0) (m := 6) (hS.at_ 3 rfl) rfl))) (at_top rfl)) ?_
            refine bl_cons 17 rfl (isV _) (stab_isV _) (rgV (li := [(11, _)]) rfl (w_yes 84 rfl (by kernel_rfl) (by kernel_rfl) (at_dep rfl rfl rfl)) ⟨g_fr (by kernel_rfl) rfl, trivial⟩ (fun w hw => rn_loadA (vs := [_, _, _, _, _, _]) Tryz.isAgg33 Tryz.sizeOf33 rfl (CellsAt.agree (below_agree hw 0) (Nat.zero_le _) (CellsAt.own (j := 0) (m := 6) (hS.at_ 2 rfl) rfl))) (at_top rfl)) ?_
            refine bl_cons 18 rfl (isV (.bool true)) (stab_isV _) (rg_call [isV _, isV _] rfl goes_22 (w_yes 84 rfl (by kernel_rfl) (by kernel_rfl) (at_dep rfl rfl rfl)) ⟨p_tmp (g_dep 15 (by kernel_rfl) (at_dep rfl rfl rfl)), p_tmp (g_dep 16 (by kernel_rfl) (at_dep rfl rfl rfl)), trivial⟩ (fun vs w' hb hh => by have e := holds_isV (us := [_, _]) hh; subst e; exact (sameW_is (hfa.below hb) (hfb.below hb) true (by simp)).mono fun e w2 h => ⟨_, h.1, rfl, h.2⟩) (at_top rfl)) ?_
            refine bl_cons 19 rfl (isV (.bool false)) (stab_isV _) (rgVe (li := [(87, _)]) rfl (w_yes 84 rfl (by kernel_rfl) (by kernel_rfl) (at_dep rfl rfl rfl)) ⟨g_dep 17 (by kernel_rfl) (at_dep rfl rfl rfl), trivial⟩ (fun w hw => rn_not rfl) (by simp) (at_top rfl)) ?_
            refine bl_cons 20 rfl (isV _) (stab_isV _) (rgV (li := [(84, _), (88, _)]) rfl (w_free rfl) ⟨g_dep 14 (by kernel_rfl) (at_dep rfl rfl rfl), g_dep 18 (by kernel_rfl) (at_dep rfl rfl rfl), trivial⟩ (fun w hw => rn_pickF rfl rfl) (at_top rfl)) ?_
            refine bl_cons 21 rfl (isV _) (stab_isV _) (rgV (li := [(89, _)]) rfl (w_free rfl) ⟨g_dep 19 (by kernel_rfl) (at_dep rfl rfl rfl), trivial⟩ (fun w hw => rn_move rfl) (at_top rfl)) ?_
            refine bl_cons 22 rfl (isV _) (stab_isV _) (rgV (li := [(10, _)]) rfl (w_yes 90 rfl (by kernel_rfl) (by kernel_rfl) (at_dep rfl rfl rfl)) ⟨g_fr (by kernel_rfl) rfl, trivial⟩ (fun w hw => rn_move rfl) (at_top rfl)) ?_
            refine bl_cons 23 rfl (isV _) (stab_isV _) (rgV (li := [(12, _)]) rfl (w_yes 90 rfl (by kernel_rfl) (by kernel_rfl) (at_dep rfl rfl rfl)) ⟨g_fr (by kernel_rfl) rfl, trivial⟩ (fun w hw => rn_move rfl) (at_top rfl)) ?_
            refine bl_cons 24 rfl (isV (.bool false)) (stab_isV _) (rgVe (li := [(91, _), (92, _)]) rfl (w_yes 90 rfl (by kernel_rfl) (by kernel_rfl) (at_dep rfl rfl rfl)) ⟨g_dep 21 (by kernel_rfl) (at_dep rfl rfl rfl), g_dep 22 (by kernel_rfl) (at_dep rfl rfl rfl), trivial⟩ (fun w hw => rn_neq rfl rfl) (by simp) (at_top rfl)) ?_
            refine bl_cons 25 rfl (isV _) (stab_isV _) (rgV (li := [(90, _), (93, _)]) rfl (w_free rfl) ⟨g_dep 20 (by kernel_rfl) (at_dep rfl rfl rfl), g_dep 23 (by kernel_rfl) (at_dep rfl rfl rfl), trivial⟩ (fun w hw => rn_pickF rfl rfl) (at_top rfl)) ?_
            refine bl_cons 26 rfl (isV _) (stab_isV _) (rgV (li := [(94, _)]) rfl (w_free rfl) ⟨g_dep 24 (by kernel_rfl) (at_dep rfl rfl rfl), trivial⟩ (fun w hw => rn_move rfl) (at_top rfl)) ?_
            refine bl_cons 27 rfl (isV _) (stab_isV _) (rgV (li := [(13, _)]) rfl (w_yes 95 rfl (by kernel_rfl) (by kernel_rfl) (at_dep rfl rfl rfl)) ⟨g_fr (by kernel_rfl) rfl, trivial⟩ (fun w hw => rn_loadA (vs := [_, _, _, _, _, _]) Tryz.isAgg33 Tryz.sizeOf33 rfl (CellsAt.agree (below_agree hw 0) (Nat.zero_le _) (CellsAt.own (j := 0) (m := 6) (hS.at_ 1 rfl) rfl))) (at_top rfl)) ?_
            refine bl_cons 28 rfl (isV _) (stab_isV _) (rgV (li := [(15, _)]) rfl (w_yes 95 rfl (by kernel_rfl) (by kernel_rfl) (at_dep rfl rfl rfl)) ⟨g_fr (by kernel_rfl) rfl, trivial⟩ (fun w hw => rn_loadA (vs := [_, _, _, _, _, _]) Tryz.isAgg33 Tryz.sizeOf33 rfl (CellsAt.agree (below_agree hw 0) (Nat.zero_le _) (CellsAt.own (j := 0) (m := 6) (hS.at_ 0 rfl) rfl))) (at_top rfl)) ?_
            refine bl_cons 29 rfl (isV (.bool true)) (stab_isV _) (rg_call [isV _, isV _] rfl goes_22 (w_yes 95 rfl (by kernel_rfl) (by kernel_rfl) (at_dep rfl rfl rfl)) ⟨p_tmp (g_dep 26 (by kernel_rfl) (at_dep rfl rfl rfl)), p_tmp (g_dep 27 (by kernel_rfl) (at_dep rfl rfl rfl)), trivial⟩ (fun vs w' hb hh => by have e := holds_isV (us := [_, _]) hh; subst e; exact (sameW_is (hfc.below hb) (hfd.below hb) true (by simp)).mono fun e w2 h => ⟨_, h.1, rfl, h.2⟩) (at_top rfl)) ?_
            refine bl_cons 30 rfl (isV (.bool false)) (stab_isV _) (rgVe (li := [(98, _)]) rfl (w_yes 95 rfl (by kernel_rfl) (by kernel_rfl) (at_dep rfl rfl rfl)) ⟨g_dep 28 (by kernel_rfl) (at_dep rfl rfl rfl), trivial⟩ (fun w hw => rn_not rfl) (by simp) (at_top rfl)) ?_
            refine bl_cons 31 rfl (isV _) (stab_isV _) (rgV (li := [(95, _), (99, _)]) rfl (w_free rfl) ⟨g_dep 25 (by kernel_rfl) (at_dep rfl rfl rfl), g_dep 29 (by kernel_rfl) (at_dep rfl rfl rfl), trivial⟩ (fun w hw => rn_pickF rfl rfl) (at_top rfl)) ?_
            refine bl_cons 32 rfl (isV _) (stab_isV _) (rgV (li := [(100, _)]) rfl (w_free rfl) ⟨g_dep 30 (by kernel_rfl) (at_dep rfl rfl rfl), trivial⟩ (fun w hw => rn_move rfl) (at_top rfl)) ?_
            refine bl_cons 33 rfl (isV _) (stab_isV _) (rgV (li := [(14, _)]) rfl (w_yes 101 rfl (by kernel_rfl) (by kernel_rfl) (at_dep rfl rfl rfl)) ⟨g_fr (by kernel_rfl) rfl, trivial⟩ (fun w hw => rn_move rfl) (at_top rfl)) ?_
            refine bl_cons 34 rfl (isV _) (stab_isV _) (rgV (li := [(16, _)]) rfl (w_yes 101 rfl (by kernel_rfl) (by kernel_rfl) (at_dep rfl rfl rfl)) ⟨g_fr (by kernel_rfl) rfl, trivial⟩ (fun w hw => rn_move rfl) (at_top rfl)) ?_
            refine bl_cons 35 rfl (isV (.bool false)) (stab_isV _) (rgVe (li := [(102, _), (103, _)]) rfl (w_yes 101 rfl (by kernel_rfl) (by kernel_rfl) (at_dep rfl rfl rfl)) ⟨g_dep 32 (by kernel_rfl) (at_dep rfl rfl rfl), g_dep 33 (by kernel_rfl) (at_dep rfl rfl rfl), trivial⟩ (fun w hw => rn_neq rfl rfl) (by simp) (at_top rfl)) ?_
            refine bl_cons 36 rfl (isV _) (stab_isV _) (rgV (li := [(101, _), (104, _)]) rfl (w_free rfl) ⟨g_dep 31 (by kernel_rfl) (at_dep rfl rfl rfl), g_dep 34 (by kernel_rfl) (at_dep rfl rfl rfl), trivial⟩ (fun w hw => rn_pickF rfl rfl) (at_top rfl)) ?_
            refine bl_cons 37 rfl (isV _) (stab_isV _) (rgV (li := [(105, _)]) rfl (w_free rfl) ⟨g_dep 35 (by kernel_rfl) (at_dep rfl rfl rfl), trivial⟩ (fun w hw => rn_move rfl) (at_top rfl)) ?_
            refine bl_cons 38 rfl (isV _) (stab_isV _) (rgV (li := [(17, _)]) rfl (w_yes 106 rfl (by kernel_rfl) (by kernel_rfl) (at_dep rfl rfl rfl)) ⟨g_fr (by kernel_rfl) rfl, trivial⟩ (fun w hw => rn_move rfl) (at_top rfl)) ?_
            refine bl_cons 39 rfl (isV _) (stab_isV _) (rgV (li := [(19, _)]) rfl (w_yes 106 rfl (by kernel_rfl) (by kernel_rfl) (at_dep rfl rfl rfl)) ⟨g_fr (by kernel_rfl) rfl, trivial⟩ (fun w hw => rn_move rfl) (at_top rfl)) ?_
            refine bl_cons 40 rfl (isV (.bool false)) (stab_isV _) (rgVe (li := [(107, _), (108, _)]) rfl (w_yes 106 rfl (by kernel_rfl) (by kernel_rfl) (at_dep rfl rfl rfl)) ⟨g_dep 37 (by kernel_rfl) (at_dep rfl rfl rfl), g_dep 38 (by kernel_rfl) (at_dep rfl rfl rfl), trivial⟩ (fun w hw => rn_neq rfl rfl) (by simp) (at_top rfl)) ?_
            refine bl_cons 41 rfl (isV _) (stab_isV _) (rgV (li := [(106, _), (109, _)]) rfl (w_free rfl) ⟨g_dep 36 (by kernel_rfl) (at_dep rfl rfl rfl), g_dep 39 (by kernel_rfl) (at_dep rfl rfl rfl), trivial⟩ (fun w hw => rn_pickF rfl rfl) (at_top rfl)) ?_
            refine bl_cons 42 rfl (isV _) (stab_isV _) (rgV (li := [(110, _)]) rfl (w_free rfl) ⟨g_dep 40 (by kernel_rfl) (at_dep rfl rfl rfl), trivial⟩ (fun w hw => rn_move rfl) (at_top rfl)) ?_
            refine bl_cons 43 rfl (isV _) (stab_isV _) (rgV (li := [(18, _)]) rfl (w_yes 111 rfl (by kernel_rfl) (by kernel_rfl) (at_dep rfl rfl rfl)) ⟨g_fr (by kernel_rfl) rfl, trivial⟩ (fun w hw => rn_move rfl) (at_top rfl)) ?_
            refine bl_cons 44 rfl (isV _) (stab_isV _) (rgV (li := [(20, _)]) rfl (w_yes 111 rfl (by kernel_rfl) (by kernel_rfl) (at_dep rfl rfl rfl)) ⟨g_fr (by kernel_rfl) rfl, trivial⟩ (fun w hw => rn_move rfl) (at_top rfl)) ?_
            refine bl_cons 45 rfl (isV (.bool false)) (stab_isV _) (rgVe (li := [(112, _), (113, _)]) rfl (w_yes 111 rfl (by kernel_rfl) (by kernel_rfl) (at_dep rfl rfl rfl)) ⟨g_dep 42 (by kernel_rfl) (at_dep rfl rfl rfl), g_dep 43 (by kernel_rfl) (at_dep rfl rfl rfl), trivial⟩ (fun w hw => rn_neq rfl rfl) (by simp) (at_top rfl)) ?_
            refine bl_cons 46 rfl (isV _) (stab_isV _) (rgV (li := [(111, _), (114, _)]) rfl (w_free rfl) ⟨g_dep 41 (by kernel_rfl) (at_dep rfl rfl rfl), g_dep 44 (by kernel_rfl) (at_dep rfl rfl rfl), trivial⟩ (fun w hw => rn_pickF rfl rfl) (at_top rfl)) ?_
            refine bl_nil ?_
            intro W27 hbR hS'
            clear hS; have hS := hS'; clear hS'
            refine fin_v ?_
            refine fin_v ?_
            refine fin_v ?_
            refine fin_v ?_
            refine fin_v ?_
            refine fin_v ?_
            refine fin_v ?_
            refine fin_v ?_
            refine fin_v ?_
            refine fin_v ?_
            refine fin_v ?_
            refine fin_v ?_
            refine fin_v ?_
            refine fin_v ?_
            refine fin_v ?_
            refine fin_v ?_
            refine fin_v ?_
            refine fin_v ?_
            refine fin_v ?_
            refine fin_v ?_
            refine fin_v ?_
            refine fin_v ?_
            refine fin_v ?_
            refine fin_v ?_
            refine fin_v ?_
            refine fin_v ?_
            refine fin_v ?_
            refine fin_v ?_
            refine fin_v ?_
            refine fin_v ?_
            refine fin_v ?_
            refine fin_v ?_
            refine fin_v ?_
            refine fin_v ?_
            refine fin_v ?_
            refine fin_v ?_
            refine fin_v ?_
            refine fin_v ?_
            refine fin_v ?_
            refine fin_v ?_
            refine fin_v ?_
            refine fin_v ?_
            refine fin_v ?_
            refine fin_v ?_
            refine fin_v ?_
            refine fin_v ?_
            refine fin_nil ?_
            refine XF.thenN ?_
            refine condN rfl ?_
            refine skipF ?_
            refine XF.thenN ?_
            refine seqF ?_
            refine regB (m := 30) followsM hS (by kernel_rfl) (by kernel_rfl) rfl ?_
            refine bl_cons 1 rfl (isV _) (stab_isV _) (rgV (li := [(5, _)]) rfl (w_free rfl) ⟨g_fr (by kernel_rfl) rfl, trivial⟩ (fun w hw => rn_loadA (vs := [_, _, _, _, _, _]) Tryz.isAgg33 Tryz.sizeOf33 rfl (CellsAt.agree (below_agree hw 0) (Nat.zero_le _) (CellsAt.own (j := 0) (m := 6) (hS.at_ 6 rfl) rfl))) (at_top rfl)) ?_
            refine bl_cons 2 rfl (isV _) (stab_isV _) (rgV (li := [(7, _)]) rfl (w_free rfl) ⟨g_fr (by kernel_rfl) rfl, trivial⟩ (fun w hw => rn_loadA (vs := [_, _, _, _, _, _]) Tryz.isAgg33 Tryz.sizeOf33 rfl (CellsAt.agree (below_agree hw 0) (Nat.zero_le _) (CellsAt.own (j := 0) (m := 6) (hS.at_ 4 rfl) rfl))) (at_top rfl)) ?_
            refine bl_cons 3 rfl (isV (.bool (eqW (max dw dv) x y))) (stab_isV _) (rg_call [isV _, isV _] rfl goes_23 (w_free rfl) ⟨p_tmp (g_dep 0 (by kernel_rfl) (at_dep rfl rfl rfl)), p_tmp (g_dep 1 (by kernel_rfl) (at_dep rfl rfl rfl)), trivial⟩ (fun vs w' hb hh => by have e := holds_isV (us := [_, _]) hh; subst e; exact (sameWA_is (max dw dv) 4 x y _ (WIn.below (hS.below.trans (hb.mono hS.below.size)) hxm) (WIn.below (hS.below.trans (hb.mono hS.below.size)) hym) hx4 hy4).mono fun e w2 h => ⟨_, h.1, rfl, h.2⟩) (at_top rfl)) ?_
            refine bl_cons 4 rfl (isV _) (stab_isV _) (rgV (li := [(5, _)]) rfl (w_free rfl) ⟨g_fr (by kernel_rfl) rfl, trivial⟩ (fun w hw => rn_loadA (vs := [_, _, _, _, _, _]) Tryz.isAgg33 Tryz.sizeOf33 rfl (CellsAt.agree (below_agree hw 0) (Nat.zero_le _) (CellsAt.own (j := 0) (m := 6) (hS.at_ 6 rfl) rfl))) (at_top rfl)) ?_
            refine bl_cons 5 rfl (isV _) (stab_isV _) (rgV (li := [(7, _)]) rfl (w_free rfl) ⟨g_fr (by kernel_rfl) rfl, trivial⟩ (fun w hw => rn_loadA (vs := [_, _, _, _, _, _]) Tryz.isAgg33 Tryz.sizeOf33 rfl (CellsAt.agree (below_agree hw 0) (Nat.zero_le _) (CellsAt.own (j := 0) (m := 6) (hS.at_ 4 rfl) rfl))) (at_top rfl)) ?_
            refine bl_cons 6 rfl (isV (.bool (eqW (max dw dv) x y))) (stab_isV _) (rg_call [isV _, isV _] rfl goes_22 (w_free rfl) ⟨p_tmp (g_dep 3 (by kernel_rfl) (at_dep rfl rfl rfl)), p_tmp (g_dep 4 (by kernel_rfl) (at_dep rfl rfl rfl)), trivial⟩ (fun vs w' hb hh => by have e := holds_isV (us := [_, _]) hh; subst e; exact (sameWR_is (max dw dv) 4 x y _ (WIn.below (hS.below.trans (hb.mono hS.below.size)) hxm) (WIn.below (hS.below.trans (hb.mono hS.below.size)) hym) hx4 hy4).mono fun e w2 h => ⟨_, h.1, rfl, h.2⟩) (at_top rfl)) ?_
            refine bl_cons 7 rfl (isV (.bool true)) (stab_isV _) (rgVe (li := [(118, _), (121, _)]) rfl (w_free rfl) ⟨g_dep 2 (by kernel_rfl) (at_dep rfl rfl rfl), g_dep 5 (by kernel_rfl) (at_dep rfl rfl rfl), trivial⟩ (fun w hw => rn_eqlB Tryz.underlying4 rfl rfl) (by simp) (at_top rfl)) ?_
            refine bl_cons 8 rfl (isV _) (stab_isV _) (rgV (li := [(122, _)]) rfl (w_free rfl) ⟨g_dep 6 (by kernel_rfl) (at_dep rfl rfl rfl), trivial⟩ (fun w hw => rn_move rfl) (at_top rfl)) ?_
            refine bl_cons 9 rfl (isV _) (stab_isV _) (rgV (li := [(5, _)]) rfl (w_yes 123 rfl (by kernel_rfl) (by kernel_rfl) (at_dep rfl rfl rfl)) ⟨g_fr (by kernel_rfl) rfl, trivial⟩ (fun w hw => rn_loadA (vs := [_, _, _, _, _, _]) Tryz.isAgg33 Tryz.sizeOf33 rfl (CellsAt.agree (below_agree hw 0) (Nat.zero_le _) (CellsAt.own (j := 0) (m := 6) (hS.at_ 6 rfl) rfl))) (at_top rfl)) ?_
            refine bl_cons 10 rfl (isV _) (stab_isV _) (rgV (li := [(5, _)]) rfl (w_yes 123 rfl (by kernel_rfl) (by kernel_rfl) (at_dep rfl rfl rfl)) ⟨g_fr (by kernel_rfl) rfl, trivial⟩ (fun w hw => rn_loadA (vs := [_, _, _, _, _, _]) Tryz.isAgg33 Tryz.sizeOf33 rfl (CellsAt.agree (below_agree hw 0) (Nat.zero_le _) (CellsAt.own (j := 0) (m := 6) (hS.at_ 6 rfl) rfl))) (at_top rfl)) ?_
            refine bl_cons 11 rfl (isV (.bool true)) (stab_isV _) (rg_call [isV _, isV _] rfl goes_23 (w_yes 123 rfl (by kernel_rfl) (by kernel_rfl) (at_dep rfl rfl rfl)) ⟨p_tmp (g_dep 8 (by kernel_rfl) (at_dep rfl rfl rfl)), p_tmp (g_dep 9 (by kernel_rfl) (at_dep rfl rfl rfl)), trivial⟩ (fun vs w' hb hh => by have e := holds_isV (us := [_, _]) hh; subst e; exact (sameWA_is dw 4 x x _ (WIn.below (hS.below.trans (hb.mono hS.below.size)) hx) (WIn.below (hS.below.trans (hb.mono hS.below.size)) hx) hx4 hx4).mono fun e w2 h => ⟨_, h.1.trans (by rw [eqW_self hx]), rfl, h.2⟩) (at_top rfl)) ?_
            refine bl_cons 12 rfl (isV _) (stab_isV _) (rgV (li := [(123, _), (126, _)]) rfl (w_free rfl) ⟨g_dep 7 (by kernel_rfl) (at_dep rfl rfl rfl), g_dep 10 (by kernel_rfl) (at_dep rfl rfl rfl), trivial⟩ (fun w hw => rn_pickT rfl rfl) (at_top rfl)) ?_
            refine bl_cons 13 rfl (isV _) (stab_isV _) (rgV (li := [(127, _)]) rfl (w_free rfl) ⟨g_dep 11 (by kernel_rfl) (at_dep rfl rfl rfl), trivial⟩ (fun w hw => rn_move rfl) (at_top rfl)) ?_
            refine bl_cons 14 rfl (isV _) (stab_isV _) (rgV (li := [(4, _)]) rfl (w_yes 128 rfl (by kernel_rfl) (by kernel_rfl) (at_dep rfl rfl rfl)) ⟨g_fr (by kernel_rfl) rfl, trivial⟩ (fun w hw => rn_loadA (vs := [_, _, _]) Tryz.isAgg25 Tryz.sizeOf25 rfl (CellsAt.agree (below_agree hw 0) (Nat.zero_le _) (CellsAt.own (j := 0) (m := 3) (hS.at_ 7 rfl) rfl))) (at_top rfl)) ?_
            refine bl_cons 15 rfl (isV _) (stab_isV _) (rgV (li := [(6, _)]) rfl (w_yes 128 rfl (by kernel_rfl) (by kernel_rfl) (at_dep rfl rfl rfl)) ⟨g_fr (by kernel_rfl) rfl, trivial⟩ (fun w hw => rn_loadA (vs := [_, _, _]) Tryz.isAgg25 Tryz.sizeOf25 rfl (CellsAt.agree (below_agree hw 0) (Nat.zero_le _) (CellsAt.own (j := 0) (m := 3) (hS.at_ 5 rfl) rfl))) (at_top rfl)) ?_
            refine bl_cons 16 rfl (isV (.bool (eqS (max ds dt) s t))) (stab_isV _) (rg_call [isV _, isV _] rfl goes_24 (w_yes 128 rfl (by kernel_rfl) (by kernel_rfl) (at_dep rfl rfl rfl)) ⟨p_tmp (g_dep 13 (by kernel_rfl) (at_dep rfl rfl rfl)), p_tmp (g_dep 14 (by kernel_rfl) (at_dep rfl rfl rfl)), trivial⟩ (fun vs w' hb hh => by have e := holds_isV (us := [_, _]) hh; subst e; exact (sameSpaceA_is (max ds dt) 4 s t _ (SIn.below (hS.below.trans (hb.mono hS.below.size)) hsm) (SIn.below (hS.below.trans (hb.mono hS.below.size)) htm) hs4).mono fun e w2 h => ⟨_, h.1, rfl, h.2⟩) (at_top rfl)) ?_
            refine bl_cons 17 rfl (isV _) (stab_isV _) (rgV (li := [(4, _)]) rfl (w_yes 128 rfl (by kernel_rfl) (by kernel_rfl) (at_dep rfl rfl rfl)) ⟨g_fr (by kernel_rfl) rfl, trivial⟩ (fun w hw => rn_loadA (vs := [_, _, _]) Tryz.isAgg25 Tryz.sizeOf25 rfl (CellsAt.agree (below_agree hw 0) (Nat.zero_le _) (CellsAt.own (j := 0) (m := 3) (hS.at_ 7 rfl) rfl))) (at_top rfl)) ?_
            refine bl_cons 18 rfl (isV _) (stab_isV _) (rgV (li := [(6, _)]) rfl (w_yes 128 rfl (by kernel_rfl) (by kernel_rfl) (at_dep rfl rfl rfl)) ⟨g_fr (by kernel_rfl) rfl, trivial⟩ (fun w hw => rn_loadA (vs := [_, _, _]) Tryz.isAgg25 Tryz.sizeOf25 rfl (CellsAt.agree (below_agree hw 0) (Nat.zero_le _) (CellsAt.own (j := 0) (m := 3) (hS.at_ 5 rfl) rfl))) (at_top rfl)) ?_
            refine bl_cons 19 rfl (isV (.bool (eqS (max ds dt) s t))) (stab_isV _) (rg_call [isV _, isV _] rfl goes_25 (w_yes 128 rfl (by kernel_rfl) (by kernel_rfl) (at_dep rfl rfl rfl)) ⟨p_tmp (g_dep 16 (by kernel_rfl) (at_dep rfl rfl rfl)), p_tmp (g_dep 17 (by kernel_rfl) (at_dep rfl rfl rfl)), trivial⟩ (fun vs w' hb hh => by have e := holds_isV (us := [_, _]) hh; subst e; exact (sameSpaceR_is (max ds dt) 4 s t _ (SIn.below (hS.below.trans (hb.mono hS.below.size)) hsm) (SIn.below (hS.below.trans (hb.mono hS.below.size)) htm) hs4).mono fun e w2 h => ⟨_, h.1, rfl, h.2⟩) (at_top rfl)) ?_
            refine bl_cons 20 rfl (isV (.bool true)) (stab_isV _) (rgVe (li := [(131, _), (134, _)]) rfl (w_yes 128 rfl (by kernel_rfl) (by kernel_rfl) (at_dep rfl rfl rfl)) ⟨g_dep 15 (by kernel_rfl) (at_dep rfl rfl rfl), g_dep 18 (by kernel_rfl) (at_dep rfl rfl rfl), trivial⟩ (fun w hw => rn_eqlB Tryz.underlying4 rfl rfl) (by simp) (at_top rfl)) ?_
            refine bl_cons 21 rfl (isV _) (stab_isV _) (rgV (li := [(128, _), (135, _)]) rfl (w_free rfl) ⟨g_dep 12 (by kernel_rfl) (at_dep rfl rfl rfl), g_dep 19 (by kernel_rfl) (at_dep rfl rfl rfl), trivial⟩ (fun w hw => rn_pickT rfl rfl) (at_top rfl)) ?_
            refine bl_cons 22 rfl (isV _) (stab_isV _) (rgV (li := [(136, _)]) rfl (w_free rfl) ⟨g_dep 20 (by kernel_rfl) (at_dep rfl rfl rfl), trivial⟩ (fun w hw => rn_move rfl) (at_top rfl)) ?_
            refine bl_cons 23 rfl (isV _) (stab_isV _) (rgV (li := [(4, _)]) rfl (w_yes 137 rfl (by kernel_rfl) (by kernel_rfl) (at_dep rfl rfl rfl)) ⟨g_fr (by kernel_rfl) rfl, trivial⟩ (fun w hw => rn_loadA (vs := [_, _, _]) Tryz.isAgg25 Tryz.sizeOf25 rfl (CellsAt.agree (below_agree hw 0) (Nat.zero_le _) (CellsAt.own (j := 0) (m := 3) (hS.at_ 7 rfl) rfl))) (at_top rfl)) ?_
            refine bl_cons 24 rfl (isV _) (stab_isV _) (rgV (li := [(4, _)]) rfl (w_yes 137 rfl (by kernel_rfl) (by kernel_rfl) (at_dep rfl rfl rfl)) ⟨g_fr (by kernel_rfl) rfl, trivial⟩ (fun w hw => rn_loadA (vs := [_, _, _]) Tryz.isAgg25 Tryz.sizeOf25 rfl (CellsAt.agree (below_agree hw 0) (Nat.zero_le _) (CellsAt.own (j := 0) (m := 3) (hS.at_ 7 rfl) rfl))) (at_top rfl)) ?_
            refine bl_cons 25 rfl (isV (.bool true)) (stab_isV _) (rg_call [isV _, isV _] rfl goes_24 (w_yes 137 rfl (by kernel_rfl) (by kernel_rfl) (at_dep rfl rfl rfl)) ⟨p_tmp (g_dep 22 (by kernel_rfl) (at_dep rfl rfl rfl)), p_tmp (g_dep 23 (by kernel_rfl) (at_dep rfl rfl rfl)), trivial⟩ (fun vs w' hb hh => by have e := holds_isV (us := [_, _]) hh; subst e; exact (sameSpaceA_is ds 4 s s _ (SIn.below (hS.below.trans (hb.mono hS.below.size)) hs) (SIn.below (hS.below.trans (hb.mono hS.below.size)) hs) hs4).mono fun e w2 h => ⟨_, h.1.trans (by rw [eqS_self hs]), rfl, h.2⟩) (at_top rfl)) ?_
            refine bl_cons 26 rfl (isV _) (stab_isV _) (rgV (li := [(137, _), (140, _)]) rfl (w_free rfl) ⟨g_dep 21 (by kernel_rfl) (at_dep rfl rfl rfl), g_dep 24 (by kernel_rfl) (at_dep rfl rfl rfl), trivial⟩ (fun w hw => rn_pickT rfl rfl) (at_top rfl)) ?_
            refine bl_cons 27 rfl (isV _) (stab_isV _) (rgV (li := [(141, _)]) rfl (w_free rfl) ⟨g_dep 25 (by kernel_rfl) (at_dep rfl rfl rfl), trivial⟩ (fun w hw => rn_move rfl) (at_top rfl)) ?_
            refine bl_cons 28 rfl (isV (.bool true)) (stab_isV _) (rg_call [] rfl goes_11 (w_yes 142 rfl (by kernel_rfl) (by kernel_rfl) (at_dep rfl rfl rfl)) trivial (fun vs w' hb hh => by have e := holds_isV (us := []) hh; subst e; exact (aliveW_is _ (ht.below (hS.below.trans (hb.mono hS.below.size)))).mono fun e w2 h => ⟨.bool true, h.1, rfl, h.2⟩) (at_top rfl)) ?_
            refine bl_cons 29 rfl (isV _) (stab_isV _) (rgV (li := [(142, _), (143, _)]) rfl (w_free rfl) ⟨g_dep 26 (by kernel_rfl) (at_dep rfl rfl rfl), g_dep 27 (by kernel_rfl) (at_dep rfl rfl rfl), trivial⟩ (fun w hw => rn_pickT rfl rfl) (at_top rfl)) ?_
            refine bl_cons 30 rfl (isV _) (stab_isV _) (rgV (li := [(144, _)]) rfl (w_free rfl) ⟨g_dep 28 (by kernel_rfl) (at_dep rfl rfl rfl), trivial⟩ (fun w hw => rn_assign rfl) (at_top rfl)) ?_
            refine bl_nil ?_
            intro W28 hbR hS'
            clear hS; have hS := hS'; clear hS'
            refine fin_v ?_
            refine fin_v ?_
            refine fin_v ?_
            refine fin_v ?_
            refine fin_v ?_
            refine fin_v ?_
            refine fin_v ?_
            refine fin_v ?_
            refine fin_v ?_
            refine fin_v ?_
            refine fin_v ?_
            refine fin_v ?_
            refine fin_v ?_
            refine fin_v ?_
            refine fin_v ?_
            refine fin_v ?_
            refine fin_v ?_
            refine fin_v ?_
            refine fin_v ?_
            refine fin_v ?_
            refine fin_v ?_
            refine fin_v ?_
            refine fin_v ?_
            refine fin_v ?_
            refine fin_v ?_
            refine fin_v ?_
            refine fin_v ?_
            refine fin_v ?_
            refine fin_v ?_
            refine fin_v ?_
            refine fin_nil ?_
            refine XF.thenN ?_
            refine retF ?_
            refine XF.res (res1 Tryz.results3 rfl) ?_
            exact ⟨rfl, hS.below⟩
          · skip
            refine regF ?_
            refine op_loadA (vs := [_, _, _]) Tryz.isAgg25 Tryz.sizeOf25 rfl (CellsAt.own (j := 0) (m := 3) (hS.at_ 3 rfl) rfl) rfl ?_
            refine op_call (vs := [_]) hS goes_12 rfl (OneW_bad ds s _ (SIn.below hS.below hs) hse) rfl ?_
            rintro e W29 ⟨rfl, hb⟩
            refine ⟨_, rfl, hb, fun hS' => ?_⟩
            clear hS; have hS := hS'; clear hS' hb
            refine op_move rfl rfl ?_
            refine op_extract rfl rfl rfl ?_
            refine op_extract rfl rfl rfl ?_
            refine op_alloc (cs := [_, _, _, _, _, _]) hS Tryz.zeroValue33 rfl rfl ?_
            clear hS; intro B30 W30 hS
            refine op_storeA (i := 0) (vs := [_, _, _, _, _, _]) (cs' := [_, _, _, _, _, _]) (O' := [_, _, _, _, _]) hS Tryz.sizeOf33 rfl rfl rfl rfl rfl rfl rfl ?_
            clear hS; intro W31 hS
            refine op_assign rfl rfl ?_
            refine endF ?_
            refine XF.thenN ?_
            refine seqF ?_
            refine regF ?_
            refine op_loadA (vs := [_, _, _]) Tryz.isAgg25 Tryz.sizeOf25 rfl (CellsAt.own (j := 0) (m := 3) (hS.at_ 4 rfl) rfl) rfl ?_
            refine op_call (vs := [_]) hS goes_13 rfl (OneR_bad ds s _ (SIn.below hS.below hs) hse) rfl ?_
            rintro e W32 ⟨rfl, hb⟩
            refine ⟨_, rfl, hb, fun hS' => ?_⟩
            clear hS; have hS := hS'; clear hS' hb
            refine op_move rfl rfl ?_
            refine op_extract rfl rfl rfl ?_
            refine op_extract rfl rfl rfl ?_
            refine op_alloc (cs := [_, _, _, _, _, _]) hS Tryz.zeroValue33 rfl rfl ?_
            clear hS; intro B33 W33 hS
            refine op_storeA (i := 0) (vs := [_, _, _, _, _, _]) (cs' := [_, _, _, _, _, _]) (O' := [_, _, _, _, _, _]) hS Tryz.sizeOf33 rfl rfl rfl rfl rfl rfl rfl ?_
            clear hS; intro W34 hS
            refine op_assign rfl rfl ?_
            refine endF ?_
            refine XF.thenN ?_
            refine seqF ?_
            refine regF ?_
            refine op_loadA (vs := [_, _, _]) Tryz.isAgg25 Tryz.sizeOf25 rfl (CellsAt.own (j := 0) (m := 3) (hS.at_ 5 rfl) rfl) rfl ?_
            refine op_call (vs := [_]) hS goes_14 rfl (ZeroW_bad ds s _ (SIn.below hS.below hs) hse) rfl ?_
            rintro e W35 ⟨rfl, hb⟩
            refine ⟨_, rfl, hb, fun hS' => ?_⟩
            clear hS; have hS := hS'; clear hS' hb
            refine op_move rfl rfl ?_
            refine op_extract rfl rfl rfl ?_
            refine op_extract rfl rfl rfl ?_
            refine op_alloc (cs := [_, _, _, _, _, _]) hS Tryz.zeroValue33 rfl rfl ?_
            clear hS; intro B36 W36 hS
            refine op_storeA (i := 0) (vs := [_, _, _, _, _, _]) (cs' := [_, _, _, _, _, _]) (O' := [_, _, _, _, _, _, _]) hS Tryz.sizeOf33 rfl rfl rfl rfl rfl rfl rfl ?_
            clear hS; intro W37 hS
            refine op_assign rfl rfl ?_
            refine endF ?_
            refine XF.thenN ?_
            refine seqF ?_
            refine regF ?_
            refine op_loadA (vs := [_, _, _]) Tryz.isAgg25 Tryz.sizeOf25 rfl (CellsAt.own (j := 0) (m := 3) (hS.at_ 6 rfl) rfl) rfl ?_
            refine op_call (vs := [_]) hS goes_15 rfl (ZeroR_bad ds s _ (SIn.below hS.below hs) hse) rfl ?_
            rintro e W38 ⟨rfl, hb⟩
            refine ⟨_, rfl, hb, fun hS' => ?_⟩
            clear hS; have hS := hS'; clear hS' hb
            refine op_move rfl rfl ?_
            refine op_extract rfl rfl rfl ?_
            refine op_extract rfl rfl rfl ?_
            refine op_alloc (cs := [_, _, _, _, _, _]) hS Tryz.zeroValue33 rfl rfl ?_
            clear hS; intro B39 W39 hS
            refine op_storeA (i := 0) (vs := [_, _, _, _, _, _]) (cs' := [_, _, _, _, _, _]) (O' := [_, _, _, _, _, _, _, _]) hS Tryz.sizeOf33 rfl rfl rfl rfl rfl rfl rfl ?_
            clear hS; intro W40 hS
            refine op_assign rfl rfl ?_
            refine endF ?_
            refine XF.thenN ?_
            refine seqF ?_
            refine regF ?_
            refine op_loadA (vs := [_, _, _]) Tryz.isAgg25 Tryz.sizeOf25 rfl (CellsAt.own (j := 0) (m := 3) (hS.at_ 7 rfl) rfl) rfl ?_
            refine op_call (vs := [_]) hS goes_16 rfl (HeightW_bad ds s _ (SIn.below hS.below hs) hse) rfl ?_
            rintro e W41 ⟨rfl, hb⟩
            refine ⟨_, rfl, hb, fun hS' => ?_⟩
            clear hS; have hS := hS'; clear hS' hb
            refine op_move rfl rfl ?_
            refine op_extract rfl rfl rfl ?_
            refine op_extract rfl rfl rfl ?_
            refine op_assign rfl rfl ?_
            refine op_assign rfl rfl ?_
            refine endF ?_
            refine XF.thenN ?_
            refine seqF ?_
            refine regF ?_
            refine op_loadA (vs := [_, _, _]) Tryz.isAgg25 Tryz.sizeOf25 rfl (CellsAt.own (j := 0) (m := 3) (hS.at_ 7 rfl) rfl) rfl ?_
            refine op_call (vs := [_]) hS goes_17 rfl (HeightR_bad ds s _ (SIn.below hS.below hs) hse) rfl ?_
            rintro e W42 ⟨rfl, hb⟩
            refine ⟨_, rfl, hb, fun hS' => ?_⟩
            clear hS; have hS := hS'; clear hS' hb
            refine op_move rfl rfl ?_
            refine op_extract rfl rfl rfl ?_
            refine op_extract rfl rfl rfl ?_
            refine op_assign rfl rfl ?_
            refine op_assign rfl rfl ?_
            refine endF ?_
            refine XF.thenN ?_
            refine seqF ?_
            refine seqF ?_
            refine regB (m := 46) followsM hS (by kernel_rfl) (by kernel_rfl) rfl ?_
            refine bl_cons 1 rfl (isV _) (stab_isV _) (rgV (li := [(4, _)]) rfl (w_free rfl) ⟨g_fr (by kernel_rfl) rfl, trivial⟩ (fun w hw => rn_loadA (vs := [_, _, _]) Tryz.isAgg25 Tryz.sizeOf25 rfl (CellsAt.agree (below_agree hw 0) (Nat.zero_le _) (CellsAt.own (j := 0) (m := 3) (hS.at_ 7 rfl) rfl))) (at_top rfl)) ?_
            refine bl_cons 2 rfl (isV (.int .i64 (spaceE s))) (stab_isV _) (rg_call [isV _] rfl goes_18 (w_free rfl) ⟨p_tmp (g_dep 0 (by kernel_rfl) (at_dep rfl rfl rfl)), trivial⟩ (fun vs w' hb hh => by have e := holds_isV (us := [_]) hh; subst e; exact (spaceA_is ds s _ _ (SIn.below (hS.below.trans (hb.mono hS.below.size)) hs) rfl).mono fun e w2 h => ⟨_, h.1, rfl, h.2⟩) (at_top rfl)) ?_
            refine bl_cons 3 rfl (isV _) (stab_isV _) (rgV (li := [(4, _)]) rfl (w_free rfl) ⟨g_fr (by kernel_rfl) rfl, trivial⟩ (fun w hw => rn_loadA (vs := [_, _, _]) Tryz.isAgg25 Tryz.sizeOf25 rfl (CellsAt.agree (below_agree hw 0) (Nat.zero_le _) (CellsAt.own (j := 0) (m := 3) (hS.at_ 7 rfl) rfl))) (at_top rfl)) ?_
            refine bl_cons 4 rfl (isV (.int .i64 (spaceE s))) (stab_isV _) (rg_call [isV _] rfl goes_19 (w_free rfl) ⟨p_tmp (g_dep 2 (by kernel_rfl) (at_dep rfl rfl rfl)), trivial⟩ (fun vs w' hb hh => by have e := holds_isV (us := [_]) hh; subst e; exact (spaceR_is ds s _ _ (SIn.below (hS.below.trans (hb.mono hS.below.size)) hs) rfl).mono fun e w2 h => ⟨_, h.1, rfl, h.2⟩) (at_top rfl)) ?_
            refine bl_cons 5 rfl (isV (.bool false)) (stab_isV _) (rgVe (li := [(71, _), (73, _)]) rfl (w_free rfl) ⟨g_dep 1 (by kernel_rfl) (at_dep rfl rfl rfl), g_dep 3 (by kernel_rfl) (at_dep rfl rfl rfl), trivial⟩ (fun w hw => rn_neq rfl rfl) (by simp) (at_top rfl)) ?_
            refine bl_cons 6 rfl (isV _) (stab_isV _) (rgV (li := [(74, _)]) rfl (w_free rfl) ⟨g_dep 4 (by kernel_rfl) (at_dep rfl rfl rfl), trivial⟩ (fun w hw => rn_move rfl) (at_top rfl)) ?_
            refine bl_cons 7 rfl (isV _) (stab_isV _) (rgV (li := [(4, _)]) rfl (w_yes 75 rfl (by kernel_rfl) (by kernel_rfl) (at_dep rfl rfl rfl)) ⟨g_fr (by kernel_rfl) rfl, trivial⟩ (fun w hw => rn_loadA (vs := [_, _, _]) Tryz.isAgg25 Tryz.sizeOf25 rfl (CellsAt.agree (below_agree hw 0) (Nat.zero_le _) (CellsAt.own (j := 0) (m := 3) (hS.at_ 7 rfl) rfl))) (at_top rfl)) ?_
            refine bl_cons 8 rfl (isV _) (stab_isV _) (rgV (li := [(5, _)]) rfl (w_yes 75 rfl (by kernel_rfl) (by kernel_rfl) (at_dep rfl rfl rfl)) ⟨g_fr (by kernel_rfl) rfl, trivial⟩ (fun w hw => rn_loadA (vs := [_, _, _, _, _, _]) Tryz.isAgg33 Tryz.sizeOf33 rfl (CellsAt.agree (below_agree hw 0) (Nat.zero_le _) (CellsAt.own (j := 0) (m := 6) (hS.at_ 6 rfl) rfl))) (at_top rfl)) ?_
            refine bl_cons 9 rfl (isV (.int .i64 (chkW s x))) (stab_isV _) (rg_call [isV _, isV _] rfl goes_20 (w_yes 75 rfl (by kernel_rfl) (by kernel_rfl) (at_dep rfl rfl rfl)) ⟨p_tmp (g_dep 6 (by kernel_rfl) (at_dep rfl rfl rfl)), p_tmp (g_dep 7 (by kernel_rfl) (at_dep rfl rfl rfl)), trivial⟩ (fun vs w' hb hh => by have e := holds_isV (us := [_, _]) hh; subst e; exact (checkA_gen ds dw s x _ (SIn.below (hS.below.trans (hb.mono hS.below.size)) hs) (WIn.below (hS.below.trans (hb.mono hS.below.size)) hx) hx1 hx2).mono fun e w2 h => ⟨_, h.1, rfl, h.2⟩) (at_top rfl)) ?_
            refine bl_cons 10 rfl (isV _) (stab_isV _) (rgV (li := [(4, _)]) rfl (w_yes 75 rfl (by kernel_rfl) (by kernel_rfl) (at_dep rfl rfl rfl)) ⟨g_fr (by kernel_rfl) rfl, trivial⟩ (fun w hw => rn_loadA (vs := [_, _, _]) Tryz.isAgg25 Tryz.sizeOf25 rfl (CellsAt.agree (below_agree hw 0) (Nat.zero_le _) (CellsAt.own (j := 0) (m := 3) (hS.at_ 7 rfl) rfl))) (at_top rfl)) ?_
            refine bl_cons 11 rfl (isV _) (stab_isV _) (rgV (li := [(5, _)]) rfl (w_yes 75 rfl (by kernel_rfl) (by kernel_rfl) (at_dep rfl rfl rfl)) ⟨g_fr (by kernel_rfl) rfl, trivial⟩ (fun w hw => rn_loadA (vs := [_, _, _, _, _, _]) Tryz.isAgg33 Tryz.sizeOf33 rfl (CellsAt.agree (below_agree hw 0) (Nat.zero_le _) (CellsAt.own (j := 0) (m := 6) (hS.at_ 6 rfl) rfl))) (at_top rfl)) ?_
            refine bl_cons 12 rfl (isV (.int .i64 (chkW s x))) (stab_isV _) (rg_call [isV _, isV _] rfl goes_21 (w_yes 75 rfl (by kernel_rfl) (by kernel_rfl) (at_dep rfl rfl rfl)) ⟨p_tmp (g_dep 9 (by kernel_rfl) (at_dep rfl rfl rfl)), p_tmp (g_dep 10 (by kernel_rfl) (at_dep rfl rfl rfl)), trivial⟩ (fun vs w' hb hh => by have e := holds_isV (us := [_, _]) hh; subst e; exact (checkR_gen ds dw s x _ (SIn.below (hS.below.trans (hb.mono hS.below.size)) hs) (WIn.below (hS.below.trans (hb.mono hS.below.size)) hx) hx1 hx2).mono fun e w2 h => ⟨_, h.1, rfl, h.2⟩) (at_top rfl)) ?_
            refine bl_cons 13 rfl (isV (.bool false)) (stab_isV _) (rgVe (li := [(78, _), (81, _)]) rfl (w_yes 75 rfl (by kernel_rfl) (by kernel_rfl) (at_dep rfl rfl rfl)) ⟨g_dep 8 (by kernel_rfl) (at_dep rfl rfl rfl), g_dep 11 (by kernel_rfl) (at_dep rfl rfl rfl), trivial⟩ (fun w hw => rn_neq rfl rfl) (by simp) (at_top rfl)) ?_
            refine bl_cons 14 rfl (isV _) (stab_isV _) (rgV (li := [(75, _), (82, _)]) rfl (w_free rfl) ⟨g_dep 5 (by kernel_rfl) (at_dep rfl rfl rfl), g_dep 12 (by kernel_rfl) (at_dep rfl rfl rfl), trivial⟩ (fun w hw => rn_pickF rfl rfl) (at_top rfl)) ?_
            refine bl_cons 15 rfl (isV _) (stab_isV _) (rgV (li := [(83, _)]) rfl (w_free rfl) ⟨g_dep 13 (by kernel_rfl) (at_dep rfl rfl rfl), trivial⟩ (fun w hw => rn_move rfl) (at_top rfl)) ?_
            refine bl_cons 16 rfl (isV _) (stab_isV _) (rgV (li := [(9, _)]) rfl (w_yes 84 rfl (by kernel_rfl) (by kernel_rfl) (at_dep rfl rfl rfl)) ⟨g_fr (by kernel_rfl) rfl, trivial⟩ (fun w hw => rn_loadA (vs := [_, _, _, _, _, _]) Tryz.isAgg33 Tryz.sizeOf33 rfl (CellsAt.agree (below_agree hw 0) (Nat.zero_le _) (CellsAt.own (j := 0) (m := 6) (hS.at_ 3 rfl) rfl))) (at_top rfl)) ?_
            refine bl_cons 17 rfl (isV _) (stab_isV _) (rgV (li := [(11, _)]) rfl (w_yes 84 rfl (by kernel_rfl) (by kernel_rfl) (at_dep rfl rfl rfl)) ⟨g_fr (by kernel_rfl) rfl, trivial⟩ (fun w hw => rn_loadA (vs := [_, _, _, _, _, _]) Tryz.isAgg33 Tryz.sizeOf33 rfl (CellsAt.agree (below_agree hw 0) (Nat.zero_le _) (CellsAt.own (j := 0) (m := 6) (hS.at_ 2 rfl) rfl))) (at_top rfl)) ?_
            refine bl_cons 18 rfl (isV (.bool true)) (stab_isV _) (rg_call [isV _, isV _] rfl goes_22 (w_yes 84 rfl (by kernel_rfl) (by kernel_rfl) (at_dep rfl rfl rfl)) ⟨p_tmp (g_dep 15 (by kernel_rfl) (at_dep rfl rfl rfl)), p_tmp (g_dep 16 (by kernel_rfl) (at_dep rfl rfl rfl)), trivial⟩ (fun vs w' hb hh => by have e := holds_isV (us := [_, _]) hh; subst e; exact (sameZ _).mono fun e w2 h => ⟨_, h.1, rfl, h.2⟩) (at_top rfl)) ?_
            refine bl_cons 19 rfl (isV (.bool false)) (stab_isV _) (rgVe (li := [(87, _)]) rfl (w_yes 84 rfl (by kernel_rfl) (by kernel_rfl) (at_dep rfl rfl rfl)) ⟨g_dep 17 (by kernel_rfl) (at_dep rfl rfl rfl), trivial⟩ (fun w hw => rn_not rfl) (by simp) (at_top rfl)) ?_
            refine bl_cons 20 rfl (isV _) (stab_isV _) (rgV (li := [(84, _), (88, _)]) rfl (w_free rfl) ⟨g_dep 14 (by kernel_rfl) (at_dep rfl rfl rfl), g_dep 18 (by kernel_rfl) (at_dep rfl rfl rfl), trivial⟩ (fun w hw => rn_pickF rfl rfl) (at_top rfl)) ?_
            refine bl_cons 21 rfl (isV _) (stab_isV _) (rgV (li := [(89, _)]) rfl (w_free rfl) ⟨g_dep 19 (by kernel_rfl) (at_dep rfl rfl rfl), trivial⟩ (fun w hw => rn_move rfl) (at_top rfl)) ?_
            refine bl_cons 22 rfl (isV _) (stab_isV _) (rgV (li := [(10, _)]) rfl (w_yes 90 rfl (by kernel_rfl) (by kernel_rfl) (at_dep rfl rfl rfl)) ⟨g_fr (by kernel_rfl) rfl, trivial⟩ (fun w hw => rn_move rfl) (at_top rfl)) ?_
            refine bl_cons 23 rfl (isV _) (stab_isV _) (rgV (li := [(12, _)]) rfl (w_yes 90 rfl (by kernel_rfl) (by kernel_rfl) (at_dep rfl rfl rfl)) ⟨g_fr (by kernel_rfl) rfl, trivial⟩ (fun w hw => rn_move rfl) (at_top rfl)) ?_
            refine bl_cons 24 rfl (isV (.bool false)) (stab_isV _) (rgVe (li := [(91, _), (92, _)]) rfl (w_yes 90 rfl (by kernel_rfl) (by kernel_rfl) (at_dep rfl rfl rfl)) ⟨g_dep 21 (by kernel_rfl) (at_dep rfl rfl rfl), g_dep 22 (by kernel_rfl) (at_dep rfl rfl rfl), trivial⟩ (fun w hw => rn_neq rfl rfl) (by simp) (at_top rfl)) ?_
            refine bl_cons 25 rfl (isV _) (stab_isV _) (rgV (li := [(90, _), (93, _)]) rfl (w_free rfl) ⟨g_dep 20 (by kernel_rfl) (at_dep rfl rfl rfl), g_dep 23 (by kernel_rfl) (at_dep rfl rfl rfl), trivial⟩ (fun w hw => rn_pickF rfl rfl) (at_top rfl)) ?_
            refine bl_cons 26 rfl (isV _) (stab_isV _) (rgV (li := [(94, _)]) rfl (w_free rfl) ⟨g_dep 24 (by kernel_rfl) (at_dep rfl rfl rfl), trivial⟩ (fun w hw => rn_move rfl) (at_top rfl)) ?_
            refine bl_cons 27 rfl (isV _) (stab_isV _) (rgV (li := [(13, _)]) rfl (w_yes 95 rfl (by kernel_rfl) (by kernel_rfl) (at_dep rfl rfl rfl)) ⟨g_fr (by kernel_rfl) rfl, trivial⟩ (fun w hw => rn_loadA (vs := [_, _, _, _, _, _]) Tryz.isAgg33 Tryz.sizeOf33 rfl (CellsAt.agree (below_agree hw 0) (Nat.zero_le _) (CellsAt.own (j := 0) (m := 6) (hS.at_ 1 rfl) rfl))) (at_top rfl)) ?_
            refine bl_cons 28 rfl (isV _) (stab_isV _) (rgV (li := [(15, _)]) rfl (w_yes 95 rfl (by kernel_rfl) (by kernel_rfl) (at_dep rfl rfl rfl)) ⟨g_fr (by kernel_rfl) rfl, trivial⟩ (fun w hw => rn_loadA (vs := [_, _, _, _, _, _]) Tryz.isAgg33 Tryz.sizeOf33 rfl (CellsAt.agree (below_agree hw 0) (Nat.zero_le _) (CellsAt.own (j := 0) (m := 6) (hS.at_ 0 rfl) rfl))) (at_top rfl)) ?_
            refine bl_cons 29 rfl (isV (.bool true)) (stab_isV _) (rg_call [isV _, isV _] rfl goes_22 (w_yes 95 rfl (by kernel_rfl) (by kernel_rfl) (at_dep rfl rfl rfl)) ⟨p_tmp (g_dep 26 (by kernel_rfl) (at_dep rfl rfl rfl)), p_tmp (g_dep 27 (by kernel_rfl) (at_dep rfl rfl rfl)), trivial⟩ (fun vs w' hb hh => by have e := holds_isV (us := [_, _]) hh; subst e; exact (sameZ _).mono fun e w2 h => ⟨_, h.1, rfl, h.2⟩) (at_top rfl)) ?_
            refine bl_cons 30 rfl (isV (.bool false)) (stab_isV _) (rgVe (li := [(98, _)]) rfl (w_yes 95 rfl (by kernel_rfl) (by kernel_rfl) (at_dep rfl rfl rfl)) ⟨g_dep 28 (by kernel_rfl) (at_dep rfl rfl rfl), trivial⟩ (fun w hw => rn_not rfl) (by simp) (at_top rfl)) ?_
            refine bl_cons 31 rfl (isV _) (stab_isV _) (rgV (li := [(95, _), (99, _)]) rfl (w_free rfl) ⟨g_dep 25 (by kernel_rfl) (at_dep rfl rfl rfl), g_dep 29 (by kernel_rfl) (at_dep rfl rfl rfl), trivial⟩ (fun w hw => rn_pickF rfl rfl) (at_top rfl)) ?_
            refine bl_cons 32 rfl (isV _) (stab_isV _) (rgV (li := [(100, _)]) rfl (w_free rfl) ⟨g_dep 30 (by kernel_rfl) (at_dep rfl rfl rfl), trivial⟩ (fun w hw => rn_move rfl) (at_top rfl)) ?_
            refine bl_cons 33 rfl (isV _) (stab_isV _) (rgV (li := [(14, _)]) rfl (w_yes 101 rfl (by kernel_rfl) (by kernel_rfl) (at_dep rfl rfl rfl)) ⟨g_fr (by kernel_rfl) rfl, trivial⟩ (fun w hw => rn_move rfl) (at_top rfl)) ?_
            refine bl_cons 34 rfl (isV _) (stab_isV _) (rgV (li := [(16, _)]) rfl (w_yes 101 rfl (by kernel_rfl) (by kernel_rfl) (at_dep rfl rfl rfl)) ⟨g_fr (by kernel_rfl) rfl, trivial⟩ (fun w hw => rn_move rfl) (at_top rfl)) ?_
            refine bl_cons 35 rfl (isV (.bool false)) (stab_isV _) (rgVe (li := [(102, _), (103, _)]) rfl (w_yes 101 rfl (by kernel_rfl) (by kernel_rfl) (at_dep rfl rfl rfl)) ⟨g_dep 32 (by kernel_rfl) (at_dep rfl rfl rfl), g_dep 33 (by kernel_rfl) (at_dep rfl rfl rfl), trivial⟩ (fun w hw => rn_neq rfl rfl) (by simp) (at_top rfl)) ?_
            refine bl_cons 36 rfl (isV _) (stab_isV _) (rgV (li := [(101, _), (104, _)]) rfl (w_free rfl) ⟨g_dep 31 (by kernel_rfl) (at_dep rfl rfl rfl), g_dep 34 (by kernel_rfl) (at_dep rfl rfl rfl), trivial⟩ (fun w hw => rn_pickF rfl rfl) (at_top rfl)) ?_
            refine bl_cons 37 rfl (isV _) (stab_isV _) (rgV (li := [(105, _)]) rfl (w_free rfl) ⟨g_dep 35 (by kernel_rfl) (at_dep rfl rfl rfl), trivial⟩ (fun w hw => rn_move rfl) (at_top rfl)) ?_
            refine bl_cons 38 rfl (isV _) (stab_isV _) (rgV (li := [(17, _)]) rfl (w_yes 106 rfl (by kernel_rfl) (by kernel_rfl) (at_dep rfl rfl rfl)) ⟨g_fr (by kernel_rfl) rfl, trivial⟩ (fun w hw => rn_move rfl) (at_top rfl)) ?_
            refine bl_cons 39 rfl (isV _) (stab_isV _) (rgV (li := [(19, _)]) rfl (w_yes 106 rfl (by kernel_rfl) (by kernel_rfl) (at_dep rfl rfl rfl)) ⟨g_fr (by kernel_rfl) rfl, trivial⟩ (fun w hw => rn_move rfl) (at_top rfl)) ?_
            refine bl_cons 40 rfl (isV (.bool false)) (stab_isV _) (rgVe (li := [(107, _), (108, _)]) rfl (w_yes 106 rfl (by kernel_rfl) (by kernel_rfl) (at_dep rfl rfl rfl)) ⟨g_dep 37 (by kernel_rfl) (at_dep rfl rfl rfl), g_dep 38 (by kernel_rfl) (at_dep rfl rfl rfl), trivial⟩ (fun w hw => rn_neq rfl rfl) (by simp) (at_top rfl)) ?_
            refine bl_cons 41 rfl (isV _) (stab_isV _) (rgV (li := [(106, _), (109, _)]) rfl (w_free rfl) ⟨g_dep 36 (by kernel_rfl) (at_dep rfl rfl rfl), g_dep 39 (by kernel_rfl) (at_dep rfl rfl rfl), trivial⟩ (fun w hw => rn_pickF rfl rfl) (at_top rfl)) ?_
            refine bl_cons 42 rfl (isV _) (stab_isV _) (rgV (li := [(110, _)]) rfl (w_free rfl) ⟨g_dep 40 (by kernel_rfl) (at_dep rfl rfl rfl), trivial⟩ (fun w hw => rn_move rfl) (at_top rfl)) ?_
            refine bl_cons 43 rfl (isV _) (stab_isV _) (rgV (li := [(18, _)]) rfl (w_yes 111 rfl (by kernel_rfl) (by kernel_rfl) (at_dep rfl rfl rfl)) ⟨g_fr (by kernel_rfl) rfl, trivial⟩ (fun w hw => rn_move rfl) (at_top rfl)) ?_
            refine bl_cons 44 rfl (isV _) (stab_isV _) (rgV (li := [(20, _)]) rfl (w_yes 111 rfl (by kernel_rfl) (by kernel_rfl) (at_dep rfl rfl rfl)) ⟨g_fr (by kernel_rfl) rfl, trivial⟩ (fun w hw => rn_move rfl) (at_top rfl)) ?_
            refine bl_cons 45 rfl (isV (.bool false)) (stab_isV _) (rgVe (li := [(112, _), (113, _)]) rfl (w_yes 111 rfl (by kernel_rfl) (by kernel_rfl) (at_dep rfl rfl rfl)) ⟨g_dep 42 (by kernel_rfl) (at_dep rfl rfl rfl), g_dep 43 (by kernel_rfl) (at_dep rfl rfl rfl), trivial⟩ (fun w hw => rn_neq rfl rfl) (by simp) (at_top rfl)) ?_
            refine bl_cons 46 rfl (isV _) (stab_isV _) (rgV (li := [(111, _), (114, _)]) rfl (w_free rfl) ⟨g_dep 41 (by kernel_rfl) (at_dep rfl rfl rfl), g_dep 44 (by kernel_rfl) (at_dep rfl rfl rfl), trivial⟩ (fun w hw => rn_pickF rfl rfl) (at_top rfl)) ?_
            refine bl_nil ?_
            intro W43 hbR hS'
            clear hS; have hS := hS'; clear hS'
            refine fin_v ?_
            refine fin_v ?_
            refine fin_v ?_
            refine fin_v ?_
            refine fin_v ?_
            refine fin_v ?_
            refine fin_v ?_
            refine fin_v ?_
            refine fin_v ?_
            refine fin_v ?_
            refine fin_v ?_
            refine fin_v ?_
            refine fin_v ?_
            refine fin_v ?_
            refine fin_v ?_
            refine fin_v ?_
            refine fin_v ?_
            refine fin_v ?_
            refine fin_v ?_
            refine fin_v ?_
            refine fin_v ?_
            refine fin_v ?_
            refine fin_v ?_
            refine fin_v ?_
            refine fin_v ?_
            refine fin_v ?_
            refine fin_v ?_
            refine fin_v ?_
            refine fin_v ?_
            refine fin_v ?_
            refine fin_v ?_
            refine fin_v ?_
            refine fin_v ?_
            refine fin_v ?_
            refine fin_v ?_
            refine fin_v ?_
            refine fin_v ?_
            refine fin_v ?_
            refine fin_v ?_
            refine fin_v ?_
            refine fin_v ?_
            refine fin_v ?_
            refine fin_v ?_
            refine fin_v ?_
            refine fin_v ?_
            refine fin_v ?_
            refine fin_nil ?_
            refine XF.thenN ?_
            refine condN rfl ?_
            refine skipF ?_
            refine XF.thenN ?_
            refine seqF ?_
            refine regB (m := 30) followsM hS (by kernel_rfl) (by kernel_rfl) rfl ?_
            refine bl_cons 1 rfl (isV _) (stab_isV _) (rgV (li := [(5, _)]) rfl (w_free rfl) ⟨g_fr (by kernel_rfl) rfl, trivial⟩ (fun w hw => rn_loadA (vs := [_, _, _, _, _, _]) Tryz.isAgg33 Tryz.sizeOf33 rfl (CellsAt.agree (below_agree hw 0) (Nat.zero_le _) (CellsAt.own (j := 0) (m := 6) (hS.at_ 6 rfl) rfl))) (at_top rfl)) ?_
            refine bl_cons 2 rfl (isV _) (stab_isV _) (rgV (li := [(7, _)]) rfl (w_free rfl) ⟨g_fr (by kernel_rfl) rfl, trivial⟩ (fun w hw => rn_loadA (vs := [_, _, _, _, _, _]) Tryz.isAgg33 Tryz.sizeOf33 rfl (CellsAt.agree (below_agree hw 0) (Nat.zero_le _) (CellsAt.own (j := 0) (m := 6) (hS.at_ 4 rfl) rfl))) (at_top rfl)) ?_
            refine bl_cons 3 rfl (isV (.bool (eqW (max dw dv) x y))) (stab_isV _) (rg_call [isV _, isV _] rfl goes_23 (w_free rfl) ⟨p_tmp (g_dep 0 (by kernel_rfl) (at_dep rfl rfl rfl)), p_tmp (g_dep 1 (by kernel_rfl) (at_dep rfl rfl rfl)), trivial⟩ (fun vs w' hb hh => by have e := holds_isV (us := [_, _]) hh; subst e; exact (sameWA_is (max dw dv) 4 x y _ (WIn.below (hS.below.trans (hb.mono hS.below.size)) hxm) (WIn.below (hS.below.trans (hb.mono hS.below.size)) hym) hx4 hy4).mono fun e w2 h => ⟨_, h.1, rfl, h.2⟩) (at_top rfl)) ?_
            refine bl_cons 4 rfl (isV _) (stab_isV _) (rgV (li := [(5, _)]) rfl (w_free rfl) ⟨g_fr (by kernel_rfl) rfl, trivial⟩ (fun w hw => rn_loadA (vs := [_, _, _, _, _, _]) Tryz.isAgg33 Tryz.sizeOf33 rfl (CellsAt.agree (below_agree hw 0) (Nat.zero_le _) (CellsAt.own (j := 0) (m := 6) (hS.at_ 6 rfl) rfl))) (at_top rfl)) ?_
            refine bl_cons 5 rfl (isV _) (stab_isV _) (rgV (li := [(7, _)]) rfl (w_free rfl) ⟨g_fr (by kernel_rfl) rfl, trivial⟩ (fun w hw => rn_loadA (vs := [_, _, _, _, _, _]) Tryz.isAgg33 Tryz.sizeOf33 rfl (CellsAt.agree (below_agree hw 0) (Nat.zero_le _) (CellsAt.own (j := 0) (m := 6) (hS.at_ 4 rfl) rfl))) (at_top rfl)) ?_
            refine bl_cons 6 rfl (isV (.bool (eqW (max dw dv) x y))) (stab_isV _) (rg_call [isV _, isV _] rfl goes_22 (w_free rfl) ⟨p_tmp (g_dep 3 (by kernel_rfl) (at_dep rfl rfl rfl)), p_tmp (g_dep 4 (by kernel_rfl) (at_dep rfl rfl rfl)), trivial⟩ (fun vs w' hb hh => by have e := holds_isV (us := [_, _]) hh; subst e; exact (sameWR_is (max dw dv) 4 x y _ (WIn.below (hS.below.trans (hb.mono hS.below.size)) hxm) (WIn.below (hS.below.trans (hb.mono hS.below.size)) hym) hx4 hy4).mono fun e w2 h => ⟨_, h.1, rfl, h.2⟩) (at_top rfl)) ?_
            refine bl_cons 7 rfl (isV (.bool true)) (stab_isV _) (rgVe (li := [(118, _), (121, _)]) rfl (w_free rfl) ⟨g_dep 2 (by kernel_rfl) (at_dep rfl rfl rfl), g_dep 5 (by kernel_rfl) (at_dep rfl rfl rfl), trivial⟩ (fun w hw => rn_eqlB Tryz.underlying4 rfl rfl) (by simp) (at_top rfl)) ?_
            refine bl_cons 8 rfl (isV _) (stab_isV _) (rgV (li := [(122, _)]) rfl (w_free rfl) ⟨g_dep 6 (by kernel_rfl) (at_dep rfl rfl rfl), trivial⟩ (fun w hw => rn_move rfl) (at_top rfl)) ?_
            refine bl_cons 9 rfl (isV _) (stab_isV _) (rgV (li := [(5, _)]) rfl (w_yes 123 rfl (by kernel_rfl) (by kernel_rfl) (at_dep rfl rfl rfl)) ⟨g_fr (by kernel_rfl) rfl, trivial⟩ (fun w hw => rn_loadA (vs := [_, _, _, _, _, _]) Tryz.isAgg33 Tryz.sizeOf33 rfl (CellsAt.agree (below_agree hw 0) (Nat.zero_le _) (CellsAt.own (j := 0) (m := 6) (hS.at_ 6 rfl) rfl))) (at_top rfl)) ?_
            refine bl_cons 10 rfl (isV _) (stab_isV _) (rgV (li := [(5, _)]) rfl (w_yes 123 rfl (by kernel_rfl) (by kernel_rfl) (at_dep rfl rfl rfl)) ⟨g_fr (by kernel_rfl) rfl, trivial⟩ (fun w hw => rn_loadA (vs := [_, _, _, _, _, _]) Tryz.isAgg33 Tryz.sizeOf33 rfl (CellsAt.agree (below_agree hw 0) (Nat.zero_le _) (CellsAt.own (j := 0) (m := 6) (hS.at_ 6 rfl) rfl))) (at_top rfl)) ?_
            refine bl_cons 11 rfl (isV (.bool true)) (stab_isV _) (rg_call [isV _, isV _] rfl goes_23 (w_yes 123 rfl (by kernel_rfl) (by kernel_rfl) (at_dep rfl rfl rfl)) ⟨p_tmp (g_dep 8 (by kernel_rfl) (at_dep rfl rfl rfl)), p_tmp (g_dep 9 (by kernel_rfl) (at_dep rfl rfl rfl)), trivial⟩ (fun vs w' hb hh => by have e := holds_isV (us := [_, _]) hh; subst e; exact (sameWA_is dw 4 x x _ (WIn.below (hS.below.trans (hb.mono hS.below.size)) hx) (WIn.below (hS.below.trans (hb.mono hS.below.size)) hx) hx4 hx4).mono fun e w2 h => ⟨_, h.1.trans (by rw [eqW_self hx]), rfl, h.2⟩) (at_top rfl)) ?_
            refine bl_cons 12 rfl (isV _) (stab_isV _) (rgV (li := [(123, _), (126, _)]) rfl (w_free rfl) ⟨g_dep 7 (by kernel_rfl) (at_dep rfl rfl rfl), g_dep 10 (by kernel_rfl) (at_dep rfl rfl rfl), trivial⟩ (fun w hw => rn_pickT rfl rfl) (at_top rfl)) ?_
            refine bl_cons 13 rfl (isV _) (stab_isV _) (rgV (li := [(127, _)]) rfl (w_free rfl) ⟨g_dep 11 (by kernel_rfl) (at_dep rfl rfl rfl), trivial⟩ (fun w hw => rn_move rfl) (at_top rfl)) ?_
            refine bl_cons 14 rfl (isV _) (stab_isV _) (rgV (li := [(4, _)]) rfl (w_yes 128 rfl (by kernel_rfl) (by kernel_rfl) (at_dep rfl rfl rfl)) ⟨g_fr (by kernel_rfl) rfl, trivial⟩ (fun w hw => rn_loadA (vs := [_, _, _]) Tryz.isAgg25 Tryz.sizeOf25 rfl (CellsAt.agree (below_agree hw 0) (Nat.zero_le _) (CellsAt.own (j := 0) (m := 3) (hS.at_ 7 rfl) rfl))) (at_top rfl)) ?_
            refine bl_cons 15 rfl (isV _) (stab_isV _) (rgV (li := [(6, _)]) rfl (w_yes 128 rfl (by kernel_rfl) (by kernel_rfl) (at_dep rfl rfl rfl)) ⟨g_fr (by kernel_rfl) rfl, trivial⟩ (fun w hw => rn_loadA (vs := [_, _, _]) Tryz.isAgg25 Tryz.sizeOf25 rfl (CellsAt.agree (below_agree hw 0) (Nat.zero_le _) (CellsAt.own (j := 0) (m := 3) (hS.at_ 5 rfl) rfl))) (at_top rfl)) ?_
            refine bl_cons 16 rfl (isV (.bool (eqS (max ds dt) s t))) (stab_isV _) (rg_call [isV _, isV _] rfl goes_24 (w_yes 128 rfl (by kernel_rfl) (by kernel_rfl) (at_dep rfl rfl rfl)) ⟨p_tmp (g_dep 13 (by kernel_rfl) (at_dep rfl rfl rfl)), p_tmp (g_dep 14 (by kernel_rfl) (at_dep rfl rfl rfl)), trivial⟩ (fun vs w' hb hh => by have e := holds_isV (us := [_, _]) hh; subst e; exact (sameSpaceA_is (max ds dt) 4 s t _ (SIn.below (hS.below.trans (hb.mono hS.below.size)) hsm) (SIn.below (hS.below.trans (hb.mono hS.below.size)) htm) hs4).mono fun e w2 h => ⟨_, h.1, rfl, h.2⟩) (at_top rfl)) ?_
            refine bl_cons 17 rfl (isV _) (stab_isV _) (rgV (li := [(4, _)]) rfl (w_yes 128 rfl (by kernel_rfl) (by kernel_rfl) (at_dep rfl rfl rfl)) ⟨g_fr (by kernel_rfl) rfl, trivial⟩ (fun w hw => rn_loadA (vs := [_, _, _]) Tryz.isAgg25 Tryz.sizeOf25 rfl (CellsAt.agree (below_agree hw 0) (Nat.zero_le _) (CellsAt.own (j := 0) (m := 3) (hS.at_ 7 rfl) rfl))) (at_top rfl)) ?_
            refine bl_cons 18 rfl (isV _) (stab_isV _) (rgV (li := [(6, _)]) rfl (w_yes 128 rfl (by kernel_rfl) (by kernel_rfl) (at_dep rfl rfl rfl)) ⟨g_fr (by kernel_rfl) rfl, trivial⟩ (fun w hw => rn_loadA (vs := [_, _, _]) Tryz.isAgg25 Tryz.sizeOf25 rfl (CellsAt.agree (below_agree hw 0) (Nat.zero_le _) (CellsAt.own (j := 0) (m := 3) (hS.at_ 5 rfl) rfl))) (at_top rfl)) ?_
            refine bl_cons 19 rfl (isV (.bool (eqS (max ds dt) s t))) (stab_isV _) (rg_call [isV _, isV _] rfl goes_25 (w_yes 128 rfl (by kernel_rfl) (by kernel_rfl) (at_dep rfl rfl rfl)) ⟨p_tmp (g_dep 16 (by kernel_rfl) (at_dep rfl rfl rfl)), p_tmp (g_dep 17 (by kernel_rfl) (at_dep rfl rfl rfl)), trivial⟩ (fun vs w' hb hh => by have e := holds_isV (us := [_, _]) hh; subst e; exact (sameSpaceR_is (max ds dt) 4 s t _ (SIn.below (hS.below.trans (hb.mono hS.below.size)) hsm) (SIn.below (hS.below.trans (hb.mono hS.below.size)) htm) hs4).mono fun e w2 h => ⟨_, h.1, rfl, h.2⟩) (at_top rfl)) ?_
            refine bl_cons 20 rfl (isV (.bool true)) (stab_isV _) (rgVe (li := [(131, _), (134, _)]) rfl (w_yes 128 rfl (by kernel_rfl) (by kernel_rfl) (at_dep rfl rfl rfl)) ⟨g_dep 15 (by kernel_rfl) (at_dep rfl rfl rfl), g_dep 18 (by kernel_rfl) (at_dep rfl rfl rfl), trivial⟩ (fun w hw => rn_eqlB Tryz.underlying4 rfl rfl) (by simp) (at_top rfl)) ?_
            refine bl_cons 21 rfl (isV _) (stab_isV _) (rgV (li := [(128, _), (135, _)]) rfl (w_free rfl) ⟨g_dep 12 (by kernel_rfl) (at_dep rfl rfl rfl), g_dep 19 (by kernel_rfl) (at_dep rfl rfl rfl), trivial⟩ (fun w hw => rn_pickT rfl rfl) (at_top rfl)) ?_
            refine bl_cons 22 rfl (isV _) (stab_isV _) (rgV (li := [(136, _)]) rfl (w_free rfl) ⟨g_dep 20 (by kernel_rfl) (at_dep rfl rfl rfl), trivial⟩ (fun w hw => rn_move rfl) (at_top rfl)) ?_
            refine bl_cons 23 rfl (isV _) (stab_isV _) (rgV (li := [(4, _)]) rfl (w_yes 137 rfl (by kernel_rfl) (by kernel_rfl) (at_dep rfl rfl rfl)) ⟨g_fr (by kernel_rfl) rfl, trivial⟩ (fun w hw => rn_loadA (vs := [_, _, _]) Tryz.isAgg25 Tryz.sizeOf25 rfl (CellsAt.agree (below_agree hw 0) (Nat.zero_le _) (CellsAt.own (j := 0) (m := 3) (hS.at_ 7 rfl) rfl))) (at_top rfl)) ?_
            refine bl_cons 24 rfl (isV _) (stab_isV _) (rgV (li := [(4, _)]) rfl (w_yes 137 rfl (by kernel_rfl) (by kernel_rfl) (at_dep rfl rfl rfl)) ⟨g_fr (by kernel_rfl) rfl, trivial⟩ (fun w hw => rn_loadA (vs := [_, _, _]) Tryz.isAgg25 Tryz.sizeOf25 rfl (CellsAt.agree (below_agree hw 0) (Nat.zero_le _) (CellsAt.own (j := 0) (m := 3) (hS.at_ 7 rfl) rfl))) (at_top rfl)) ?_
            refine bl_cons 25 rfl (isV (.bool true)) (stab_isV _) (rg_call [isV _, isV _] rfl goes_24 (w_yes 137 rfl (by kernel_rfl) (by kernel_rfl) (at_dep rfl rfl rfl)) ⟨p_tmp (g_dep 22 (by kernel_rfl) (at_dep rfl rfl rfl)), p_tmp (g_dep 23 (by kernel_rfl) (at_dep rfl rfl rfl)), trivial⟩ (fun vs w' hb hh => by have e := holds_isV (us := [_, _]) hh; subst e; exact (sameSpaceA_is ds 4 s s _ (SIn.below (hS.below.trans (hb.mono hS.below.size)) hs) (SIn.below (hS.below.trans (hb.mono hS.below.size)) hs) hs4).mono fun e w2 h => ⟨_, h.1.trans (by rw [eqS_self hs]), rfl, h.2⟩) (at_top rfl)) ?_
            refine bl_cons 26 rfl (isV _) (stab_isV _) (rgV (li := [(137, _), (140, _)]) rfl (w_free rfl) ⟨g_dep 21 (by kernel_rfl) (at_dep rfl rfl rfl), g_dep 24 (by kernel_rfl) (at_dep rfl rfl rfl), trivial⟩ (fun w hw => rn_pickT rfl rfl) (at_top rfl)) ?_
            refine bl_cons 27 rfl (isV _) (stab_isV _) (rgV (li := [(141, _)]) rfl (w_free rfl) ⟨g_dep 25 (by kernel_rfl) (at_dep rfl rfl rfl), trivial⟩ (fun w hw => rn_move rfl) (at_top rfl)) ?_
            refine bl_cons 28 rfl (isV (.bool true)) (stab_isV _) (rg_call [] rfl goes_11 (w_yes 142 rfl (by kernel_rfl) (by kernel_rfl) (at_dep rfl rfl rfl)) trivial (fun vs w' hb hh => by have e := holds_isV (us := []) hh; subst e; exact (aliveW_is _ (ht.below (hS.below.trans (hb.mono hS.below.size)))).mono fun e w2 h => ⟨.bool true, h.1, rfl, h.2⟩) (at_top rfl)) ?_
            refine bl_cons 29 rfl (isV _) (stab_isV _) (rgV (li := [(142, _), (143, _)]) rfl (w_free rfl) ⟨g_dep 26 (by kernel_rfl) (at_dep rfl rfl rfl), g_dep 27 (by kernel_rfl) (at_dep rfl rfl rfl), trivial⟩ (fun w hw => rn_pickT rfl rfl) (at_top rfl)) ?_
            refine bl_cons 30 rfl (isV _) (stab_isV _) (rgV (li := [(144, _)]) rfl (w_free rfl) ⟨g_dep 28 (by kernel_rfl) (at_dep rfl rfl rfl), trivial⟩ (fun w hw => rn_assign rfl) (at_top rfl)) ?_
            refine bl_nil ?_
            intro W44 hbR hS'
            clear hS; have hS := hS'; clear hS'
            refine fin_v ?_
            refine fin_v ?_
            refine fin_v ?_
            refine fin_v ?_
            refine fin_v ?_
            refine fin_v ?_
            refine fin_v ?_
            refine fin_v ?_
            refine fin_v ?_
            refine fin_v ?_
            refine fin_v ?_
            refine fin_v ?_
            refine fin_v ?_
            refine fin_v ?_
            refine fin_v ?_
            refine fin_v ?_
            refine fin_v ?_
            refine fin_v ?_
            refine fin_v ?_
            refine fin_v ?_
            refine fin_v ?_
            refine fin_v ?_
            refine fin_v ?_
            refine fin_v ?_
            refine fin_v ?_
            refine fin_v ?_
            refine fin_v ?_
            refine fin_v ?_
            refine fin_v ?_
            refine fin_v ?_
            refine fin_nil ?_
            refine XF.thenN ?_
            refine retF ?_
            refine XF.res (res1 Tryz.results3 rfl) ?_
            exact ⟨rfl, hS.below⟩
end Go.Proofs.YtjcminoaiieckaaGreatDoor
namespace Go.Proofs.YtjcminoaiieckaaGreatDoor
open Go Go.RowKit
set_option linter.unusedVariables false
section
variable {β : Option Nat} {w w' w'' W : World} {p : Asr} {v c : Value}
end
section
variable {P : Program} {n : Nat} {Q : Exit → Act → World → Prop} {l : Fr} {w0 W : World} {ops : Array Oper} {os : List Oper} {O : Own} {G : Grows} {K : List (Nat × World)} {L : List Asr} {i : Nat}
variable {d : Nat} {op : Op} {ty : TypeId} {pos : String} {aft : Array Edge} {v : Value} {gd : Option (Nat × Bool)}
def anyA : Asr := fun _ _ => True
theorem stab_anyA : Stab anyA := fun _ _ _ _ _ => trivial
variable {Goal : List Asr → Prop}
end
end Go.Proofs.YtjcminoaiieckaaGreatDoor
