/-
  THE FACTS LAYER: Combine of the program.
-/
import Derived.Test.YtdaijibkafepcaaDoorFactsApply
namespace Go.Proofs.YtdaijibkafepcaaDoor
open Go.RowKit
set_option linter.unusedVariables false

def orL (xs ys : List Nat) : List Nat := List.zipWith (fun a b : Nat => a ||| b) xs ys
theorem orL_at {xs ys : List Nat} {k x y : Nat} (hx : xs[k]? = some x) (hy : ys[k]? = some y) : (orL xs ys)[k]? = some (x ||| y) := by simp [orL, List.getElem?_zipWith, hx, hy]
theorem orL_len {xs ys : List Nat} (h : ys.length = xs.length) : (orL xs ys).length = xs.length := by simp [orL, h]
theorem orL_lt {xs ys : List Nat} (hx : ∀ r ∈ xs, r < 18446744073709551616) (hy : ∀ r ∈ ys, r < 18446744073709551616) : ∀ r ∈ orL xs ys, r < 18446744073709551616 := by
  intro r hr
  obtain ⟨i, hi⟩ := List.getElem?_of_mem hr
  unfold orL at hi
  rw [List.getElem?_zipWith] at hi
  cases h1 : xs[i]? with
  | none => rw [h1] at hi; simp at hi
  | some a =>
    cases h2 : ys[i]? with
    | none => rw [h1, h2] at hi; simp at hi
    | some b =>
      rw [h1, h2] at hi
      have : a ||| b = r := by simpa using hi
      rw [← this]
      exact or64 (hx a (List.mem_of_getElem? h1)) (hy b (List.mem_of_getElem? h2))
def combG (n : Int) (ga : Nat) (xs : List Nat) (gb : Nat) (ys : List Nat) : Nat := if bothE n ga xs gb ys = 0 then ga ||| gb else 0
def combV (n : Int) (ga : Nat) (xs : List Nat) (gb : Nat) (ys : List Nat) : List Nat := if bothE n ga xs gb ys = 0 then canonL (ga ||| gb) (orL xs ys) else []
theorem bothE_ok {n : Int} {ga gb : Nat} {xs ys : List Nat} (h : bothE n ga xs gb ys = 0) : checkE n ga xs = 0 ∧ checkE n gb ys = 0 := by
  unfold bothE at h
  split at h
  · rename_i h1; exact ⟨h1, h⟩
  · rename_i h1; exact absurd h h1
theorem bothE_len {n : Int} {ga gb : Nat} {xs ys : List Nat} (h : bothE n ga xs gb ys = 0) : ∃ m : Nat, n = m ∧ m ≤ 64 ∧ xs.length = m ∧ ys.length = m := by
  obtain ⟨h1, h2⟩ := bothE_ok h
  obtain ⟨hd, s1, _⟩ := checkE_ok h1
  obtain ⟨_, s2, _⟩ := checkE_ok h2
  obtain ⟨m, rfl, hm⟩ := dim_nat hd
  rw [Int.toNat_natCast] at s1 s2
  exact ⟨m, rfl, hm, (shapeB_len s1).1, (shapeB_len s2).1⟩
theorem three_boxes (w : World) (a b c : Array Value) (T : TypeId) :
    (((w.alloc (.cells a T)).alloc (.cells b T)).alloc (.cells c T)).heap[w.heap.size]? = some (.cells a T (0, 0)) ∧ (((w.alloc (.cells a T)).alloc (.cells b T)).alloc (.cells c T)).heap[w.heap.size + 1]? = some (.cells b T (0, 0)) ∧ (((w.alloc (.cells a T)).alloc (.cells b T)).alloc (.cells c T)).heap[w.heap.size + 1 + 1]? = some (.cells c T (0, 0)) := by
  obtain ⟨t0, t1⟩ := two_boxes w a b T
  refine ⟨heap_allocd t0 _, heap_allocd t1 _, ?_⟩
  have := heapV_new ((w.alloc (.cells a T)).alloc (.cells b T)) (.cells c T)
  rwa [World.size_alloc, World.size_alloc] at this
set_option maxRecDepth 100000 in
set_option maxHeartbeats 4000000 in
theorem combA_is (n : Int) (a b : Option Addr) (capa capb ga gb : Nat) (xs ys : List Nat) (w : World) (hfa : FAt w a ga xs) (hfb : FAt w b gb ys) (e0 : Int) (he : bothE n ga xs gb ys = e0) (g : Nat) (hg : combG n ga xs gb ys = g) (zs : List Nat) (hz : combV n ga xs gb ys = zs) (la lb : Nat) (hla : xs.length = la) (hlb : ys.length = lb) :
    Calls Tryd.prog 48 #[.int .i64 n, fval ga a la capa, fval gb b lb capb] w (FRet g zs e0 w) := by
  unfold fval
  have hB0 : Below w.heap.size w (((w.alloc (.cells #[.int .u64 (ga : Int), .slice a la capa] 55)).alloc (.cells #[.int .u64 (gb : Int), .slice b lb capb] 55)).alloc (.cells #[.int .u64 0, .slice none 0 0] 55)) := (((Below.refl _ _).alloc (Nat.le_refl _) _).alloc (by simp) _).alloc (by simp; omega) _
  have HA := Lib.hid (hfa.below hB0); have HB := Lib.hid (hfb.below hB0); have HLA := Lib.hid hla; have HLB := Lib.hid hlb
  obtain ⟨t0, t1, t2⟩ := three_boxes w #[.int .u64 (ga : Int), .slice a la capa] #[.int .u64 (gb : Int), .slice b lb capb] #[.int .u64 0, .slice none 0 0] 55
  have T0 := Lib.hid t0; have T1 := Lib.hid t1; have T2 := Lib.hid t2
  have hga := hfa.gen; have hgb := hfb.gen
  have HXA := Lib.hid hfa.all; have HYA := Lib.hid hfb.all
  have HXL := Lib.hid hfa.len
  have HE := Lib.hid he
  by_cases h0 : e0 = 0
  · subst h0
    obtain ⟨m, rfl, hm, hxm, hym⟩ := bothE_len he
    obtain rfl : m = la := by omega
    obtain rfl : m = lb := by omega
    obtain rfl : ga ||| gb = g := by rw [← hg, combG, if_pos he]
    have HZ : Hid (canonL (ga ||| gb) (orL xs ys) = zs) := by show _ = _; rw [← hz, combV, if_pos he]
    have HOL : Hid ((orL xs ys).length = xs.length) := orL_len (by omega)
    have hgg := or64 hga hgb
    have hor := u64_or_nat ga gb hga hgb
    obtain ⟨gg, hggq⟩ : ∃ gg, ga ||| gb = gg := ⟨_, rfl⟩
    rw [hggq] at hgg hor HZ ⊢
    clear hfa hfb he hg hz hla hlb t0 t1 t2 hxm hym hggq
    go_enter Tryd.func48, Tryd.ntmps48
    go_wp2_with fail
    refine (bothA_is m a b capa capb ga gb xs ys _ HA.out HB.out 0 HE.out m m HLA.out HLB.out).mono ?_
    rintro e w1 ⟨rfl, hb1⟩
    have hB1 := hB0.trans (hb1.mono hB0.size)
    have U0 := Lib.hid (heap_old T0.out hb1); have U1 := Lib.hid (heap_old T1.out hb1); have U2 := Lib.hid (heap_old T2.out hb1)
    obtain ⟨c0, c1, _⟩ := two_cells U0.out
    go_wp2_with fail
    refine (clone_is a capa xs _ HXL.out (HA.out.below hb1).row m HLA.out).mono ?_
    rintro e w2 ⟨v, rfl, hown, hb2⟩
    obtain ⟨av, capv, hv⟩ := own_slice hown
    subst hv
    have hB2 := hB1.trans (hb2.mono hB1.size)
    have V0 := Lib.hid (heap_old U0.out hb2); have V1 := Lib.hid (heap_old U1.out hb2); have V2 := Lib.hid (heap_old U2.out hb2)
    have HFB := Lib.hid ((HB.out.below hb1).below hb2)
    have hw1 : w.heap.size + 1 + 1 < w1.heap.size := (Array.getElem?_eq_some_iff.1 U2.out).1
    have HO0 : Hid (w2.ownsRow w1.heap.size 23 1 (.slice av m capv) m (u64s (mixL (orL xs ys) xs 0))) := by rw [mixL_zero]; exact hown
    obtain ⟨k0, k1, _⟩ := two_cells V1.out
    clear hown c0 c1
    go_wp2_with fail
    go_loopw [26] (fun i wr => ∃ k : Nat, k ≤ m ∧ i = .int .i64 k ∧ Hid (wr.ownsRow w1.heap.size 23 1 (.slice av m capv) m (u64s (mixL (orL xs ys) xs k))) ∧ Hid (wr.heap[w.heap.size]? = some (.cells #[.int .u64 (ga : Int), .slice a m capa] 55 (0, 0))) ∧ Hid (wr.heap[w.heap.size + 1]? = some (.cells #[.int .u64 (gb : Int), .slice b m capb] 55 (0, 0))) ∧ Hid (wr.heap[w.heap.size + 1 + 1]? = some (.cells #[.int .u64 0, .slice none 0 0] 55 (0, 0))) ∧ Below w1.heap.size w2 wr) (fun i _ => m - (intOf i).toNat)
    case atStart => exact ⟨0, Nat.zero_le _, rfl, HO0, V0, V1, V2, Below.refl _ _⟩
    case round =>
      obtain ⟨k, hk, rfl, HO, R0, R1, R2, hb⟩ := hrel
      by_cases hlt : k < m
      · obtain ⟨x, hx⟩ : ∃ x, xs[k]? = some x := ⟨xs[k]'(by rw [HLA.out]; exact hlt), by simp [HLA.out, hlt]⟩
        have hx64 := HXA.out x (List.mem_of_getElem? hx)
        obtain ⟨bb, offb, y, rfl, hy, hy64, hbb, b0⟩ := (HB.out.below hb1).at_ (i := k) (by rw [HLB.out]; exact hlt)
        have b0' := ((hb.cell (p := ⟨bb, offb + k, none⟩) hbb).trans ((hb2.cell (p := ⟨bb, offb + k, none⟩) hbb).trans b0))
        have hxy := u64_or_nat x y hx64 hy64
        have HM := Lib.hid (mixL_set (orL_at hx hy) hx)
        obtain ⟨q, hq⟩ : ∃ q, x ||| y = q := ⟨_, rfl⟩
        rw [hq] at hxy HM
        obtain ⟨gr, capr, hvr, hbg, hgl⟩ := HO.out.form (show 0 < m by omega)
        have hv2 : av = some ⟨gr, 0, none⟩ ∧ capr = capv := by cases hvr; exact ⟨rfl, rfl⟩
        obtain ⟨rfl, rfl⟩ := hv2
        have d0 := (HO.out.cellAt k (by omega)).trans (u64s_get (mixL_at HOL.out hx))
        have q0 := HO.out.frozenAt k
        have g0 : (0 : Int) ≤ (k : Int) := by omega
        have g3 : (k : Int) < (m : Int) := by omega
        have HO2 : Hid ((wr.setCell ⟨gr, k, none⟩ (.int .u64 (q : Int))).ownsRow w1.heap.size 23 1 (.slice (some ⟨gr, 0, none⟩) m capr) m (u64s (mixL (orL xs ys) xs (k + 1)))) := by
          rw [← HM.out, ← u64s_set]
          exact (HO.out.stored k _).1
        have R0' := Lib.hid (heap_other (B := gr) (j := k) (c := .int .u64 (q : Int)) R0.out (by omega))
        have R1' := Lib.hid (heap_other (B := gr) (j := k) (c := .int .u64 (q : Int)) R1.out (by omega))
        have R2' := Lib.hid (heap_other (B := gr) (j := k) (c := .int .u64 (q : Int)) R2.out (by omega))
        have hb' := hb.setCell (p := ⟨gr, k, none⟩) hbg (.int .u64 (q : Int))
        clear hx hy hq hvr b0
        go_wp2
        go_roundw
        case rel => exact ⟨k + 1, by omega, by go_num, HO2, R0', R1', R2', hb'⟩
        case measure => simp [intOf]; omega
      · obtain rfl : k = m := by omega
        have HO2 : Hid (wr.ownsRow w1.heap.size 23 1 (.slice av k capv) k (u64s (orL xs ys))) := by
          have := HO.out
          rw [← HLA.out] at this ⊢
          rwa [mixL_all HOL.out] at this
        obtain ⟨a0, a1, _⟩ := two_cells R0.out
        obtain ⟨b0, b1, _⟩ := two_cells R1.out
        have hbw : w1.heap.size ≤ wr.heap.size := Nat.le_trans hb2.size hb.size
        have HOLT := Lib.hid (orL_lt HXA.out HYA.out)
        have hol100 : Hid ((orL xs ys).length ≤ 100) := by show _ ≤ _; rw [HOL.out]; exact HXL.out
        have holn : Hid ((orL xs ys).length = k) := by show _ = _; rw [HOL.out]; exact HLA.out
        go_wp2_with fail
        refine (canonical_is gg w1.heap.size k (.slice av k capv) (orL xs ys) zs _ hgg HOLT.out hol100.out holn.out hbw HO2.out HZ.out).mono ?_
        rintro e w4 ⟨rfl, post⟩
        have POST := Lib.hid post
        have hB4 : Below w.heap.size w w4 := ((hB1.trans (hb2.mono hB1.size)).trans (hb.mono hB1.size)).trans (post.below.mono hB1.size)
        have W2 := Lib.hid ((post.rest (w.heap.size + 1 + 1) ((Array.getElem?_eq_some_iff.1 R2.out).1) (fun e => by have h9 := (HO2.out.lt _ e.symm).1; omega)).trans R2.out)
        obtain ⟨p0, p1, ff⟩ := two_cells W2.out
        have f0 := ff 0; have f1 := ff 1
        have N1 := Lib.hid (two_set1 (c := .slice av k capv) (two_set0 (c := .int .u64 (gg : Int)) W2.out))
        obtain ⟨s0, s1, _⟩ := two_cells N1.out
        have HNB := Lib.hid (not_row W2.out (by decide) POST.out.own)
        have HO5 := Lib.hid ((POST.out.own.kept (grownBy_set _ _ 0 (.int .u64 (gg : Int))) (.inr HNB.out.symm)).kept (grownBy_set _ (w.heap.size + 1 + 1) 1 (.slice av k capv)) (.inr HNB.out.symm))
        have HB5 := Lib.hid ((hB4.setCell (p := ⟨w.heap.size + 1 + 1, 0, none⟩) (by simp; omega) (.int .u64 (gg : Int))).setCell (p := ⟨w.heap.size + 1 + 1, 1, none⟩) (by simp; omega) (.slice av k capv))
        clear post ff a0 a1 b0 b1
        go_wp2
        refine bodyPost_ret (v := .tuple #[.agg #[.int .u64 (gg : Int), .slice av k capv], .int .i64 0]) ?_ rfl (fret_own hB1.size HO5.out HB5.out 0)
        simp [results, Tryd.results48, go_sem, s0, s1]
  · obtain rfl : 0 = g := by rw [← hg, combG, he, if_neg h0]
    obtain rfl : [] = zs := by rw [← hz, combV, he, if_neg h0]
    have hne : (e0 != 0) = true := by simpa using h0
    clear hfa hfb he hg hz hla hlb t0 t1 t2 h0
    go_enter Tryd.func48, Tryd.ntmps48
    go_wp2_with fail
    refine (bothA_is n a b capa capb ga gb xs ys _ HA.out HB.out e0 HE.out la lb HLA.out HLB.out).mono ?_
    rintro e w1 ⟨rfl, hb1⟩
    have hB1 := hB0.trans (hb1.mono hB0.size)
    have U2 := Lib.hid (heap_old T2.out hb1)
    obtain ⟨d0, d1, df⟩ := two_cells U2.out
    have f0 := df 0; have f1 := df 1
    have N1 := Lib.hid (two_set1 (c := .slice none 0 0) (two_set0 (c := .int .u64 0) U2.out))
    obtain ⟨s0, s1, _⟩ := two_cells N1.out
    clear df
    go_wp2
    refine bodyPost_ret (v := .tuple #[.agg #[.int .u64 0, .slice none 0 0], .int .i64 e0]) ?_ rfl (fret_nil e0 ((hB1.setCell (p := ⟨w.heap.size + 1 + 1, 0, none⟩) (by simp; omega) _).setCell (p := ⟨w.heap.size + 1 + 1, 1, none⟩) (by simp; omega) _))
    simp [results, Tryd.results48, go_sem, s0, s1]
end Go.Proofs.YtdaijibkafepcaaDoor
