/-
  THE FACTS LAYER: Extend of the program.
-/
import Derived.Test.YtdaijibkafepcaaDoorFactsComb
namespace Go.Proofs.YtdaijibkafepcaaDoor
open Go.RowKit
set_option linter.unusedVariables false

def extG (n : Int) (ga : Nat) (xs : List Nat) (gb : Nat) (ys : List Nat) : Nat := if bothE n ga xs gb ys = 0 then madeF gb ys ga else 0
def extV (n : Int) (ga : Nat) (xs : List Nat) (gb : Nat) (ys : List Nat) : List Nat := if bothE n ga xs gb ys = 0 then canonL (madeF gb ys ga) (xs.map (madeF gb ys)) else []
set_option maxRecDepth 100000 in
set_option maxHeartbeats 4000000 in
theorem extA_is (n : Int) (a b : Option Addr) (capa capb ga gb : Nat) (xs ys : List Nat) (w : World) (hfa : FAt w a ga xs) (hfb : FAt w b gb ys) (ht : TabC w) (e0 : Int) (he : bothE n ga xs gb ys = e0) (g : Nat) (hg : extG n ga xs gb ys = g) (zs : List Nat) (hz : extV n ga xs gb ys = zs) (la lb : Nat) (hla : xs.length = la) (hlb : ys.length = lb) :
    Calls Tryd.prog 50 #[.int .i64 n, fval ga a la capa, fval gb b lb capb] w (FRet g zs e0 w) := by
  unfold fval
  have hB0 : Below w.heap.size w (((w.alloc (.cells #[.int .u64 (ga : Int), .slice a la capa] 55)).alloc (.cells #[.int .u64 (gb : Int), .slice b lb capb] 55)).alloc (.cells #[.int .u64 0, .slice none 0 0] 55)) := (((Below.refl _ _).alloc (Nat.le_refl _) _).alloc (by simp) _).alloc (by simp; omega) _
  have HA := Lib.hid (hfa.below hB0); have HB := Lib.hid (hfb.below hB0); have HLA := Lib.hid hla; have HLB := Lib.hid hlb
  obtain ⟨t0, t1, t2⟩ := three_boxes w #[.int .u64 (ga : Int), .slice a la capa] #[.int .u64 (gb : Int), .slice b lb capb] #[.int .u64 0, .slice none 0 0] 55
  have T0 := Lib.hid t0; have T1 := Lib.hid t1; have T2 := Lib.hid t2
  have hga := hfa.gen; have hgb := hfb.gen
  have HXA := Lib.hid hfa.all; have HYA := Lib.hid hfb.all
  have HXL := Lib.hid hfa.len
  have HE := Lib.hid he
  by_cases h0 : e0 = 0
  · subst h0
    obtain ⟨m, rfl, hm, hxm, hym⟩ := bothE_len he
    obtain rfl : m = la := by omega
    obtain rfl : m = lb := by omega
    obtain rfl : madeF gb ys ga = g := by rw [← hg, extG, if_pos he]
    have HZ : Hid (canonL (madeF gb ys ga) (xs.map (madeF gb ys)) = zs) := by show _ = _; rw [← hz, extV, if_pos he]
    have HOL : Hid ((xs.map (madeF gb ys)).length = (List.replicate m 0).length) := by show _ = _; simp; omega
    obtain ⟨hc1, hc2⟩ := bothE_ok he
    obtain ⟨hd, sh1, _⟩ := checkE_ok hc1
    rw [Int.toNat_natCast] at sh1
    obtain ⟨_, ig, ir⟩ := shapeB_len sh1
    have HINg : Hid (∀ i ∈ mem ga, i < ys.length) := fun i hi => by rw [hym]; exact mem_below ((insN_iff hm hga).1 ig) hi
    have HINr : Hid (∀ x ∈ xs, ∀ i ∈ mem x, i < ys.length) := fun x hx i hi => by rw [hym]; exact mem_below ((insN_iff hm (hfa.all x hx)).1 (ir x hx)) hi
    have hgg : madeF gb ys ga < 18446744073709551616 := madeF_lt hfb.all hgb
    have HGG : Hid (madeF gb ys ga = madeF gb ys ga) := rfl
    obtain ⟨gg, hggq⟩ : ∃ gg, madeF gb ys ga = gg := ⟨_, rfl⟩
    have HGQ := Lib.hid hggq
    rw [hggq] at hgg HZ ⊢
    obtain ⟨i0, hi, hz0, hz1, hz2⟩ := info_parts infoU
    have HT := Lib.hid ht
    have hm0 : (0 : Int) ≤ (m : Int) := by omega
    have hm64 : (m : Int) ≤ 64 := by omega
    clear hfa hfb he hg hz hla hlb t0 t1 t2 hxm hym hggq hc1 hc2 hd sh1 ig ir HGG ht
    go_enter Tryd.func50, Tryd.ntmps50
    go_wp2_with fail
    refine (bothA_is m a b capa capb ga gb xs ys _ HA.out HB.out 0 HE.out m m HLA.out HLB.out).mono ?_
    rintro e w1 ⟨rfl, hb1⟩
    have hB1 := hB0.trans (hb1.mono hB0.size)
    have U0 := Lib.hid (heap_old T0.out hb1); have U1 := Lib.hid (heap_old T1.out hb1); have U2 := Lib.hid (heap_old T2.out hb1)
    go_wp2_with (at_make; go_loud (refine wpList_make_full _ rfl (.tmp 20) (.tmp 20) 53 rfl w1.heap.size 23 i0 _ 1 Tryd.underlying53 hi hz0 hz1 .i64 .i64 (m : Int) (m : Int) m rfl rfl rfl rfl (by rw [hz2]; omega) (by unfold maxLen; omega) (Nat.le_refl _) ?_; intro w2 hown2 hgrow2; have hb2 : Below w1.heap.size w1 w2 := (Below.refl _ _).grown hgrow2 (Nat.le_refl _) (fun j e => by cases e); have V0 := Lib.hid (heap_old U0.out hb2); obtain ⟨c0, c1, _⟩ := two_cells V0.out))
    have hB2 := hB1.trans (hb2.mono hB1.size)
    have V1 := Lib.hid (heap_old U1.out hb2); have V2 := Lib.hid (heap_old U2.out hb2)
    have hw1 : w.heap.size + 1 + 1 < w1.heap.size := (Array.getElem?_eq_some_iff.1 U2.out).1
    have HO0 : Hid (w2.ownsRow w1.heap.size 23 1 (.slice (some ⟨w1.heap.size, 0, none⟩) m m) m (u64s (mixL (xs.map (madeF gb ys)) (List.replicate m 0) 0))) := by
      rw [mixL_zero]
      have e : u64s (List.replicate m 0) = List.replicate m (.int .u64 0) := by simp [u64s]
      have e2 : (madeCells (Value.int IntKind.u64 0).cells (m * 1)).toList = List.replicate m (.int .u64 0) := by
        rw [Nat.mul_one]
        apply List.ext_getElem
        · simp [madeCells]
        · intro i h1 h2
          simp [madeCells, Value.cells, Nat.mod_one]
      rw [e, ← e2]
      exact hown2
    clear hown2 c0 c1
    go_wp2_with fail
    go_loopw [25] (fun i wr => ∃ k : Nat, k ≤ m ∧ i = .int .i64 k ∧ Hid (wr.ownsRow w1.heap.size 23 1 (.slice (some ⟨w1.heap.size, 0, none⟩) m m) m (u64s (mixL (xs.map (madeF gb ys)) (List.replicate m 0) k))) ∧ Hid (wr.heap[w.heap.size]? = some (.cells #[.int .u64 (ga : Int), .slice a m capa] 55 (0, 0))) ∧ Hid (wr.heap[w.heap.size + 1]? = some (.cells #[.int .u64 (gb : Int), .slice b m capb] 55 (0, 0))) ∧ Hid (wr.heap[w.heap.size + 1 + 1]? = some (.cells #[.int .u64 0, .slice none 0 0] 55 (0, 0))) ∧ Below w1.heap.size w1 wr) (fun i _ => m - (intOf i).toNat)
    case atStart => exact ⟨0, Nat.zero_le _, rfl, HO0, V0, V1, V2, hb2⟩
    case round =>
      obtain ⟨k, hk, rfl, HO, R0, R1, R2, hb⟩ := hrel
      have HFB := Lib.hid ((HB.out.below hb1).below hb)
      obtain ⟨d0, d1, _⟩ := two_cells R1.out
      by_cases hlt : k < m
      · obtain ⟨ba, offa, x, rfl, hx, hx64, hba, a0⟩ := ((HA.out.below hb1).below hb).at_ (i := k) (by rw [HLA.out]; exact hlt)
        have HXI := Lib.hid (HINr.out x (List.mem_of_getElem? hx))
        have hxk : (List.replicate m 0)[k]? = some 0 := by simp [hlt]
        have hmx : (xs.map (madeF gb ys))[k]? = some (madeF gb ys x) := by rw [List.getElem?_map, hx]; rfl
        have HM := Lib.hid (mixL_set hmx hxk)
        obtain ⟨q, hq⟩ : ∃ q, madeF gb ys x = q := ⟨_, rfl⟩
        have HQ := Lib.hid hq
        rw [hq] at HM
        have z0 := Lib.hid (u64s_get (mixL_at HOL.out hxk))
        have g0 : (0 : Int) ≤ (k : Int) := by omega
        have g3 : (k : Int) < (m : Int) := by omega
        have hbw : Hid (Below w.heap.size w wr) := hB1.trans (hb.mono hB1.size)
        clear hx hq hmx hxk
        go_wp2_with fail
        refine (madeA_is b capb gb ys x hx64 _ HFB.out HXI.out (HT.out.below hbw.out) q HQ.out m HLB.out).mono ?_
        rintro e w4 ⟨rfl, hb4⟩
        have HO4 := Lib.hid (ownV_below HO.out hb4)
        have dd := (HO4.out.cellAt k (by omega)).trans z0.out
        have q0 := HO4.out.frozenAt k
        have HO2 : Hid ((w4.setCell ⟨w1.heap.size, k, none⟩ (.int .u64 (q : Int))).ownsRow w1.heap.size 23 1 (.slice (some ⟨w1.heap.size, 0, none⟩) m m) m (u64s (mixL (xs.map (madeF gb ys)) (List.replicate m 0) (k + 1)))) := by
          rw [← HM.out, ← u64s_set]
          exact (HO4.out.stored k _).1
        have R0' := Lib.hid (heap_other (B := w1.heap.size) (j := k) (c := .int .u64 (q : Int)) (heap_old R0.out hb4) (by omega))
        have R1' := Lib.hid (heap_other (B := w1.heap.size) (j := k) (c := .int .u64 (q : Int)) (heap_old R1.out hb4) (by omega))
        have R2' := Lib.hid (heap_other (B := w1.heap.size) (j := k) (c := .int .u64 (q : Int)) (heap_old R2.out hb4) (by omega))
        have hb' := (hb.trans (hb4.mono hb.size)).setCell (p := ⟨w1.heap.size, k, none⟩) (Nat.le_refl _) (.int .u64 (q : Int))
        go_wp2
        go_roundw
        case rel => exact ⟨k + 1, by omega, by go_num, HO2, R0', R1', R2', hb'⟩
        case measure => simp [intOf]; omega
      · obtain rfl : k = m := by omega
        have HO2 : Hid (wr.ownsRow w1.heap.size 23 1 (.slice (some ⟨w1.heap.size, 0, none⟩) k k) k (u64s (xs.map (madeF gb ys)))) := by
          have := HO.out
          have e : mixL (xs.map (madeF gb ys)) (List.replicate k 0) k = xs.map (madeF gb ys) := by
            have := mixL_all HOL.out
            rwa [List.length_replicate] at this
          rwa [e] at this
        obtain ⟨a0, a1, _⟩ := two_cells R0.out
        have hol100 : Hid ((xs.map (madeF gb ys)).length ≤ 100) := by show _ ≤ _; rw [List.length_map]; exact HXL.out
        have holn : Hid ((xs.map (madeF gb ys)).length = k) := by show _ = _; rw [List.length_map]; exact HLA.out
        have HOLT : Hid (∀ r ∈ xs.map (madeF gb ys), r < 18446744073709551616) := fun r hr => by
          rw [List.mem_map] at hr
          obtain ⟨x, _, rfl⟩ := hr
          exact madeF_lt HYA.out hgb
        have hbw : Hid (Below w.heap.size w wr) := hB1.trans (hb.mono hB1.size)
        go_wp2_with fail
        refine (madeA_is b capb gb ys ga hga _ HFB.out HINg.out (HT.out.below hbw.out) gg HGQ.out k HLB.out).mono ?_
        rintro e w3 ⟨rfl, hb3⟩
        have hb3w : w1.heap.size ≤ w3.heap.size := Nat.le_trans hb.size hb3.size
        have HO3 := Lib.hid (ownV_below HO2.out hb3)
        have R3 := Lib.hid (heap_old R2.out hb3)
        go_wp2_with fail
        refine (canonical_is gg w1.heap.size k _ (xs.map (madeF gb ys)) zs _ hgg HOLT.out hol100.out holn.out hb3w HO3.out HZ.out).mono ?_
        rintro e w4 ⟨rfl, post⟩
        have POST := Lib.hid post
        have hB4 : Below w.heap.size w w4 := (hbw.out.trans (hb3.mono hbw.out.size)).trans (post.below.mono hB1.size)
        have W2 := Lib.hid ((post.rest (w.heap.size + 1 + 1) ((Array.getElem?_eq_some_iff.1 R3.out).1) (fun e => by have h9 := (HO3.out.lt _ e.symm).1; omega)).trans R3.out)
        obtain ⟨p0, p1, ff⟩ := two_cells W2.out
        have f0 := ff 0; have f1 := ff 1
        have N1 := Lib.hid (two_set1 (c := .slice (some ⟨w1.heap.size, 0, none⟩) k k) (two_set0 (c := .int .u64 (gg : Int)) W2.out))
        obtain ⟨s0, s1, _⟩ := two_cells N1.out
        have HNB := Lib.hid (not_row W2.out (by decide) POST.out.own)
        have HO5 := Lib.hid ((POST.out.own.kept (grownBy_set _ _ 0 (.int .u64 (gg : Int))) (.inr HNB.out.symm)).kept (grownBy_set _ (w.heap.size + 1 + 1) 1 (.slice (some ⟨w1.heap.size, 0, none⟩) k k)) (.inr HNB.out.symm))
        have HB5 := Lib.hid ((hB4.setCell (p := ⟨w.heap.size + 1 + 1, 0, none⟩) (by simp; omega) (.int .u64 (gg : Int))).setCell (p := ⟨w.heap.size + 1 + 1, 1, none⟩) (by simp; omega) (.slice (some ⟨w1.heap.size, 0, none⟩) k k))
        clear post ff a0 a1 d0 d1
        go_wp2
        refine bodyPost_ret (v := .tuple #[.agg #[.int .u64 (gg : Int), .slice (some ⟨w1.heap.size, 0, none⟩) k k], .int .i64 0]) ?_ rfl (fret_own hB1.size HO5.out HB5.out 0)
        simp [results, Tryd.results50, go_sem, s0, s1]
  · obtain rfl : 0 = g := by rw [← hg, extG, he, if_neg h0]
    obtain rfl : [] = zs := by rw [← hz, extV, he, if_neg h0]
    have hne : (e0 != 0) = true := by simpa using h0
    clear hfa hfb he hg hz hla hlb t0 t1 t2 h0
    go_enter Tryd.func50, Tryd.ntmps50
    go_wp2_with fail
    refine (bothA_is n a b capa capb ga gb xs ys _ HA.out HB.out e0 HE.out la lb HLA.out HLB.out).mono ?_
    rintro e w1 ⟨rfl, hb1⟩
    have hB1 := hB0.trans (hb1.mono hB0.size)
    have U2 := Lib.hid (heap_old T2.out hb1)
    obtain ⟨d0, d1, df⟩ := two_cells U2.out
    have f0 := df 0; have f1 := df 1
    have N1 := Lib.hid (two_set1 (c := .slice none 0 0) (two_set0 (c := .int .u64 0) U2.out))
    obtain ⟨s0, s1, _⟩ := two_cells N1.out
    clear df
    go_wp2
    refine bodyPost_ret (v := .tuple #[.agg #[.int .u64 0, .slice none 0 0], .int .i64 e0]) ?_ rfl (fret_nil e0 ((hB1.setCell (p := ⟨w.heap.size + 1 + 1, 0, none⟩) (by simp; omega) _).setCell (p := ⟨w.heap.size + 1 + 1, 1, none⟩) (by simp; omega) _))
    simp [results, Tryd.results50, go_sem, s0, s1]
end Go.Proofs.YtdaijibkafepcaaDoor
