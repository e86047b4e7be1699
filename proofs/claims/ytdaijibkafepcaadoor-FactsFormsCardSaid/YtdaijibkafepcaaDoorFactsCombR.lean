/-
  THE FACTS LAYER: Combine of the reference.
-/
import Derived.Test.YtdaijibkafepcaaDoorFactsExt
import Derived.Deep.AppendLies
namespace Go.Proofs.YtdaijibkafepcaaDoor
open Go.RowKit
set_option linter.unusedVariables false

/-- What stays while a row is made beside two boxes: the boxes, all that was. -/
structure KeepK (w wr : World) (A B : Nat) (ca cb : Array Value) : Prop where
  hA : wr.heap[A]? = some (.cells ca 55 (0, 0))
  hB : wr.heap[B]? = some (.cells cb 55 (0, 0))
  below : Below w.heap.size w wr
theorem KeepK.drew {w wr : World} {A B : Nat} {ca cb : Array Value} (h : KeepK w wr A B ca cb) : KeepK w wr.drew A B ca cb := ⟨h.hA, h.hB, h.below.drew⟩
theorem KeepK.alloc {w wr : World} {A B : Nat} {ca cb : Array Value} (h : KeepK w wr A B ca cb) (o : Obj) : KeepK w (wr.alloc o) A B ca cb := ⟨heap_allocd h.hA o, heap_allocd h.hB o, h.below.alloc h.below.size o⟩
theorem KeepK.call {w wr w' : World} {A B : Nat} {ca cb : Array Value} (h : KeepK w wr A B ca cb) (hb : Below wr.heap.size wr w') : KeepK w w' A B ca cb := ⟨heap_old h.hA hb, heap_old h.hB hb, h.below.trans (hb.mono h.below.size)⟩
theorem KeepK.set {w wr : World} {A B F j : Nat} {ca cb : Array Value} (h : KeepK w wr A B ca cb) (h1 : A ≠ F) (h2 : B ≠ F) (h3 : w.heap.size ≤ F) (v : Value) : KeepK w (wr.setCell ⟨F, j, none⟩ v) A B ca cb := ⟨heap_other h.hA h1, heap_other h.hB h2, h.below.setCell (p := ⟨F, j, none⟩) h3 v⟩
theorem KeepK.grown {w wr w' : World} {A B base n : Nat} {ca cb : Array Value} {v : Value} {xs : List Value} (h : KeepK w wr A B ca cb) (hr : wr.ownsRow base 23 1 v n xs) (hb : w.heap.size ≤ base) (hg : wr.grownBy w' v.ownBlock) : KeepK w w' A B ca cb :=
  ⟨heap_grown h.hA (by decide) hr hg, heap_grown h.hB (by decide) hr hg, h.below.grown hg h.below.size (fun j e => Nat.le_trans hb (hr.lt j e).1)⟩
theorem KeepK.cells {w wr : World} {A B : Nat} {u1 u2 v1 v2 : Value} (h : KeepK w wr A B #[u1, u2] #[v1, v2]) {p q : Addr} {x y : Value} (hp : w.cell? p = some x) (hq : w.cell? q = some y) :
    wr.cell? ⟨A, 1, none⟩ = some u2 ∧ wr.cell? p = some x ∧ wr.cell? ⟨B, 1, none⟩ = some v2 ∧ wr.cell? q = some y :=
  ⟨(two_cells h.hA).2.1, (h.below.cell (cell_lt hp)).trans hp, (two_cells h.hB).2.1, (h.below.cell (cell_lt hq)).trans hq⟩
theorem orL_take {xs ys : List Nat} {k x y q : Nat} (hx : xs[k]? = some x) (hy : ys[k]? = some y) (hq : x ||| y = q) : (orL xs ys).take (k + 1) = (orL xs ys).take k ++ [q] := by
  have h2 := orL_at hx hy
  rw [hq] at h2
  obtain ⟨hk, e⟩ := List.getElem?_eq_some_iff.1 h2
  rw [List.take_succ_eq_append_getElem hk, e]
set_option maxRecDepth 100000 in
set_option maxHeartbeats 20000000 in
theorem combR_is (n : Int) (a b : Option Addr) (capa capb ga gb : Nat) (xs ys : List Nat) (w : World) (hfa : FAt w a ga xs) (hfb : FAt w b gb ys) (e0 : Int) (he : bothE n ga xs gb ys = e0) (g : Nat) (hg : combG n ga xs gb ys = g) (zs : List Nat) (hz : combV n ga xs gb ys = zs) (la lb : Nat) (hla : xs.length = la) (hlb : ys.length = lb) :
    Calls Tryd.prog 49 #[.int .i64 n, fval ga a la capa, fval gb b lb capb] w (FRet g zs e0 w) := by
  unfold fval
  have hB0 : Below w.heap.size w (((w.alloc (.cells #[.int .u64 (ga : Int), .slice a la capa] 55)).alloc (.cells #[.int .u64 (gb : Int), .slice b lb capb] 55)).alloc (.cells #[.int .u64 0, .slice none 0 0] 55)) := (((Below.refl _ _).alloc (Nat.le_refl _) _).alloc (by simp) _).alloc (by simp; omega) _
  have HA0 := Lib.hid hfa; have HBB0 := Lib.hid hfb
  have HA := Lib.hid (hfa.below hB0); have HB := Lib.hid (hfb.below hB0); have HLA := Lib.hid hla; have HLB := Lib.hid hlb
  obtain ⟨t0, t1, t2⟩ := three_boxes w #[.int .u64 (ga : Int), .slice a la capa] #[.int .u64 (gb : Int), .slice b lb capb] #[.int .u64 0, .slice none 0 0] 55
  have T0 := Lib.hid t0; have T1 := Lib.hid t1; have T2 := Lib.hid t2
  have hga := hfa.gen; have hgb := hfb.gen
  have HXA := Lib.hid hfa.all; have HYA := Lib.hid hfb.all
  have HXL := Lib.hid hfa.len
  have HE := Lib.hid he
  by_cases h0 : e0 = 0
  · subst h0
    obtain ⟨m, rfl, hm, hxm, hym⟩ := bothE_len he
    obtain rfl : m = la := by omega
    obtain rfl : m = lb := by omega
    obtain rfl : ga ||| gb = g := by rw [← hg, combG, if_pos he]
    have HZ : Hid (canonL (ga ||| gb) (orL xs ys) = zs) := by show _ = _; rw [← hz, combV, if_pos he]
    have HOL : Hid ((orL xs ys).length = m) := by show _ = _; rw [orL_len (by omega)]; exact hla
    have hgg := or64 hga hgb
    obtain ⟨gg, hggq⟩ : ∃ gg, ga ||| gb = gg := ⟨_, rfl⟩
    have HGQ := Lib.hid hggq
    rw [hggq] at hgg HZ ⊢
    obtain ⟨i0, hi, hz0, hz1, hz2⟩ := info_parts infoU
    clear hfa hfb he hg hz hla hlb t0 t1 t2 hxm hym hggq
    go_enter Tryd.func49, Tryd.ntmps49
    go_wp2_with fail
    refine (twoR_is m a b capa capb ga gb xs ys _ HA.out HB.out 0 HE.out m m HLA.out HLB.out).mono ?_
    rintro e w1 ⟨rfl, hb1⟩
    have hB1 := hB0.trans (hb1.mono hB0.size)
    have U0 := Lib.hid (heap_old T0.out hb1); have U1 := Lib.hid (heap_old T1.out hb1); have U2 := Lib.hid (heap_old T2.out hb1)
    obtain ⟨c0, c1, _⟩ := two_cells U0.out
    obtain ⟨k0, k1, _⟩ := two_cells U1.out
    go_wp2_with fail
    refine (or_is ga gb gg hga hgb HGQ.out _).mono ?_
    rintro e w2 ⟨rfl, rfl⟩
    have hw1 : w.heap.size + 1 + 1 < w1.heap.size := (Array.getElem?_eq_some_iff.1 U2.out).1
    have UF := Lib.hid (heapV_new w1 (.cells #[.int .u64 (gg : Int), .slice none 0 0] 55))
    have K0 : Hid (KeepK w (w1.alloc (.cells #[.int .u64 (gg : Int), .slice none 0 0] 55)) w.heap.size (w.heap.size + 1) #[.int .u64 (ga : Int), .slice a m capa] #[.int .u64 (gb : Int), .slice b m capb]) := KeepK.alloc ⟨U0.out, U1.out, hB1⟩ _
    have S0 := Lib.hid (heap_allocd U2.out (.cells #[.int .u64 (gg : Int), .slice none 0 0] 55))
    obtain ⟨F, hF⟩ : ∃ F, w1.heap.size = F := ⟨_, rfl⟩
    have HFL : Hid ((w1.alloc (.cells #[.int .u64 (gg : Int), .slice none 0 0] 55)).heap.size = F + 1) := by show _ = _; rw [World.size_alloc, hF]
    rw [hF] at UF hw1
    clear c0 c1 k0 k1
    go_wp2_with fail
    go_loopw [10] (fun i wr => ∃ (k : Nat) (v : Value), k ≤ m ∧ i = .int .i64 k ∧ Hid (KeepK w wr w.heap.size (w.heap.size + 1) #[.int .u64 (ga : Int), .slice a m capa] #[.int .u64 (gb : Int), .slice b m capb]) ∧ Hid (wr.heap[w.heap.size + 1 + 1]? = some (.cells #[.int .u64 0, .slice none 0 0] 55 (0, 0))) ∧ Hid (wr.heap[F]? = some (.cells #[.int .u64 (gg : Int), v] 55 (0, 0))) ∧ Hid (wr.ownsRow F 23 1 v k (u64s ((orL xs ys).take k))) ∧ F ≤ wr.heap.size) (fun i _ => m - (intOf i).toNat)
    case atStart => exact ⟨0, .slice none 0 0, Nat.zero_le _, rfl, K0, S0, UF, World.ownsRow_nil _ _ _ _, by have := HFL.out; omega⟩
    case round =>
      obtain ⟨k, v, hk, rfl, K, R2, RF, HO, hFw⟩ := hrel
      obtain ⟨f0, f1, ff⟩ := two_cells RF.out
      have ff1 := ff 1
      by_cases hlt : k < m
      · obtain ⟨ba, offa, x, rfl, hx, hx64, hba, a0⟩ := HA0.out.at_ (i := k) (by rw [HLA.out]; exact hlt)
        obtain ⟨bb, offb, y, rfl, hy, hy64, hbb, b0⟩ := HBB0.out.at_ (i := k) (by rw [HLB.out]; exact hlt)
        obtain ⟨q, hq⟩ : ∃ q, x ||| y = q := ⟨_, rfl⟩
        have HQ := Lib.hid hq
        have HT := Lib.hid (orL_take hx hy hq)
        have A0 := Lib.hid a0; have B0 := Lib.hid b0
        have g0 : (0 : Int) ≤ (k : Int) := by omega
        have g1 : (k : Int) < (m : Int) := by omega
        have q1 : (wr.alloc (.cells #[.int .u64 (q : Int)] 23)).cell? ⟨F, 1, none⟩ = some v := (two_cells (heap_allocd RF.out _)).2.1
        have KA := Lib.hid (K.out.drew.alloc (.cells #[.int .u64 (q : Int)] 23))
        obtain ⟨s1, s2, s3, s4⟩ := K.out.cells a0 b0
        clear hx hy hq ff a0 b0
        go_wp2_with fail
        go_region_law (first | (refine step_append_lies (wr.drew.alloc (.cells #[.int .u64 (q : Int)] 23)) ?_ (.tmp 31) (.tmp 43) 53 ?_ F 23 i0 _ 1 8 Tryd.underlying53 hi hz0 hz1 hz2 ?_ ?_ v k (u64s ((orL xs ys).take k)) ?_ ?_ ⟨wr.heap.size, 0, none⟩ 1 1 [.int .u64 (q : Int)] ?_ ?_ ?_ ?_ ?_ ?_ ?_ ?_ (wr.heap.size + 1) ?_ ?_; rfl; rfl; rfl; omega; rfl; exact (HO.out : (wr.drew).ownsRow _ _ _ _ _ _).alloc _; rfl; rfl; exact (World.news_of_block (cs := #[.int .u64 (q : Int)]) (t := 23) (fr := (0, 0)) (heapV_new wr.drew _)); simp [Value.oneCell']; omega; (unfold maxLen; omega); omega; (simp; omega); simp; intro gg9 cp w5 hown1 hgrow hat hlt5; have HOA := Lib.hid ((HO.out : (wr.drew).ownsRow _ _ _ _ _ _).alloc (.cells #[.int .u64 (q : Int)] 23)); have K5 := Lib.hid (KA.out.grown HOA.out (by omega) hgrow); have D2 := Lib.hid (heap_grown (heap_allocd (w := wr.drew) R2.out (.cells #[.int .u64 (q : Int)] 23)) (by decide) HOA.out hgrow); have DF := Lib.hid (heap_grown (heap_allocd (w := wr.drew) RF.out (.cells #[.int .u64 (q : Int)] 23)) (by decide) HOA.out hgrow); have hs5 := hgrow.size; obtain ⟨_, d1, df⟩ := two_cells DF.out; have df1 := df 1; clear df) | (go_simp; go_at_call 77; refine (or_is x y q hx64 hy64 HQ.out _).mono ?_; rintro e w3 ⟨rfl, rfl⟩) | fail)
        all_goals
          have hsl : Hid (F ≤ w5.heap.size) := by show _ ≤ _; simp at hs5; omega
          have HO5 := Lib.hid (show (w5.setCell ⟨F, 1, none⟩ (.slice (some ⟨gg9, 0, none⟩) (k + 1) cp)).ownsRow F 23 1 (.slice (some ⟨gg9, 0, none⟩) (k + 1) cp) (k + 1) (u64s ((orL xs ys).take (k + 1))) by
            rw [HT.out, u64s_snoc]; exact hown1.kept (grownBy_set w5 _ _ _) (.inr (not_row DF.out (by decide) hown1).symm))
          have N2 := Lib.hid (heap_other (B := F) (j := 1) (c := .slice (some ⟨gg9, 0, none⟩) (k + 1) cp) D2.out (by omega))
          have NF := Lib.hid (two_set1 (c := .slice (some ⟨gg9, 0, none⟩) (k + 1) cp) DF.out)
          have NK := Lib.hid (K5.out.set (F := F) (j := 1) (by omega) (by omega) (by omega) (.slice (some ⟨gg9, 0, none⟩) (k + 1) cp))
          clear hown1 hgrow hat d1 df1 q1 s1 s2 s3 s4 f0 f1 ff1 hs5
          go_wp2
          go_roundw
          case rel => exact ⟨k + 1, _, by omega, by go_num, NK, N2, NF, HO5, by have := hsl.out; simpa [World.setCell] using this⟩
          case measure => simp [intOf]; omega
      · obtain rfl : k = m := by omega
        have HO2 : Hid (wr.ownsRow F 23 1 v k (u64s (orL xs ys))) := by
          have := HO.out
          rwa [List.take_of_length_le (by rw [HOL.out]; exact Nat.le_refl _)] at this
        obtain ⟨hvn, a3, cap3, hv3, hr3, hf3⟩ := VRow.of_own HO2.out
        have hol : (u64s (orL xs ys)).length = k := hvn.symm
        rw [hol] at hv3
        subst hv3
        have holn : (orL xs ys).length = k := by rw [← hol, u64s_length]
        have hfat : FAt wr a3 gg (orL xs ys) := ⟨hr3, hgg, orL_lt HXA.out HYA.out, by rw [holn, ← HLA.out]; exact HXL.out⟩
        have can : ∀ (W : World), FAt W a3 gg (orL xs ys) → Calls Tryd.prog 76 #[.agg #[.int .u64 (gg : Int), .slice a3 k cap3]] W (FOne gg zs W) := fun W hW => by
          have := canonR_is a3 cap3 gg (orL xs ys) W hW zs HZ.out
          rwa [holn] at this
        have HCAN := Lib.hid can; have HFAT := Lib.hid hfat
        have hrel := K.out.below
        have hsz : w.heap.size ≤ wr.heap.size := hrel.size
        have R3 := R2
        clear hvn hr3 hf3 hol holn hfat can ff ff1
        go_wp2_with fail
        refine (HCAN.out _ HFAT.out).mono ?_
        rintro e w4 ⟨a4, cap4, rfl, hr4, hf4, hb4⟩
        unfold fval
        have hB4 := hrel.trans (hb4.mono hrel.size)
        have U4 := Lib.hid (heap_old R3.out hb4)
        obtain ⟨k0, k1, df⟩ := two_cells U4.out
        have y0 := df 0; have y1 := df 1
        have N1 := Lib.hid (two_set1 (c := .slice a4 zs.length cap4) (two_set0 (c := .int .u64 (gg : Int)) U4.out))
        obtain ⟨s0, s1, _⟩ := two_cells N1.out
        have hne : ∀ ad, a4 = some ad → ad.block ≠ w.heap.size + 1 + 1 := fun ad e => by
          have h1 := (hf4 ad e).1
          omega
        have NR := Lib.hid (vrow_set (vrow_set hr4 (B := w.heap.size + 1 + 1) (j := 0) (v := .int .u64 (gg : Int)) hne) (B := w.heap.size + 1 + 1) (j := 1) (v := .slice a4 zs.length cap4) hne)
        have HF4 := Lib.hid hf4
        clear df hr4 hf4 hne
        go_wp2
        refine bodyPost_ret (v := .tuple #[.agg #[.int .u64 (gg : Int), .slice a4 zs.length cap4], .int .i64 0]) ?_ rfl ⟨a4, cap4, rfl, NR.out, fun ad e => ⟨Nat.le_trans hsz (HF4.out ad e).1, by simpa [World.setCell] using (HF4.out ad e).2⟩, (hB4.setCell (p := ⟨w.heap.size + 1 + 1, 0, none⟩) (by simp; omega) _).setCell (p := ⟨w.heap.size + 1 + 1, 1, none⟩) (by simp; omega) _⟩
        simp [results, Tryd.results49, go_sem, s0, s1]
  · obtain rfl : 0 = g := by rw [← hg, combG, he, if_neg h0]
    obtain rfl : [] = zs := by rw [← hz, combV, he, if_neg h0]
    have hne : (e0 != 0) = true := by simpa using h0
    clear hfa hfb he hg hz hla hlb t0 t1 t2 h0
    go_enter Tryd.func49, Tryd.ntmps49
    go_wp2_with fail
    refine (twoR_is n a b capa capb ga gb xs ys _ HA.out HB.out e0 HE.out la lb HLA.out HLB.out).mono ?_
    rintro e w1 ⟨rfl, hb1⟩
    have hB1 := hB0.trans (hb1.mono hB0.size)
    have U2 := Lib.hid (heap_old T2.out hb1)
    obtain ⟨d0, d1, df⟩ := two_cells U2.out
    have f0 := df 0; have f1 := df 1
    have N1 := Lib.hid (two_set1 (c := .slice none 0 0) (two_set0 (c := .int .u64 0) U2.out))
    obtain ⟨s0, s1, _⟩ := two_cells N1.out
    clear df
    go_wp2
    refine bodyPost_ret (v := .tuple #[.agg #[.int .u64 0, .slice none 0 0], .int .i64 e0]) ?_ rfl (fret_nil e0 ((hB1.setCell (p := ⟨w.heap.size + 1 + 1, 0, none⟩) (by simp; omega) _).setCell (p := ⟨w.heap.size + 1 + 1, 1, none⟩) (by simp; omega) _))
    simp [results, Tryd.results49, go_sem, s0, s1]
end Go.Proofs.YtdaijibkafepcaaDoor
