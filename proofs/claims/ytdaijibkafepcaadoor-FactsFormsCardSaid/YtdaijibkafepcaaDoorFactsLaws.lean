/-
  THE FACTS LAYER: the laws' own helpers (cut, alive, combine, extend).
-/
import Derived.Test.YtdaijibkafepcaaDoorFactsBelow
import Derived.Test.YtdaijibkafepcaaDoorFactsSetR
namespace Go.Proofs.YtdaijibkafepcaaDoor
open Go.RowKit
set_option linter.unusedVariables false

/-- Rows of any number, as a caller hands them in. -/
structure IsF (w : World) (gen : Nat) (a : Option Addr) (len cap : Nat) (rows : List Nat) : Prop where
  hrow : VRow w a (u64s rows)
  hgen : gen < 18446744073709551616
  hall : ∀ r ∈ rows, r < 18446744073709551616
  hlen : rows.length = len
  hcap : len ≤ cap ∧ cap ≤ maxLen
theorem vrow_take {w : World} {a : Option Addr} {vs : List Value} (h : VRow w a vs) (n : Nat) : VRow w a (vs.take n) := by
  rcases h with rfl | ⟨b, off, ha, hc⟩
  · exact .inl (by simp)
  · refine .inr ⟨b, off, ha, fun i v hi => ?_⟩
    rw [List.getElem?_take] at hi
    split at hi
    · exact hc i v hi
    · cases hi
theorem IsF.some_ {w : World} {gen len cap : Nat} {a : Option Addr} {rows : List Nat} (h : IsF w gen a len cap rows) (h0 : 0 < len) : ∃ b off, a = some ⟨b, off, none⟩ := by
  rcases h.hrow with h1 | ⟨b, off, ha, _⟩
  · have h2 : (u64s rows).length = 0 := by rw [h1]; rfl
    rw [u64s_length, h.hlen] at h2; omega
  · exact ⟨b, off, ha⟩
theorem IsF.fat {w : World} {gen len cap : Nat} {a : Option Addr} {rows : List Nat} (h : IsF w gen a len cap rows) : FAt w a gen (rows.take 100) :=
  ⟨by have := vrow_take h.hrow 100; unfold u64s at *; rwa [← List.map_take] at this, h.hgen, fun r hr => h.hall r (List.mem_of_mem_take hr), by rw [List.length_take]; omega⟩
theorem IsF.cutlen {w : World} {gen len cap : Nat} {a : Option Addr} {rows : List Nat} (h : IsF w gen a len cap rows) : (rows.take 100).length = min 100 len := by rw [List.length_take, h.hlen]
set_option maxRecDepth 100000 in
set_option maxHeartbeats 1000000 in
theorem cut_is (gen : Nat) (a : Option Addr) (len cap : Nat) (hcap : len ≤ cap ∧ cap ≤ maxLen) (ha : 0 < len → ∃ b off, a = some ⟨b, off, none⟩) (lc : Nat) (hlc : min 100 len = lc) (w : World) :
    Calls Tryd.prog 36 #[fval gen a len cap] w fun e w' => e = .returned (.agg #[.int .u64 (gen : Int), .slice a lc cap]) ∧ Below w.heap.size w w' := by
  unfold fval
  obtain ⟨h1, h2⟩ := hcap
  unfold maxLen at h2
  have hB0 : Below w.heap.size w ((w.alloc (.cells #[.int .u64 (gen : Int), .slice a len cap] 55)).alloc (.cells #[.int .u64 0, .slice none 0 0] 55)) := ((Below.refl _ _).alloc (Nat.le_refl _) _).alloc (by simp) _
  obtain ⟨t0, t1⟩ := two_boxes w #[.int .u64 (gen : Int), .slice a len cap] #[.int .u64 0, .slice none 0 0] 55
  by_cases hl : 100 < len
  · obtain ⟨b, off, rfl⟩ := ha (by omega)
    obtain rfl : 100 = lc := by omega
    have g0 : (100 : Int) < (len : Int) := by omega
    have g1 : (len : Int) ≤ (cap : Int) := by omega
    obtain ⟨c0, c1, cf⟩ := two_cells t0
    have cf1 := cf 1
    have N1 := Lib.hid (two_boxes w #[.int .u64 (gen : Int), .slice (some ⟨b, off, none⟩) 100 cap] #[.int .u64 (gen : Int), .slice (some ⟨b, off, none⟩) 100 cap] 55).2
    obtain ⟨n0, n1, _⟩ := two_cells N1.out
    clear cf t0 t1
    go_enter Tryd.func36, Tryd.ntmps36
    go_wp2
    refine bodyPost_ret (v := .agg #[.int .u64 (gen : Int), .slice (some ⟨b, off, none⟩) 100 cap]) ?_ rfl ⟨rfl, ((Below.refl _ _).alloc (Nat.le_refl _) _).alloc (by simp) _⟩
    simp [results, Tryd.results36, go_sem, n0, n1]
  · obtain rfl : len = lc := by omega
    have N1 := Lib.hid (two_boxes w #[.int .u64 (gen : Int), .slice a len cap] #[.int .u64 (gen : Int), .slice a len cap] 55).2
    obtain ⟨n0, n1, _⟩ := two_cells N1.out
    obtain ⟨c0, c1, cf⟩ := two_cells t0
    clear cf t0 t1
    go_enter Tryd.func36, Tryd.ntmps36
    go_wp2
    refine bodyPost_ret (v := .agg #[.int .u64 (gen : Int), .slice a len cap]) ?_ rfl ⟨rfl, ((Below.refl _ _).alloc (Nat.le_refl _) _).alloc (by simp) _⟩
    simp [results, Tryd.results36, go_sem, n0, n1]

theorem box_new {w : World} (o : Obj) : Below w.heap.size w (w.alloc o) := (Below.refl _ _).alloc (Nat.le_refl _) _
theorem fat03 {w : World} {a : Option Addr} (h : VRow w a (u64s [0, 3])) : FAt w a 0 [0, 3] := ⟨h, by decide, by intro r hr; simp at hr; omega, by decide⟩
set_option maxRecDepth 100000 in
set_option maxHeartbeats 1000000 in
theorem alive_any (w : World) (ht : TabC w) : Calls Tryd.prog 47 #[] w fun e w' => e = .returned (.bool true) ∧ Below w.heap.size w w' := by
  have HT := Lib.hid ht
  clear ht
  go_enter Tryd.func47, Tryd.ntmps47
  go_wp2_with fail
  refine (setA_is 2 0 1 _ 0 (by decide) 0 (by decide) [0, 3] (by decide +kernel)).mono ?_
  rintro e w1 ⟨a1, cap1, rfl, hr1, hf1, hb1⟩
  have HR1 := Lib.hid hr1
  have UB := Lib.hid (heapV_new w1 (.cells #[.int .u64 0, .slice a1 2 cap1] 55))
  have hn1 := box_new (w := w1) (.cells #[.int .u64 0, .slice a1 2 cap1] 55)
  obtain ⟨W1, hW1⟩ : ∃ W, w1.alloc (.cells #[.int .u64 0, .slice a1 2 cap1] 55) = W := ⟨_, rfl⟩
  rw [hW1] at UB hn1
  have hB1 := hb1.trans (hn1.mono hb1.size)
  have HF := Lib.hid (fat03 (VRow.below HR1.out hn1))
  obtain ⟨c0, c1, _⟩ := two_cells UB.out
  clear hr1 hf1
  go_wp2_with fail
  refine (applyA_is 2 a1 cap1 0 [0, 3] 2 (by decide) _ HF.out (HT.out.below hB1) 0 (by decide +kernel) 3 (by decide +kernel) 2 rfl).mono ?_
  rintro e w2 ⟨rfl, hb2⟩
  have hB2 := hB1.trans (hb2.mono hB1.size)
  obtain ⟨d0, d1, _⟩ := two_cells (heap_old UB.out hb2)
  go_wp2_with fail
  refine (applyA_is 2 a1 cap1 0 [0, 3] 1 (by decide) _ (HF.out.below hb2) (HT.out.below hB2) 0 (by decide +kernel) 0 (by decide +kernel) 2 rfl).mono ?_
  rintro e w3 ⟨rfl, hb3⟩
  go_wp2
  go_ret
  exact ⟨rfl, hB2.trans (hb3.mono hB2.size)⟩

set_option maxRecDepth 100000 in
set_option maxHeartbeats 1000000 in
theorem combine_is (n : Int) (a b : Option Addr) (capa capb ga gb : Nat) (xs ys : List Nat) (w : World) (hfa : FAt w a ga xs) (hfb : FAt w b gb ys) (g : Nat) (hg : combG n ga xs gb ys = g) (zs : List Nat) (hz : combV n ga xs gb ys = zs) (la lb : Nat) (hla : xs.length = la) (hlb : ys.length = lb) :
    Calls Tryd.prog 57 #[.int .i64 n, fval ga a la capa, fval gb b lb capb] w (FOne g zs w) := by
  obtain ⟨e0, he⟩ : ∃ e0, bothE n ga xs gb ys = e0 := ⟨_, rfl⟩
  unfold fval
  have hB0 : Below w.heap.size w (((w.alloc (.cells #[.int .u64 (ga : Int), .slice a la capa] 55)).alloc (.cells #[.int .u64 (gb : Int), .slice b lb capb] 55)).alloc (.cells #[.int .u64 0, .slice none 0 0] 55)) := (((Below.refl _ _).alloc (Nat.le_refl _) _).alloc (by simp) _).alloc (by simp; omega) _
  have HA := Lib.hid (hfa.below hB0); have HB := Lib.hid (hfb.below hB0); have HLA := Lib.hid hla; have HLB := Lib.hid hlb
  have HE := Lib.hid he; have HG := Lib.hid hg; have HZ := Lib.hid hz
  obtain ⟨lz, hlz⟩ : ∃ lz, zs.length = lz := ⟨_, rfl⟩
  have HLZ := Lib.hid hlz
  obtain ⟨t0, t1, t2⟩ := three_boxes w #[.int .u64 (ga : Int), .slice a la capa] #[.int .u64 (gb : Int), .slice b lb capb] #[.int .u64 0, .slice none 0 0] 55
  have T2 := Lib.hid t2
  clear hfa hfb he hg hz hla hlb t0 t1 t2 hlz
  go_enter Tryd.func57, Tryd.ntmps57
  go_wp2_with fail
  refine (combA_is n a b capa capb ga gb xs ys _ HA.out HB.out e0 HE.out g HG.out zs HZ.out la lb HLA.out HLB.out).mono ?_
  rintro e w1 ⟨a1, cap1, rfl, hr1, hf1, hb1⟩
  rw [HLZ.out]
  have hB1 := hB0.trans (hb1.mono hB0.size)
  have U2 := Lib.hid (heap_allocd (heap_old T2.out hb1) (.cells #[.int .u64 (g : Int), .slice a1 lz cap1] 55))
  have UB := Lib.hid (heapV_new w1 (.cells #[.int .u64 (g : Int), .slice a1 lz cap1] 55))
  have hn1 := box_new (w := w1) (.cells #[.int .u64 (g : Int), .slice a1 lz cap1] 55)
  have hlt : w.heap.size + 1 + 1 < w1.heap.size := (Array.getElem?_eq_some_iff.1 (heap_old T2.out hb1)).1
  obtain ⟨W1, hW1⟩ : ∃ W, w1.alloc (.cells #[.int .u64 (g : Int), .slice a1 lz cap1] 55) = W := ⟨_, rfl⟩
  rw [hW1] at U2 UB hn1
  have HR1 := Lib.hid (VRow.below hr1 hn1)
  have hB2 := hB1.trans (hn1.mono hB1.size)
  obtain ⟨c0, c1, _⟩ := two_cells UB.out
  obtain ⟨k0, k1, kf⟩ := two_cells U2.out
  have f0 := kf 0; have f1 := kf 1
  have N1 := Lib.hid (two_set1 (c := .slice a1 lz cap1) (two_set0 (c := .int .u64 (g : Int)) U2.out))
  obtain ⟨s0, s1, _⟩ := two_cells N1.out
  have hne : ∀ ad, a1 = some ad → ad.block ≠ w.heap.size + 1 + 1 := fun ad e => by
    have h1 := (hf1 ad e).1
    simp at h1
    omega
  have NR := Lib.hid (vrow_set (vrow_set HR1.out (B := w.heap.size + 1 + 1) (j := 0) (v := .int .u64 (g : Int)) hne) (B := w.heap.size + 1 + 1) (j := 1) (v := .slice a1 lz cap1) hne)
  have HF1 := Lib.hid hf1
  have hsz := hB0.size
  have hsn := hn1.size
  clear kf hr1 hf1 hne
  go_wp2
  refine bodyPost_ret (v := .agg #[.int .u64 (g : Int), .slice a1 lz cap1]) ?_ rfl ⟨a1, cap1, by rw [fval, HLZ.out], NR.out, fun ad e => ⟨Nat.le_trans hsz (HF1.out ad e).1, by have := Nat.lt_of_lt_of_le (HF1.out ad e).2 hsn; simpa [World.setCell] using this⟩, (hB2.setCell (p := ⟨w.heap.size + 1 + 1, 0, none⟩) (by simp; omega) _).setCell (p := ⟨w.heap.size + 1 + 1, 1, none⟩) (by simp; omega) _⟩
  simp [results, Tryd.results57, go_sem, s0, s1]
set_option maxRecDepth 100000 in
set_option maxHeartbeats 1000000 in
theorem extend_is (n : Int) (a b : Option Addr) (capa capb ga gb : Nat) (xs ys : List Nat) (w : World) (hfa : FAt w a ga xs) (hfb : FAt w b gb ys) (ht : TabC w) (g : Nat) (hg : extG n ga xs gb ys = g) (zs : List Nat) (hz : extV n ga xs gb ys = zs) (la lb : Nat) (hla : xs.length = la) (hlb : ys.length = lb) :
    Calls Tryd.prog 58 #[.int .i64 n, fval ga a la capa, fval gb b lb capb] w (FOne g zs w) := by
  obtain ⟨e0, he⟩ : ∃ e0, bothE n ga xs gb ys = e0 := ⟨_, rfl⟩
  unfold fval
  have hB0 : Below w.heap.size w (((w.alloc (.cells #[.int .u64 (ga : Int), .slice a la capa] 55)).alloc (.cells #[.int .u64 (gb : Int), .slice b lb capb] 55)).alloc (.cells #[.int .u64 0, .slice none 0 0] 55)) := (((Below.refl _ _).alloc (Nat.le_refl _) _).alloc (by simp) _).alloc (by simp; omega) _
  have HT := Lib.hid (ht.below hB0); have HA := Lib.hid (hfa.below hB0); have HB := Lib.hid (hfb.below hB0); have HLA := Lib.hid hla; have HLB := Lib.hid hlb
  have HE := Lib.hid he; have HG := Lib.hid hg; have HZ := Lib.hid hz
  obtain ⟨lz, hlz⟩ : ∃ lz, zs.length = lz := ⟨_, rfl⟩
  have HLZ := Lib.hid hlz
  obtain ⟨t0, t1, t2⟩ := three_boxes w #[.int .u64 (ga : Int), .slice a la capa] #[.int .u64 (gb : Int), .slice b lb capb] #[.int .u64 0, .slice none 0 0] 55
  have T2 := Lib.hid t2
  clear hfa hfb ht he hg hz hla hlb t0 t1 t2 hlz
  go_enter Tryd.func58, Tryd.ntmps58
  go_wp2_with fail
  refine (extA_is n a b capa capb ga gb xs ys _ HA.out HB.out HT.out e0 HE.out g HG.out zs HZ.out la lb HLA.out HLB.out).mono ?_
  rintro e w1 ⟨a1, cap1, rfl, hr1, hf1, hb1⟩
  rw [HLZ.out]
  have hB1 := hB0.trans (hb1.mono hB0.size)
  have U2 := Lib.hid (heap_allocd (heap_old T2.out hb1) (.cells #[.int .u64 (g : Int), .slice a1 lz cap1] 55))
  have UB := Lib.hid (heapV_new w1 (.cells #[.int .u64 (g : Int), .slice a1 lz cap1] 55))
  have hn1 := box_new (w := w1) (.cells #[.int .u64 (g : Int), .slice a1 lz cap1] 55)
  have hlt : w.heap.size + 1 + 1 < w1.heap.size := (Array.getElem?_eq_some_iff.1 (heap_old T2.out hb1)).1
  obtain ⟨W1, hW1⟩ : ∃ W, w1.alloc (.cells #[.int .u64 (g : Int), .slice a1 lz cap1] 55) = W := ⟨_, rfl⟩
  rw [hW1] at U2 UB hn1
  have HR1 := Lib.hid (VRow.below hr1 hn1)
  have hB2 := hB1.trans (hn1.mono hB1.size)
  obtain ⟨c0, c1, _⟩ := two_cells UB.out
  obtain ⟨k0, k1, kf⟩ := two_cells U2.out
  have f0 := kf 0; have f1 := kf 1
  have N1 := Lib.hid (two_set1 (c := .slice a1 lz cap1) (two_set0 (c := .int .u64 (g : Int)) U2.out))
  obtain ⟨s0, s1, _⟩ := two_cells N1.out
  have hne : ∀ ad, a1 = some ad → ad.block ≠ w.heap.size + 1 + 1 := fun ad e => by
    have h1 := (hf1 ad e).1
    simp at h1
    omega
  have NR := Lib.hid (vrow_set (vrow_set HR1.out (B := w.heap.size + 1 + 1) (j := 0) (v := .int .u64 (g : Int)) hne) (B := w.heap.size + 1 + 1) (j := 1) (v := .slice a1 lz cap1) hne)
  have HF1 := Lib.hid hf1
  have hsz := hB0.size
  have hsn := hn1.size
  clear kf hr1 hf1 hne
  go_wp2
  refine bodyPost_ret (v := .agg #[.int .u64 (g : Int), .slice a1 lz cap1]) ?_ rfl ⟨a1, cap1, by rw [fval, HLZ.out], NR.out, fun ad e => ⟨Nat.le_trans hsz (HF1.out ad e).1, by have := Nat.lt_of_lt_of_le (HF1.out ad e).2 hsn; simpa [World.setCell] using this⟩, (hB2.setCell (p := ⟨w.heap.size + 1 + 1, 0, none⟩) (by simp; omega) _).setCell (p := ⟨w.heap.size + 1 + 1, 1, none⟩) (by simp; omega) _⟩
  simp [results, Tryd.results58, go_sem, s0, s1]
end Go.Proofs.YtdaijibkafepcaaDoor
