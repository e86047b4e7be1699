/-
  THE FACTS LAYER: Canon of the reference; One of both.
-/
import Derived.Test.YtdaijibkafepcaaDoorFactsCanonA
namespace Go.Proofs.YtdaijibkafepcaaDoor
open Go.RowKit
set_option linter.unusedVariables false

set_option maxRecDepth 100000 in
set_option maxHeartbeats 2000000 in
theorem canonRR_is (n : Int) (a : Option Addr) (cap gen : Nat) (rows : List Nat) (w : World) (hf : FAt w a gen rows) (e0 : Int) (he : shapedE n gen rows = e0) (g : Nat) (hg : canonG n gen rows = g) (ys : List Nat) (hys : canonV n gen rows = ys) (len : Nat) (hl : rows.length = len) :
    Calls Tryd.prog 38 #[.int .i64 n, fval gen a len cap] w (FRet g ys e0 w) := by
  unfold fval
  have hB0 : Below w.heap.size w ((w.alloc (.cells #[.int .u64 (gen : Int), .slice a len cap] 55)).alloc (.cells #[.int .u64 0, .slice none 0 0] 55)) := ((Below.refl _ _).alloc (Nat.le_refl _) _).alloc (by simp) _
  have HF := Lib.hid (hf.below hB0)
  obtain ⟨t0, t1⟩ := two_boxes w #[.int .u64 (gen : Int), .slice a len cap] #[.int .u64 0, .slice none 0 0] 55
  have T0 := Lib.hid t0; have T1 := Lib.hid t1
  cases hd : dimB n
  · obtain rfl : 31 = e0 := by rw [← he, shapedE, hd]; rfl
    obtain rfl : 0 = g := by rw [← hg, canonG, he]; rfl
    obtain rfl : [] = ys := by rw [← hys, canonV, he]; rfl
    have HD := Lib.hid hd
    obtain ⟨d0, d1, df⟩ := two_cells T1.out
    have f0 := df 0; have f1 := df 1
    have N1 := Lib.hid (two_set1 (c := .slice none 0 0) (two_set0 (c := .int .u64 0) T1.out))
    obtain ⟨s0, s1, _⟩ := two_cells N1.out
    clear df hd hf he hg hys hl t0 t1
    go_enter Tryd.func38, Tryd.ntmps38
    go_wp2_with fail
    refine (dim_is n false HD.out _).mono ?_
    rintro e w1 ⟨rfl, rfl⟩
    go_wp2
    refine bodyPost_ret (v := .tuple #[.agg #[.int .u64 0, .slice none 0 0], .int .i64 31]) ?_ rfl (fret_nil 31 hB0)
    simp [results, Tryd.results38, go_sem, d0, d1]
  · have HD := Lib.hid hd
    obtain ⟨m, rfl, hm⟩ := dim_nat hd
    have hS : shapedE m gen rows = if shapeB m gen rows = true then 0 else 30 := by rw [shapedE, hd, if_pos rfl, Int.toNat_natCast]
    have shp : ∀ (W : World) (b : Bool), shapeB m gen rows = b → FAt W a gen rows → Calls Tryd.prog 75 #[.int .i64 m, .agg #[.int .u64 (gen : Int), .slice a len cap]] W fun e w' => e = .returned (.bool b) ∧ Below W.heap.size W w' := fun W b hb hW => by
      have := shape_is m hm a cap gen rows W hW b hb
      rwa [hl] at this
    have HSHP := Lib.hid shp
    cases hsh : shapeB m gen rows
    · obtain rfl : 30 = e0 := by rw [← he, hS, hsh]; rfl
      obtain rfl : 0 = g := by rw [← hg, canonG, he]; rfl
      obtain rfl : [] = ys := by rw [← hys, canonV, he]; rfl
      have HSH := Lib.hid hsh
      clear hd hf he hg hys hl t0 t1 shp hS hsh
      go_enter Tryd.func38, Tryd.ntmps38
      go_wp2_with fail
      refine (dim_is m true HD.out _).mono ?_
      rintro e w1 ⟨rfl, rfl⟩
      go_wp2_with fail
      refine (HSHP.out _ false HSH.out HF.out).mono ?_
      rintro e w1 ⟨rfl, hb1⟩
      have hB1 := hB0.trans (hb1.mono hB0.size)
      have U1 := Lib.hid (heap_old T1.out hb1)
      obtain ⟨d0, d1, df⟩ := two_cells U1.out
      have f0 := df 0; have f1 := df 1
      have N1 := Lib.hid (two_set1 (c := .slice none 0 0) (two_set0 (c := .int .u64 0) U1.out))
      obtain ⟨s0, s1, _⟩ := two_cells N1.out
      clear df
      go_wp2
      refine bodyPost_ret (v := .tuple #[.agg #[.int .u64 0, .slice none 0 0], .int .i64 30]) ?_ rfl (fret_nil 30 ((hB1.setCell (p := ⟨w.heap.size + 1, 0, none⟩) (by simp) _).setCell (p := ⟨w.heap.size + 1, 1, none⟩) (by simp) _))
      simp [results, Tryd.results38, go_sem, s0, s1]
    · obtain rfl : 0 = e0 := by rw [← he, hS, hsh]; rfl
      obtain rfl : gen = g := by rw [← hg, canonG, if_pos he]
      have HY : Hid (canonL gen rows = ys) := by show _ = _; rw [← hys, canonV, if_pos he]
      have HSH := Lib.hid hsh
      have can : ∀ (W : World), FAt W a gen rows → Calls Tryd.prog 76 #[.agg #[.int .u64 (gen : Int), .slice a len cap]] W (FOne gen ys W) := fun W hW => by
        have := canonR_is a cap gen rows W hW ys HY.out
        rwa [hl] at this
      have HCAN := Lib.hid can
      clear hd hf he hg hys hl t0 t1 shp hS hsh can
      go_enter Tryd.func38, Tryd.ntmps38
      go_wp2_with fail
      refine (dim_is m true HD.out _).mono ?_
      rintro e w1 ⟨rfl, rfl⟩
      go_wp2_with fail
      refine (HSHP.out _ true HSH.out HF.out).mono ?_
      rintro e w1 ⟨rfl, hb1⟩
      have hB1 := hB0.trans (hb1.mono hB0.size)
      have U0 := Lib.hid (heap_old T0.out hb1)
      obtain ⟨d0, d1, _⟩ := two_cells U0.out
      go_wp2_with fail
      refine (HCAN.out _ (HF.out.below hb1)).mono ?_
      rintro e w2 ⟨a2, cap2, rfl, hr2, hf2, hb2⟩
      unfold fval
      have hB2 := hB1.trans (hb2.mono hB1.size)
      have U1 := Lib.hid (heap_old (heap_old T1.out hb1) hb2)
      obtain ⟨k0, k1, df⟩ := two_cells U1.out
      have f0 := df 0; have f1 := df 1
      have N1 := Lib.hid (two_set1 (c := .slice a2 ys.length cap2) (two_set0 (c := .int .u64 (gen : Int)) U1.out))
      obtain ⟨s0, s1, _⟩ := two_cells N1.out
      have hne : ∀ ad, a2 = some ad → ad.block ≠ w.heap.size + 1 := fun ad e => by
        have h1 := (hf2 ad e).1
        have h2 := hb1.size
        simp at h2
        omega
      have NR := Lib.hid (vrow_set (vrow_set hr2 (B := w.heap.size + 1) (j := 0) (v := .int .u64 (gen : Int)) hne) (B := w.heap.size + 1) (j := 1) (v := .slice a2 ys.length cap2) hne)
      have HF2 := Lib.hid hf2
      have hsz := hB1.size
      clear df hr2 hf2 hne
      go_wp2
      refine bodyPost_ret (v := .tuple #[.agg #[.int .u64 (gen : Int), .slice a2 ys.length cap2], .int .i64 0]) ?_ rfl ⟨a2, cap2, rfl, NR.out, fun ad e => ⟨Nat.le_trans hsz (HF2.out ad e).1, by simpa [World.setCell] using (HF2.out ad e).2⟩, (hB2.setCell (p := ⟨w.heap.size + 1, 0, none⟩) (by simp) _).setCell (p := ⟨w.heap.size + 1, 1, none⟩) (by simp) _⟩
      simp [results, Tryd.results38, go_sem, s0, s1]
end Go.Proofs.YtdaijibkafepcaaDoor
