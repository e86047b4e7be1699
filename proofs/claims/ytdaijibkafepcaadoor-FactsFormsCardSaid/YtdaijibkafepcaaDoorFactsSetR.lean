/-
  THE FACTS LAYER: Set of the reference.
-/
import Derived.Test.YtdaijibkafepcaaDoorFactsSet
namespace Go.Proofs.YtdaijibkafepcaaDoor
open Go.RowKit
set_option linter.unusedVariables false

set_option maxRecDepth 100000 in
set_option maxHeartbeats 8000000 in
theorem setR_is (n x y : Int) (w : World) (e0 : Int) (he : setE n x y = e0) (g : Nat) (hg : setG n x y = g) (ys : List Nat) (hys : setV n x y = ys) :
    Calls Tryd.prog 42 #[.int .i64 n, .int .i64 x, .int .i64 y] w (FRet g ys e0 w) := by
  have hB0 : Below w.heap.size w (w.alloc (.cells #[.int .u64 0, .slice none 0 0] 55)) := (Below.refl _ _).alloc (Nat.le_refl _) _
  have T0 := Lib.hid (heapV_new w (.cells #[.int .u64 0, .slice none 0 0] 55))
  cases hd : dimB n
  · obtain rfl : 31 = e0 := by rw [← he, setE, hd]; rfl
    obtain rfl : 0 = g := by rw [← hg, setG, he]; simp
    obtain rfl : [] = ys := by rw [← hys, setV, he]; rfl
    have H1 : Hid (oneE n = 31) := by show _ = _; rw [oneE, hd]; rfl
    have H2 : Hid (oneV n = []) := by show _ = _; rw [oneV, hd]; rfl
    have HD := Lib.hid hd
    obtain ⟨d0, d1, df⟩ := two_cells T0.out
    have f0 := df 0; have f1 := df 1
    clear df hd he hg hys H1 H2
    go_enter Tryd.func42, Tryd.ntmps42
    go_wp2_with fail
    refine (dim_is n false HD.out _).mono ?_
    rintro e w1 ⟨rfl, rfl⟩
    go_wp2
    refine bodyPost_ret (v := .tuple #[.agg #[.int .u64 0, .slice none 0 0], .int .i64 31]) ?_ rfl (fret_nil 31 hB0)
    simp [results, Tryd.results42, go_sem, d0, d1]
  · have HD := Lib.hid hd
    obtain ⟨m, rfl, hm⟩ := dim_nat hd
    have H1 : Hid (oneE m = 0) := by show _ = _; rw [oneE, hd]; rfl
    have H2 : Hid (oneV m = onesL m) := by show _ = _; rw [oneV, hd, if_pos rfl, Int.toNat_natCast]
    have HL : Hid ((onesL m).length = m) := onesL_length m
    by_cases hok : setOk m x y = true
    · obtain rfl : 0 = e0 := by rw [← he, setE, hd, if_pos rfl, if_pos hok]
      have HV : Hid (setL m x.toNat y = ys) := by show _ = _; rw [← hys, setV, he, if_pos rfl, Int.toNat_natCast]
      have HG : Hid ((if y = -1 then 2 ^ x.toNat else 0) = g) := by show _ = _; rw [← hg, setG, he]; simp
      simp only [setOk, Bool.and_eq_true, decide_eq_true_eq] at hok
      obtain ⟨x0, x1, y0, y1⟩ := hok
      obtain ⟨i, rfl⟩ : ∃ i : Nat, x = i := ⟨x.toNat, by omega⟩
      rw [Int.toNat_natCast] at HV HG
      have hi64 : i < 64 := by omega
      have him : i < m := by omega
      have hsh : IntKind.u64.wrap ((2 : Int) ^ i) = ((2 ^ i : Nat) : Int) := by
        have hpw : 2 ^ i ≤ 9223372036854775808 := pow_lt64 (by omega)
        rw [IntKind.wrap_u64]
        have e : ((2 : Int) ^ i) = ((2 ^ i : Nat) : Int) := by simp
        rw [e]
        generalize 2 ^ i = q at *
        omega
      have hq64 : 2 ^ i < 18446744073709551616 := Nat.lt_of_le_of_lt (pow_lt64 (by omega)) (by decide)
      obtain ⟨q, hq⟩ : ∃ q : Nat, 2 ^ i = q := ⟨_, rfl⟩
      have HQ := Lib.hid hq
      rw [hq] at hsh hq64 HG
      obtain ⟨zs, hzs⟩ : ∃ zs, (onesL m).set i 0 = zs := ⟨_, rfl⟩
      have HZS := Lib.hid hzs
      have HZL : Hid (zs.length = m) := by show _ = _; rw [← hzs, List.length_set, onesL_length]
      clear hd he hg hys hq hzs
      go_enter Tryd.func42, Tryd.ntmps42
      go_wp2_with fail
      refine (dim_is m true HD.out _).mono ?_
      rintro e w1 ⟨rfl, rfl⟩
      go_wp2_with fail
      refine (oneR_is m _ 0 H1.out (onesL m) H2.out).mono ?_
      rintro e w1 ⟨v, rfl, hown, hb1⟩
      rw [HL.out] at hown
      obtain ⟨gb, capg, hv, hbg, hgl⟩ := hown.form (show 0 < m by omega)
      subst hv
      have hB1 := hB0.trans (hb1.mono hB0.size)
      have hsz1 := hb1.size
      have hbg2 : w.heap.size + 1 ≤ gb := by simpa using hbg
      have HO1 := Lib.hid (hown.alloc (.cells #[.int .u64 0, .slice (some ⟨gb, 0, none⟩) m capg] 55))
      have U0 := Lib.hid (heap_allocd (heap_old T0.out hb1) (.cells #[.int .u64 0, .slice (some ⟨gb, 0, none⟩) m capg] 55))
      have U8 := Lib.hid (heapV_new w1 (.cells #[.int .u64 0, .slice (some ⟨gb, 0, none⟩) m capg] 55))
      have hB2 := hB1.alloc hB1.size (.cells #[.int .u64 0, .slice (some ⟨gb, 0, none⟩) m capg] 55)
      have hw1 : w.heap.size + 1 ≤ w1.heap.size := by simpa using hsz1
      obtain ⟨W2, hW2⟩ : ∃ W2, w1.alloc (.cells #[.int .u64 0, .slice (some ⟨gb, 0, none⟩) m capg] 55) = W2 := ⟨_, rfl⟩
      rw [hW2] at HO1 U0 U8 hB2
      have hbs : (w.alloc (.cells #[.int .u64 0, .slice none 0 0] 55)).heap.size = w.heap.size + 1 := by simp
      rw [hbs] at HO1
      clear hown
      -- the store at x
      have q0 := HO1.out.frozenAt i
      have d0 := (HO1.out.cellAt i (by omega)).trans (u64s_get (onesL_at him))
      have HO2 : Hid ((W2.setCell ⟨gb, i, none⟩ (.int .u64 0)).ownsRow (w.heap.size + 1) 23 1 (.slice (some ⟨gb, 0, none⟩) m capg) m (u64s zs)) := by
        rw [← HZS.out, ← u64s_set]
        exact (HO1.out.stored i _).1
      have V0 := Lib.hid (heap_other (B := gb) (j := i) (c := .int .u64 0) U0.out (by omega))
      have V8 := Lib.hid (heap_other (B := gb) (j := i) (c := .int .u64 0) U8.out (by omega))
      have hB3 := hB2.setCell (p := ⟨gb, i, none⟩) (by simp; omega) (.int .u64 0)
      obtain ⟨W3, hW3⟩ : ∃ W3, W2.setCell ⟨gb, i, none⟩ (.int .u64 0) = W3 := ⟨_, rfl⟩
      rw [hW3] at HO2 V0 V8 hB3
      obtain ⟨c0, c1, _⟩ := two_cells U8.out
      obtain ⟨k0, k1, kf⟩ := two_cells V8.out
      obtain ⟨z0, z1, zf⟩ := two_cells V0.out
      have zf0 := zf 0; have zf1 := zf 1; have kf0 := kf 0
      have g0 : (0 : Int) ≤ (i : Int) := by omega
      have g1 : (i : Int) < (m : Int) := by omega
      have hg8 : ∀ j, (⟨gb, j, none⟩ : Addr).block ≠ w1.heap.size := fun j => by show gb ≠ _; exact fun e => not_row U8.out (by decide) HO1.out (by show some _ = some gb; rw [e])
      by_cases hy0 : 0 ≤ y
      · obtain ⟨j, rfl⟩ : ∃ j : Nat, y = j := ⟨y.toNat, by omega⟩
        have hjm : j < m := by omega
        obtain ⟨z, hz⟩ : ∃ z, zs[j]? = some z := ⟨zs[j]'(by rw [HZL.out]; exact hjm), by simp [HZL.out, hjm]⟩
        have hz64 : z < 18446744073709551616 := ones_set_lt hm (i := i) (j := j) (by rw [HZS.out]; exact hz)
        have hor := u64_or_nat z q hz64 hq64
        obtain ⟨r, hr⟩ : ∃ r : Nat, z ||| q = r := ⟨_, rfl⟩
        rw [hr] at hor
        have HYS : Hid (zs.set j r = ys) := by
          show _ = _
          rw [← HV.out, setL, if_pos (by omega), HZS.out, Int.toNat_natCast, hz, HQ.out, Option.getD_some, hr]
        obtain rfl : 0 = g := by rw [← HG.out, if_neg (by omega)]
        have d3 := (HO2.out.cellAt j (by omega)).trans (u64s_get hz)
        have q3 := HO2.out.frozenAt j
        have HO4 : Hid ((W3.setCell ⟨gb, j, none⟩ (.int .u64 (r : Int))).ownsRow (w.heap.size + 1) 23 1 (.slice (some ⟨gb, 0, none⟩) m capg) m (u64s ys)) := by
          rw [← HYS.out, ← u64s_set]
          exact (HO2.out.stored j _).1
        have X0 := Lib.hid (heap_other (B := gb) (j := j) (c := .int .u64 (r : Int)) V0.out (by omega))
        have X8 := Lib.hid (heap_other (B := gb) (j := j) (c := .int .u64 (r : Int)) V8.out (fun e => hg8 0 e.symm))
        have hB4 := hB3.setCell (p := ⟨gb, j, none⟩) (by simp; omega) (.int .u64 (r : Int))
        obtain ⟨W4, hW4⟩ : ∃ W4, W3.setCell ⟨gb, j, none⟩ (.int .u64 (r : Int)) = W4 := ⟨_, rfl⟩
        rw [hW4] at HO4 X0 X8 hB4
        obtain ⟨l0, l1, _⟩ := two_cells X8.out
        obtain ⟨_, _, mf⟩ := two_cells X0.out
        have mf0 := mf 0; have mf1 := mf 1
        obtain ⟨m0, m1, _⟩ := two_cells X0.out
        have N1 := Lib.hid (two_set1 (c := .slice (some ⟨gb, 0, none⟩) m capg) (two_set0 (c := .int .u64 0) X0.out))
        obtain ⟨s0, s1, _⟩ := two_cells N1.out
        have hw8 : w.heap.size ≠ gb := by omega
        have HO5 := Lib.hid ((HO4.out.kept (grownBy_set _ _ 0 (.int .u64 0)) (.inr (not_row X0.out (by decide) HO4.out).symm)).kept (grownBy_set _ w.heap.size 1 (.slice (some ⟨gb, 0, none⟩) m capg)) (.inr (not_row X0.out (by decide) HO4.out).symm))
        have HB5 := Lib.hid ((hB4.setCell (p := ⟨w.heap.size, 0, none⟩) (Nat.le_refl _) (.int .u64 0)).setCell (p := ⟨w.heap.size, 1, none⟩) (Nat.le_refl _) (.slice (some ⟨gb, 0, none⟩) m capg))
        have gj0 : (0 : Int) ≤ (j : Int) := by omega
        have gj1 : (j : Int) < (m : Int) := by omega
        have gj2 : ((j : Int) == -1) = false := by simp
        have HZQ := Lib.hid hr
        clear hz hr zf kf mf hg8 hw8
        go_wp2_with fail
        go_region_with (first | (go_at_call 62; refine (worth_at i i q rfl HQ.out (by omega) _).mono ?_; rintro e w4 ⟨rfl, rfl⟩) | (go_at_call 77; refine (or_is z q r hz64 hq64 HZQ.out _).mono ?_; rintro e w4 ⟨rfl, rfl⟩))
        all_goals
          go_wp2
          refine bodyPost_ret (v := .tuple #[.agg #[.int .u64 0, .slice (some ⟨gb, 0, none⟩) m capg], .int .i64 0]) ?_ rfl (fret_own (gen := 0) (base := w.heap.size + 1) (by omega) (by exact HO5.out) (by first | exact HB5.out.drew | exact ((hB4.drew).setCell (p := ⟨w.heap.size, 0, none⟩) (Nat.le_refl _) (.int .u64 0)).setCell (p := ⟨w.heap.size, 1, none⟩) (Nat.le_refl _) (.slice (some ⟨gb, 0, none⟩) m capg)) 0)
          simp [results, Tryd.results42, go_sem, s0, s1]
      · have HYS : Hid (zs = ys) := by show _ = _; rw [← HV.out, setL, if_neg hy0, HZS.out]
        rw [HYS.out] at HO2
        by_cases hy1 : y = -1
        · subst hy1
          obtain rfl : q = g := by rw [← HG.out, if_pos rfl]
          have X0 := Lib.hid (heap_other (B := w1.heap.size) (j := 0) (c := .int .u64 (q : Int)) V0.out (by omega))
          have X8 := Lib.hid (two_set0 (c := .int .u64 (q : Int)) V8.out)
          have hB4 := hB3.setCell (p := ⟨w1.heap.size, 0, none⟩) (by simp; omega) (.int .u64 (q : Int))
          have HO4 := Lib.hid (HO2.out.kept (grownBy_set _ w1.heap.size 0 (.int .u64 (q : Int))) (.inr (not_row V8.out (by decide) HO2.out).symm))
          obtain ⟨W4, hW4⟩ : ∃ W4, W3.setCell ⟨w1.heap.size, 0, none⟩ (.int .u64 (q : Int)) = W4 := ⟨_, rfl⟩
          rw [hW4] at HO4 X0 X8 hB4
          obtain ⟨l0, l1, _⟩ := two_cells X8.out
          obtain ⟨m0, m1, mf⟩ := two_cells X0.out
          have mf0 := mf 0; have mf1 := mf 1
          have N1 := Lib.hid (two_set1 (c := .slice (some ⟨gb, 0, none⟩) m capg) (two_set0 (c := .int .u64 (q : Int)) X0.out))
          obtain ⟨s0, s1, _⟩ := two_cells N1.out
          have HO5 := Lib.hid ((HO4.out.kept (grownBy_set _ _ 0 (.int .u64 (q : Int))) (.inr (not_row X0.out (by decide) HO4.out).symm)).kept (grownBy_set _ w.heap.size 1 (.slice (some ⟨gb, 0, none⟩) m capg)) (.inr (not_row X0.out (by decide) HO4.out).symm))
          have HB5 := Lib.hid ((hB4.setCell (p := ⟨w.heap.size, 0, none⟩) (Nat.le_refl _) (.int .u64 (q : Int))).setCell (p := ⟨w.heap.size, 1, none⟩) (Nat.le_refl _) (.slice (some ⟨gb, 0, none⟩) m capg))
          clear zf kf mf hg8
          go_wp2_with fail
          refine (worth_at i i q rfl HQ.out (by omega) _).mono ?_
          rintro e w4 ⟨rfl, rfl⟩
          go_wp2
          refine bodyPost_ret (v := .tuple #[.agg #[.int .u64 (q : Int), .slice (some ⟨gb, 0, none⟩) m capg], .int .i64 0]) ?_ rfl (fret_own (by omega) HO5.out HB5.out 0)
          simp [results, Tryd.results42, go_sem, s0, s1]
        · obtain rfl : 0 = g := by rw [← HG.out, if_neg hy1]
          have gj2 : (y == -1) = false := by simp [hy1]
          have N1 := Lib.hid (two_set1 (c := .slice (some ⟨gb, 0, none⟩) m capg) (two_set0 (c := .int .u64 0) V0.out))
          obtain ⟨s0, s1, _⟩ := two_cells N1.out
          have HO5 := Lib.hid ((HO2.out.kept (grownBy_set _ _ 0 (.int .u64 0)) (.inr (not_row V0.out (by decide) HO2.out).symm)).kept (grownBy_set _ w.heap.size 1 (.slice (some ⟨gb, 0, none⟩) m capg)) (.inr (not_row V0.out (by decide) HO2.out).symm))
          have HB5 := Lib.hid ((hB3.setCell (p := ⟨w.heap.size, 0, none⟩) (Nat.le_refl _) (.int .u64 0)).setCell (p := ⟨w.heap.size, 1, none⟩) (Nat.le_refl _) (.slice (some ⟨gb, 0, none⟩) m capg))
          clear zf kf hg8 hy1
          go_wp2
          refine bodyPost_ret (v := .tuple #[.agg #[.int .u64 0, .slice (some ⟨gb, 0, none⟩) m capg], .int .i64 0]) ?_ rfl (fret_own (gen := 0) (by omega) HO5.out HB5.out 0)
          simp [results, Tryd.results42, go_sem, s0, s1]
    · obtain rfl : 5 = e0 := by rw [← he, setE, hd, if_pos rfl, if_neg hok]
      obtain rfl : 0 = g := by rw [← hg, setG, he]; simp
      obtain rfl : [] = ys := by rw [← hys, setV, he]; rfl
      have hx : x < 0 ∨ (0 ≤ x ∧ (m : Int) ≤ x) ∨ (0 ≤ x ∧ x < m ∧ y < -2) ∨ (0 ≤ x ∧ x < m ∧ -2 ≤ y ∧ (m : Int) ≤ y) := by
        simp [setOk] at hok
        omega
      obtain ⟨d0, d1, df⟩ := two_cells T0.out
      have f0 := df 0; have f1 := df 1
      clear df hok hd he hg hys
      rcases hx with hx | ⟨x0, hx⟩ | ⟨x0, x1, hx⟩ | ⟨x0, x1, y0, hx⟩
      all_goals
        go_enter Tryd.func42, Tryd.ntmps42
        go_wp2_with fail
        refine (dim_is m true HD.out _).mono ?_
        rintro e w1 ⟨rfl, rfl⟩
        go_wp2
        refine bodyPost_ret (v := .tuple #[.agg #[.int .u64 0, .slice none 0 0], .int .i64 5]) ?_ rfl (fret_nil 5 hB0)
        simp [results, Tryd.results42, go_sem, d0, d1]
end Go.Proofs.YtdaijibkafepcaaDoor
