/-
  THE FACTS LAYER: Apply of both.
-/
import Derived.Test.YtdaijibkafepcaaDoorFactsMade
namespace Go.Proofs.YtdaijibkafepcaaDoor
open Go.RowKit
set_option linter.unusedVariables false

theorem checkE_ok {n : Int} {gen : Nat} {rows : List Nat} (h : checkE n gen rows = 0) : dimB n = true ∧ shapeB n.toNat gen rows = true ∧ clearB gen rows = true := by
  unfold checkE at h
  split at h
  · rename_i hd
    split at h
    · rename_i hs
      rw [Bool.and_eq_true] at hs
      exact ⟨hd, hs.1, hs.2⟩
    · cases h
  · cases h
theorem shapeB_len {m gen : Nat} {rows : List Nat} (h : shapeB m gen rows = true) : rows.length = m ∧ insN m gen = true ∧ ∀ r ∈ rows, insN m r = true := by
  unfold shapeB at h
  simp only [Bool.and_eq_true, decide_eq_true_eq, List.all_eq_true] at h
  exact h
theorem mem_below {s m i : Nat} (hs : s < 2 ^ m) (hi : i ∈ mem s) : i < m := by
  rcases Nat.lt_or_ge i m with h | h
  · exact h
  · have := mem_bit hi
    rw [Nat.testBit_lt_two_pow (Nat.lt_of_lt_of_le hs (Nat.pow_le_pow_right (by omega) h))] at this
    cases this
def applyE (n : Int) (gen : Nat) (rows : List Nat) (s : Nat) : Int := if checkE n gen rows = 0 then (if insI n s = true then 0 else 5) else checkE n gen rows
def applyV (n : Int) (gen : Nat) (rows : List Nat) (s : Nat) : Nat := if applyE n gen rows s = 0 then madeF gen rows s else 0
set_option maxRecDepth 100000 in
set_option maxHeartbeats 1000000 in
theorem applyA_is (n : Int) (a : Option Addr) (cap gen : Nat) (rows : List Nat) (s : Nat) (hs : s < 18446744073709551616) (w : World) (hf : FAt w a gen rows) (ht : TabC w) (e0 : Int) (he : applyE n gen rows s = e0) (r : Nat) (hr : applyV n gen rows s = r) (len : Nat) (hl : rows.length = len) :
    Calls Tryd.prog 52 #[.int .i64 n, fval gen a len cap, .int .u64 s] w fun e w' => e = .returned (.tuple #[.int .u64 r, .int .i64 e0]) ∧ Below w.heap.size w w' := by
  have hB0 : Below w.heap.size w (w.alloc (.cells #[.int .u64 (gen : Int), .slice a len cap] 55)) := (Below.refl _ _).alloc (Nat.le_refl _) _
  have HF1 : Hid (FAt (w.alloc (.cells #[.int .u64 (gen : Int), .slice a len cap] 55)) a gen rows) := hf.below hB0
  have T0 := Lib.hid (heapV_new w (.cells #[.int .u64 (gen : Int), .slice a len cap] 55))
  have HL := Lib.hid hl; have HT := Lib.hid ht
  obtain ⟨c, hc⟩ : ∃ c, checkE n gen rows = c := ⟨_, rfl⟩
  have HC := Lib.hid hc
  unfold fval
  by_cases h0 : c = 0
  · subst h0
    obtain ⟨hd, hsh, _⟩ := checkE_ok hc
    obtain ⟨m, rfl, hm⟩ := dim_nat hd
    rw [Int.toNat_natCast] at hsh
    obtain ⟨hlm, _, _⟩ := shapeB_len hsh
    obtain ⟨f1, f2⟩ := dim_full hd
    have F1 := Lib.hid f1; have F2 := Lib.hid f2
    have HA := andNot_mask s m hs hm
    have hins : insI m s = insN m s := by rw [insI, hd]; rfl
    obtain ⟨p, hp⟩ : ∃ p : Nat, 2 ^ m - 1 = p := ⟨_, rfl⟩
    rw [Int.toNat_natCast, hp] at F1
    rw [hp] at HA
    cases hin : insN m s
    · obtain rfl : 5 = e0 := by rw [← he, applyE, if_pos hc, hins, hin]; rfl
      obtain rfl : 0 = r := by rw [← hr, applyV, he]; rfl
      have hq0 : (((restN s m : Nat) : Int) != 0) = true := by
        unfold insN at hin
        have : restN s m ≠ 0 := by simpa using hin
        simp; omega
      obtain ⟨q, hq⟩ : ∃ q, restN s m = q := ⟨_, rfl⟩
      rw [hq] at HA hq0
      clear hf ht he hr hl hc hd hsh hlm f1 f2 hins hin hq hp
      go_enter Tryd.func52, Tryd.ntmps52
      go_wp2_with fail
      refine (checkA_is m a cap gen rows _ HF1.out 0 HC.out len HL.out).mono ?_
      rintro e w1 ⟨rfl, hb1⟩
      have hB1 := hB0.trans (hb1.mono hB0.size)
      go_wp2_with fail
      refine (fullA_is m p 0 F1.out F2.out _).mono ?_
      rintro e w2 ⟨rfl, rfl⟩
      go_wp2
      go_ret2
      exact ⟨rfl, hB1⟩
    · obtain rfl : 0 = e0 := by rw [← he, applyE, if_pos hc, hins, hin]; rfl
      have HR : Hid (madeF gen rows s = r) := by show _ = _; rw [← hr, applyV, if_pos he]
      have hs2 := (insN_iff hm hs).1 hin
      have HIN : Hid (∀ i ∈ mem s, i < rows.length) := fun i hi => by rw [hlm]; exact mem_below hs2 hi
      have hq0 : restN s m = 0 := by unfold insN at hin; simpa using hin
      rw [hq0] at HA
      clear hf ht he hr hl hc hd hsh hlm f1 f2 hins hin hq0 hp hs2
      go_enter Tryd.func52, Tryd.ntmps52
      go_wp2_with fail
      refine (checkA_is m a cap gen rows _ HF1.out 0 HC.out len HL.out).mono ?_
      rintro e w1 ⟨rfl, hb1⟩
      have hB1 := hB0.trans (hb1.mono hB0.size)
      obtain ⟨d0, d1, _⟩ := two_cells (heap_old T0.out hb1)
      go_wp2_with fail
      refine (fullA_is m p 0 F1.out F2.out _).mono ?_
      rintro e w2 ⟨rfl, rfl⟩
      go_wp2_with fail
      refine (madeA_is a cap gen rows s hs _ (HF1.out.below hb1) HIN.out (HT.out.below hB1) r HR.out len HL.out).mono ?_
      rintro e w3 ⟨rfl, hb3⟩
      go_wp2
      go_ret2
      exact ⟨rfl, hB1.trans (hb3.mono hB1.size)⟩
  · obtain rfl : c = e0 := by rw [← he, applyE, hc, if_neg h0]
    obtain rfl : 0 = r := by rw [← hr, applyV, he, if_neg h0]
    have hne : (c != 0) = true := by simpa using h0
    clear hf ht he hr hl hc h0
    go_enter Tryd.func52, Tryd.ntmps52
    go_wp2_with fail
    refine (checkA_is n a cap gen rows _ HF1.out c HC.out len HL.out).mono ?_
    rintro e w1 ⟨rfl, hb1⟩
    go_wp2
    go_ret2
    exact ⟨rfl, hB0.trans (hb1.mono hB0.size)⟩
set_option maxRecDepth 100000 in
set_option maxHeartbeats 1000000 in
theorem applyR_is (n : Int) (a : Option Addr) (cap gen : Nat) (rows : List Nat) (s : Nat) (hs : s < 18446744073709551616) (w : World) (hf : FAt w a gen rows) (e0 : Int) (he : applyE n gen rows s = e0) (r : Nat) (hr : applyV n gen rows s = r) (len : Nat) (hl : rows.length = len) :
    Calls Tryd.prog 53 #[.int .i64 n, fval gen a len cap, .int .u64 s] w fun e w' => e = .returned (.tuple #[.int .u64 r, .int .i64 e0]) ∧ Below w.heap.size w w' := by
  have hB0 : Below w.heap.size w (w.alloc (.cells #[.int .u64 (gen : Int), .slice a len cap] 55)) := (Below.refl _ _).alloc (Nat.le_refl _) _
  have HF1 : Hid (FAt (w.alloc (.cells #[.int .u64 (gen : Int), .slice a len cap] 55)) a gen rows) := hf.below hB0
  have T0 := Lib.hid (heapV_new w (.cells #[.int .u64 (gen : Int), .slice a len cap] 55))
  have HL := Lib.hid hl
  obtain ⟨c, hc⟩ : ∃ c, checkE n gen rows = c := ⟨_, rfl⟩
  have HC := Lib.hid hc
  unfold fval
  by_cases h0 : c = 0
  · subst h0
    obtain ⟨hd, hsh, _⟩ := checkE_ok hc
    obtain ⟨m, rfl, hm⟩ := dim_nat hd
    rw [Int.toNat_natCast] at hsh
    obtain ⟨hlm, _, _⟩ := shapeB_len hsh
    have hins : insI m s = insN m s := by rw [insI, hd]; rfl
    cases hin : insN m s
    · obtain rfl : 5 = e0 := by rw [← he, applyE, if_pos hc, hins, hin]; rfl
      obtain rfl : 0 = r := by rw [← hr, applyV, he]; rfl
      have HI : Hid (insI m s = false) := by show _ = _; rw [hins, hin]
      clear hf he hr hl hc hd hsh hlm hins hin
      go_enter Tryd.func53, Tryd.ntmps53
      go_wp2_with fail
      refine (checkR_is m a cap gen rows _ HF1.out 0 HC.out len HL.out).mono ?_
      rintro e w1 ⟨rfl, hb1⟩
      have hB1 := hB0.trans (hb1.mono hB0.size)
      go_wp2_with fail
      refine (inside_is m s hs false HI.out _).mono ?_
      rintro e w2 ⟨rfl, rfl⟩
      go_wp2
      go_ret2
      exact ⟨rfl, hB1⟩
    · obtain rfl : 0 = e0 := by rw [← he, applyE, if_pos hc, hins, hin]; rfl
      have HR : Hid (madeF gen rows s = r) := by show _ = _; rw [← hr, applyV, if_pos he]
      have hs2 := (insN_iff hm hs).1 hin
      have HI : Hid (insI m s = true) := by show _ = _; rw [hins, hin]
      have HS2 : Hid (s < 2 ^ rows.length) := by show _ < _; rw [hlm]; exact hs2
      have HM : Hid (rows.length ≤ 64) := by show _ ≤ _; rw [hlm]; exact hm
      clear hf he hr hl hc hd hsh hlm hins hin hs2
      go_enter Tryd.func53, Tryd.ntmps53
      go_wp2_with fail
      refine (checkR_is m a cap gen rows _ HF1.out 0 HC.out len HL.out).mono ?_
      rintro e w1 ⟨rfl, hb1⟩
      have hB1 := hB0.trans (hb1.mono hB0.size)
      obtain ⟨d0, d1, _⟩ := two_cells (heap_old T0.out hb1)
      go_wp2_with fail
      refine (inside_is m s hs true HI.out _).mono ?_
      rintro e w2 ⟨rfl, rfl⟩
      go_wp2_with fail
      refine (madeR_is a cap gen rows s HS2.out HM.out _ (HF1.out.below hb1) r HR.out len HL.out).mono ?_
      rintro e w3 ⟨rfl, hb3⟩
      go_wp2
      go_ret2
      exact ⟨rfl, hB1.trans (hb3.mono hB1.size)⟩
  · obtain rfl : c = e0 := by rw [← he, applyE, hc, if_neg h0]
    obtain rfl : 0 = r := by rw [← hr, applyV, he, if_neg h0]
    have hne : (c != 0) = true := by simpa using h0
    clear hf he hr hl hc h0
    go_enter Tryd.func53, Tryd.ntmps53
    go_wp2_with fail
    refine (checkR_is n a cap gen rows _ HF1.out c HC.out len HL.out).mono ?_
    rintro e w1 ⟨rfl, hb1⟩
    go_wp2
    go_ret2
    exact ⟨rfl, hB0.trans (hb1.mono hB0.size)⟩
end Go.Proofs.YtdaijibkafepcaaDoor
