/-
  THE CELLS LAYER: what a cell is of a row: the program's ofRow.
-/
import Derived.Test.YtkekldebklghoaaDoorCellsOf
namespace Go.Proofs.YtkekldebklghoaaDoor
open Go.RowKit
set_option linter.unusedVariables false

theorem and_cast (a b : Nat) (ha : a < 18446744073709551616) (hb : b < 18446744073709551616) : bits .and .u64 (a : Int) (b : Int) = ((a &&& b : Nat) : Int) := bits_and_u64_nat a b ha hb

set_option maxRecDepth 100000 in
set_option maxHeartbeats 2000000 in
theorem ofRow_any (a : Option Addr) (cap : Nat) (row : List Cl) (c : Cl) (w : World) (ht : Tabs w) (hm : row.length ≤ 64) (hra : CRow w a row) (hok : ∀ (i : Nat) x, row[i]? = some x → x.ok) (hc : c.ok) (hin : ∀ i, c.f.testBit i = true → i < row.length) (z : Cl) (hz : ofC row c = z) :
    Calls Tryd.prog 60 #[c.val, .slice a row.length cap] w fun e w' => e = .returned z.val ∧ Below w.heap.size w w' := by
  have HT := Lib.hid ht
  have HRA := Lib.hid hra; have HOK := Lib.hid hok; have HC := Lib.hid hc; have HZ := Lib.hid hz; have HIN := Lib.hid hin
  have hf := hc.1
  clear hra hok hc hz ht hin
  go_enter Tryd.func60, Tryd.ntmps60
  go_wp2_with fail
  refine (value_any _ _ _ _).mono ?_
  rintro e w1 ⟨rfl, rfl⟩
  go_wp2_with fail
  go_loopw [6] (fun i wr => ∃ (k x : Nat) (o : Cl), k ≤ row.length ∧ x < 18446744073709551616 ∧ i = .int .u64 x ∧ Hid (∀ i, x.testBit i = (c.f.testBit i && decide (k ≤ i))) ∧ Hid (ofTo row c k = o) ∧ Hid (wr.heap[w.heap.size + 1]? = some (.cells #[.int .u64 0, .int .i64 0, .int .i64 0] 51 (0, 0))) ∧ Hid (wr.heap[w.heap.size + 1 + 1 + 1 + 1]? = some (.cells #[.int .u64 (o.f : Int), .int .i64 o.k, .int .i64 o.v] 51 (0, 0))) ∧ Below w.heap.size w wr) (fun i _ => (intOf i).toNat)
  case atStart =>
    refine ⟨0, c.f, ⟨0, c.k, c.v⟩, Nat.zero_le _, hf, rfl, (fun i => by simp), rfl, ?_, ?_, ((((((Below.refl _ _).alloc (Nat.le_refl _) _).alloc (by simp) _).alloc (by simp; omega) _).alloc (by simp; omega) _).alloc (by simp; omega) _)⟩
    · show _ = _
      rw [heap_alloc_old _ _ (by simp), heap_alloc_old _ _ (by simp), heap_alloc_old _ _ (by simp), show w.heap.size + 1 = (w.alloc (.cells #[.int .u64 (c.f : Int), .int .i64 c.k, .int .i64 c.v] 51)).heap.size by simp, heap_alloc_new]
    · show _ = _
      rw [show w.heap.size + 1 + 1 + 1 + 1 = ((((w.alloc (.cells #[.int .u64 (c.f : Int), .int .i64 c.k, .int .i64 c.v] 51)).alloc (.cells #[.int .u64 0, .int .i64 0, .int .i64 0] 51)).alloc (.cells #[.int .u64 0, .int .i64 c.k, .int .i64 c.v] 51)).alloc (.cells #[.int .u64 0, .int .i64 c.k, .int .i64 c.v] 51)).heap.size by simp, heap_alloc_new]
      rfl
  case round =>
    obtain ⟨k, x, o, hk, hx64, rfl, HX, HO, B1, B2, hb⟩ := hrel
    obtain ⟨o0, o1, o2, of⟩ := three_cells B2.out
    have o4 := of 0; have o5 := of 1; have o6 := of 2
    clear of
    by_cases hx0 : x = 0
    · have hall : ∀ i, k ≤ i → i < row.length → c.f.testBit i = false := fun i h1 _ => by
        have := HX.out i
        rw [hx0, Nat.zero_testBit] at this
        simp [h1] at this
        exact this
      have HE : Hid (o = z) := by show o = z; rw [← HO.out, ← HZ.out]; exact (ofTo_skip hk hall).symm
      have hx00 : (x : Int) = 0 := by omega
      subst hx0
      obtain ⟨d0, d1, d2, df⟩ := three_cells B1.out
      have d4 := df 0; have d5 := df 1; have d6 := df 2
      clear df hx00 hall
      go_wp2
      refine bodyPost_ret (v := .agg #[.int .u64 (o.f : Int), .int .i64 o.k, .int .i64 o.v]) ?_ rfl ⟨by rw [HE.out], ?_⟩
      · simp [results, Tryd.results60, go_sem, d0, d1, d2]
      · exact (((hb.setCell (p := ⟨w.heap.size + 1, 0, none⟩) (by simp) _).setCell (p := ⟨w.heap.size + 1, 1, none⟩) (by simp) _).setCell (p := ⟨w.heap.size + 1, 2, none⟩) (by simp) _)
    · obtain ⟨j, hj⟩ : ∃ j, Lib.ctz 64 x = j := ⟨_, rfl⟩
      have hbx : x.testBit j = true := by rw [← hj]; exact low_bit hx0 hx64
      have hbc : c.f.testBit j = true ∧ k ≤ j := by
        have := HX.out j
        rw [hbx] at this
        simpa using this.symm
      have hjr : j < row.length := HIN.out j hbc.1
      have hskip : ofTo row c j = o := by
        rw [ofTo_skip hbc.2 (fun i h1 h2 => ?_)]
        · exact HO.out
        · have h3 := HX.out i
          rw [low_none hx0 hx64 (by omega)] at h3
          simp [h1] at h3
          exact h3
      obtain ⟨ba, offa, y, rfl, hy, hba, a0, a1, a2⟩ := (HRA.out.below hb).at_ hjr
      obtain ⟨t, htt⟩ : ∃ t, join o y = t := ⟨_, rfl⟩
      have HN : Hid (ofTo row c (j + 1) = t) := (ofTo_yes hbc.1 hy).trans (by rw [hskip, htt])
      have OO : Hid o.ok := by rw [← HO.out]; exact ofTo_ok HC.out HOK.out k
      have OY := Lib.hid (HOK.out j y hy)
      have HTT := Lib.hid htt
      have HJ := Lib.hid hj
      have HX2 : Hid (∀ i, (x &&& (x - 1)).testBit i = (c.f.testBit i && decide (j + 1 ≤ i))) := by
        intro i
        rw [clear_low hx0 hx64, hj]
        by_cases h1 : i < j
        · rw [low_none hx0 hx64 (by omega)]
          have e9 : ¬ (j + 1 ≤ i) := by omega
          simp [e9]
        · rw [HX.out i]
          by_cases h2 : i = j
          · subst h2; simp
          · have e1 : k ≤ i := by omega
            have e2 : j + 1 ≤ i := by omega
            simp [e1, e2, h2]
      have hlt2 : x &&& (x - 1) < x := clear_lt hx0
      have hxp : (1 : Int) ≤ (x : Int) := by omega
      have hand : bits .and .u64 (x : Int) ((x : Int) - 1) = ((x &&& (x - 1) : Nat) : Int) := by
        rw [← and_cast x (x - 1) hx64 (by omega)]
        congr 1
        omega
      obtain ⟨x', hx'⟩ : ∃ x', x' = x &&& (x - 1) := ⟨_, rfl⟩
      rw [← hx'] at HX2 hlt2 hand
      have hne : ((x : Int) != 0) = true := by simp; omega
      have hx9 : (x : Int) ≤ 18446744073709551615 := by omega
      have g0 : (0 : Int) ≤ (j : Int) := by omega
      have g3 : (j : Int) < (row.length : Int) := by omega
      have HX' := Lib.hid hx'
      have HNE := Lib.hid hx0
      have HBC := Lib.hid hbc
      clear hbx hbc hskip hy htt hj hx' hx0
      go_wp2_with fail
      go_region_with (first | (go_at_call 74; refine (ctz_calls x HNE.out hx64 _ (HT.out.below (by repeat (first | exact hb | refine Below.drew ?_)))).mono ?_; rintro e w4 ⟨rfl, rfl⟩; rw [HJ.out]) | (go_at_call 59; refine (joined_is o y t OO.out OY.out HTT.out _).mono ?_; rintro e w3 ⟨rfl, hb3⟩; have hB3 : Below wr.heap.size wr w3 := Below.trans (by repeat (first | exact Below.refl _ _ | refine Below.drew ?_)) hb3; have D1 := Lib.hid (block_stays B1.out hB3); have D2 := Lib.hid (block_stays B2.out hB3); obtain ⟨e0, e1, e2, ef⟩ := three_cells D2.out; have e4 := ef 0; have e5 := ef 1; have e6 := ef 2; clear ef))
      all_goals
        have N2 := Lib.hid (three_set (a' := .int .u64 (t.f : Int)) (b' := .int .i64 t.k) (c' := .int .i64 t.v) D2.out)
        have N1 := Lib.hid (three_other (B := w.heap.size + 1 + 1 + 1 + 1) (a' := .int .u64 (t.f : Int)) (b' := .int .i64 t.k) (c' := .int .i64 t.v) (by omega) D1.out)
        have NB := Lib.hid ((((hb.trans (hB3.mono hb.size)).setCell (p := ⟨w.heap.size + 1 + 1 + 1 + 1, 0, none⟩) (by simp; omega) (.int .u64 (t.f : Int))).setCell (p := ⟨w.heap.size + 1 + 1 + 1 + 1, 1, none⟩) (by simp; omega) (.int .i64 t.k)).setCell (p := ⟨w.heap.size + 1 + 1 + 1 + 1, 2, none⟩) (by simp; omega) (.int .i64 t.v))
        clear e0 e1 e2 e4 e5 e6 hb3
        go_wp2
        go_roundw
        case rel => exact ⟨j + 1, x', t, by omega, by omega, by first | rfl | rw [hand], HX2, HN, N1, N2, NB.out⟩
        case measure => simp [intOf]; omega
end Go.Proofs.YtkekldebklghoaaDoor
