/-
  THE CELLS LAYER: what a cell is of a row: the reference's Of and the program's ofRow.
-/
import Derived.Test.YtkekldebklghoaaDoorCellsOfMath
import Derived.Test.YtkekldebklghoaaDoorCtz
namespace Go.Proofs.YtkekldebklghoaaDoor
open Go.RowKit
set_option linter.unusedVariables false

set_option maxRecDepth 100000 in
set_option maxHeartbeats 2000000 in
theorem ofRef_any (a : Option Addr) (cap : Nat) (row : List Cl) (c : Cl) (w : World) (hm : row.length ≤ 64) (hra : CRow w a row) (hok : ∀ (i : Nat) x, row[i]? = some x → x.ok) (hc : c.ok) (z : Cl) (hz : ofC row c = z) :
    Calls Tryd.prog 61 #[.slice a row.length cap, c.val] w fun e w' => e = .returned z.val ∧ Below w.heap.size w w' := by
  have HRA := Lib.hid hra; have HOK := Lib.hid hok; have HC := Lib.hid hc; have HZ := Lib.hid hz
  have hf := hc.1
  clear hra hok hc hz
  go_enter Tryd.func61, Tryd.ntmps61
  go_wp2_with fail
  go_loopw [6] (fun i wr => ∃ (k : Nat) (o : Cl), k ≤ row.length ∧ i = .int .i64 k ∧ Hid (ofTo row c k = o) ∧ Hid (wr.heap[w.heap.size]? = some (.cells #[.int .u64 (c.f : Int), .int .i64 c.k, .int .i64 c.v] 51 (0, 0))) ∧ Hid (wr.heap[w.heap.size + 1]? = some (.cells #[.int .u64 0, .int .i64 0, .int .i64 0] 51 (0, 0))) ∧ Hid (wr.heap[w.heap.size + 1 + 1]? = some (.cells #[.int .u64 (o.f : Int), .int .i64 o.k, .int .i64 o.v] 51 (0, 0))) ∧ Below w.heap.size w wr) (fun i _ => row.length - (intOf i).toNat)
  case atStart =>
    refine ⟨0, ⟨0, c.k, c.v⟩, Nat.zero_le _, rfl, rfl, ?_, ?_, ?_, ((((Below.refl _ _).alloc (Nat.le_refl _) _).alloc (by simp) _).alloc (by simp; omega) _)⟩
    · show _ = _
      rw [heap_alloc_old _ _ (by simp; omega), heap_alloc_old _ _ (by simp), heap_alloc_new]
    · show _ = _
      rw [heap_alloc_old _ _ (by simp), show w.heap.size + 1 = (w.alloc (.cells #[.int .u64 (c.f : Int), .int .i64 c.k, .int .i64 c.v] 51)).heap.size by simp, heap_alloc_new]
    · show _ = _
      rw [show w.heap.size + 1 + 1 = ((w.alloc (.cells #[.int .u64 (c.f : Int), .int .i64 c.k, .int .i64 c.v] 51)).alloc (.cells #[.int .u64 0, .int .i64 0, .int .i64 0] 51)).heap.size by simp, heap_alloc_new]
      rfl
  case round =>
    obtain ⟨k, o, hk, rfl, HO, B0, B1, B2, hb⟩ := hrel
    obtain ⟨c0, _, _, _⟩ := three_cells B0.out
    obtain ⟨o0, o1, o2, of⟩ := three_cells B2.out
    have o4 := of 0; have o5 := of 1; have o6 := of 2
    clear of
    by_cases hlt : k < row.length
    · obtain ⟨ba, offa, x, rfl, hx, hba, a0, a1, a2⟩ := (HRA.out.below hb).at_ hlt
      have g0 : (0 : Int) ≤ (k : Int) := by omega
      have g3 : (k : Int) < (row.length : Int) := by omega
      cases hbit : c.f.testBit k
      · have HN : Hid (ofTo row c (k + 1) = o) := (ofTo_no hbit).trans HO.out
        have HB := Lib.hid hbit
        clear hbit hx
        go_wp2_with (go_at_call 77; refine (has_any _ _ _ (by omega) hf).mono ?_; rintro e w' ⟨rfl, rfl⟩; rw [HB.out])
        go_roundw
        case rel => exact ⟨k + 1, o, by omega, by go_num, HN, B0, B1, B2, hb⟩
        case measure => simp [intOf]; omega
      · obtain ⟨t, ht⟩ : ∃ t, join o x = t := ⟨_, rfl⟩
        have HN : Hid (ofTo row c (k + 1) = t) := (ofTo_yes hbit hx).trans (by rw [HO.out, ht])
        have OO : Hid o.ok := by rw [← HO.out]; exact ofTo_ok HC.out HOK.out k
        have OX := Lib.hid (HOK.out k x hx)
        have HT := Lib.hid ht
        have HB := Lib.hid hbit
        clear hbit hx ht
        go_wp2_with (go_at_call 77; refine (has_any _ _ _ (by omega) hf).mono ?_; rintro e w' ⟨rfl, rfl⟩; rw [HB.out])
        go_region_with (go_at_call 58; refine (two_is o x t OO.out OX.out HT.out _).mono ?_; rintro e w3 ⟨rfl, hb3⟩; have hB3 : Below wr.heap.size wr w3 := Below.trans (by repeat (first | exact Below.refl _ _ | refine Below.drew ?_)) hb3; have D0 := Lib.hid (block_stays B0.out hB3); have D1 := Lib.hid (block_stays B1.out hB3); have D2 := Lib.hid (block_stays B2.out hB3); obtain ⟨e0, e1, e2, ef⟩ := three_cells D2.out; have e4 := ef 0; have e5 := ef 1; have e6 := ef 2; clear ef)
        all_goals
          have N2 := Lib.hid (three_set (a' := .int .u64 (t.f : Int)) (b' := .int .i64 t.k) (c' := .int .i64 t.v) D2.out)
          have N0 := Lib.hid (three_other (B := w.heap.size + 1 + 1) (a' := .int .u64 (t.f : Int)) (b' := .int .i64 t.k) (c' := .int .i64 t.v) (by omega) D0.out)
          have N1 := Lib.hid (three_other (B := w.heap.size + 1 + 1) (a' := .int .u64 (t.f : Int)) (b' := .int .i64 t.k) (c' := .int .i64 t.v) (by omega) D1.out)
          have NB := Lib.hid ((((hb.trans (hB3.mono hb.size)).setCell (p := ⟨w.heap.size + 1 + 1, 0, none⟩) (by simp; omega) (.int .u64 (t.f : Int))).setCell (p := ⟨w.heap.size + 1 + 1, 1, none⟩) (by simp; omega) (.int .i64 t.k)).setCell (p := ⟨w.heap.size + 1 + 1, 2, none⟩) (by simp; omega) (.int .i64 t.v))
          clear e0 e1 e2 e4 e5 e6 hb3
          go_wp2
          go_roundw
          case rel => exact ⟨k + 1, t, by omega, by go_num, HN, N0, N1, N2, NB.out⟩
          case measure => simp [intOf]; omega
    · obtain rfl : k = row.length := by omega
      have HE : Hid (o = z) := HO.out.symm.trans HZ.out
      obtain ⟨d0, d1, d2, df⟩ := three_cells B1.out
      have d4 := df 0; have d5 := df 1; have d6 := df 2
      clear df
      go_wp2
      refine bodyPost_ret (v := .agg #[.int .u64 (o.f : Int), .int .i64 o.k, .int .i64 o.v]) ?_ rfl ⟨by rw [HE.out], ?_⟩
      · simp [results, Tryd.results61, go_sem, d0, d1, d2]
      · exact (((hb.setCell (p := ⟨w.heap.size + 1, 0, none⟩) (by simp) _).setCell (p := ⟨w.heap.size + 1, 1, none⟩) (by simp) _).setCell (p := ⟨w.heap.size + 1, 2, none⟩) (by simp) _)
end Go.Proofs.YtkekldebklghoaaDoor
