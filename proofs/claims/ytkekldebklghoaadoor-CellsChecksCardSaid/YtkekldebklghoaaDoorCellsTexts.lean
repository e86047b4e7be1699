/-
  THE CELLS LAYER: a cell's text: the plain function; the reference's one.
-/
import Derived.Test.YtkekldebklghoaaDoorCellsAlg
import Derived.Lib.ItoaLen
import Derived.Lib.ItoaMem
namespace Go.Proofs.YtkekldebklghoaaDoor
open Go.RowKit
set_option linter.unusedVariables false

theorem itoa_calls (n : Int) (h0 : -9223372036854775808 ≤ n) (h1 : n ≤ 9223372036854775807) (w : World) (ht : Tabs w) :
    Calls Tryd.prog 73 #[.int .i64 n] w fun e w' => e = .returned (.string ⟨(Lib.itoa n).toArray⟩) ∧ Below w.heap.size w w' :=
  (Tryd.strconv_Itoa n h0 h1 w ht.pow).mono fun e w' ⟨he, k, os, hw⟩ => ⟨he, by rw [hw]; exact grow_below w k os⟩

def partsTo (f : Nat) : Nat → List (List UInt8)
  | 0 => []
  | k + 1 => if f.testBit k then partsTo f k ++ [120 :: Lib.itoa k] else partsTo f k
theorem partsTo_succ (f k : Nat) : partsTo f (k + 1) = if f.testBit k then partsTo f k ++ [120 :: Lib.itoa k] else partsTo f k := rfl
def kindPart (k v : Int) : List (List UInt8) := if k = 1 then [Lib.itoa v] else if k = 2 then [[42]] else []
def partsC (c : Cl) : List (List UInt8) := partsTo c.f 64 ++ kindPart c.k c.v
def barred (ps : List (List UInt8)) : List UInt8 := ps.flatMap (124 :: ·)
def bytes (l : List UInt8) : ByteArray := ⟨l.toArray⟩
def cellB (c : Cl) : ByteArray := if partsC c = [] then bytes [45] else bytes (Lib.join (partsC c) [124])
theorem join_barred : ∀ ps : List (List UInt8), (barred ps).drop 1 = Lib.join ps [124]
  | [] => by simp [barred, Lib.join]
  | [p] => by simp [barred, Lib.join, List.intercalate]
  | p :: q :: r => by
    have ih := join_barred (q :: r)
    simp [barred, Lib.join, List.intercalate] at ih ⊢
    exact ih
theorem barred_append (a b : List (List UInt8)) : barred (a ++ b) = barred a ++ barred b := by simp [barred]
theorem bytes_append (a b : List UInt8) : bytes a ++ bytes b = bytes (a ++ b) := by
  apply ByteArray.ext
  simp [bytes]
theorem bytes_size (a : List UInt8) : (bytes a).size = a.length := by simp [bytes, ByteArray.size]
theorem bytes_extract (l : List UInt8) : (bytes l).extract 1 (bytes l).size = bytes (l.drop 1) := by
  rw [bytes_size]
  apply ByteArray.ext
  simp [bytes]
  exact List.take_of_length_le (by simp)
theorem bytes_ne {S : ByteArray} (h : 1 ≤ S.size) : S.toList.isEmpty = false := by
  rw [Lib.toList_data]
  have h2 : 1 ≤ S.data.toList.length := by rw [Array.length_toList]; exact h
  match hl : S.data.toList, h2 with
  | x :: r, _ => rfl
theorem barred_pos {ps : List (List UInt8)} (h : ps ≠ []) : 1 ≤ (barred ps).length := by
  match ps, h with
  | p :: r, _ => simp [barred]
theorem parts_small (f : Nat) : ∀ k, k ≤ 64 → (barred (partsTo f k)).length ≤ k * 23
  | 0, _ => by simp [partsTo, barred]
  | k + 1, h => by
    have ih := parts_small f k (by omega)
    have hl := Lib.itoa_length_le (k : Int) (by omega) (by omega)
    unfold partsTo
    split
    · rw [barred_append]; simp [barred] at ih ⊢; omega
    · omega

set_option maxRecDepth 100000 in
set_option maxHeartbeats 2000000 in
theorem oneRefText_any (c : Cl) (w : World) (ht : Tabs w) (hc : c.ok) (hv0 : -9223372036854775808 ≤ c.v) (hv1 : c.v ≤ 9223372036854775807) (t : ByteArray) (htt : cellB c = t) :
    Calls Tryd.prog 49 #[c.val] w fun e w' => e = .returned (.string t) ∧ Below w.heap.size w w' := by
  have HT := Lib.hid ht; have HTT := Lib.hid htt; have HC := Lib.hid hc
  have hf := hc.1
  clear ht htt hc
  go_enter Tryd.func49, Tryd.ntmps49
  go_wp2_with fail
  go_loopw [3, 4] (fun s i wr => ∃ (k : Nat) (S : ByteArray), k ≤ 64 ∧ i = .int .i64 k ∧ s = .string S ∧ Hid (S = bytes (barred (partsTo c.f k))) ∧ Hid (wr.heap[w.heap.size]? = some (.cells #[.int .u64 (c.f : Int), .int .i64 c.k, .int .i64 c.v] 51 (0, 0))) ∧ Below w.heap.size w wr) (fun _ i _ => 64 - (intOf i).toNat)
  case atStart => exact ⟨0, _, Nat.zero_le _, rfl, rfl, rfl, heap_alloc_new _ _, (Below.refl _ _).alloc (Nat.le_refl _) _⟩
  case round =>
    obtain ⟨k, S, hk, rfl, rfl, HS, B0, hb⟩ := hrel
    obtain ⟨c0, c1, c2, _⟩ := three_cells B0.out
    have hss : S.size ≤ 1472 := by rw [HS.out, bytes_size]; have := parts_small c.f k hk; omega
    by_cases hlt : k < 64
    · have g0 : (0 : Int) ≤ (k : Int) := by omega
      have g1 : (k : Int) < 64 := by omega
      cases hbit : c.f.testBit k
      · have HN : Hid (S = bytes (barred (partsTo c.f (k + 1)))) := by show _ = _; rw [HS.out, partsTo_succ, hbit]; rfl
        have HB := Lib.hid hbit
        clear hbit
        go_wp2_with (go_at_call 77; refine (has_any _ _ _ (by omega) hf).mono ?_; rintro e w' ⟨rfl, rfl⟩; rw [HB.out])
        go_roundw
        case rel => exact ⟨k + 1, S, by omega, by go_num, rfl, HN, B0, hb⟩
        case measure => simp [intOf]; omega
      · have HB := Lib.hid hbit
        have hl := Lib.itoa_length_le (k : Int) (by omega) (by omega)
        have HN : Hid (S ++ bytes [124, 120] ++ bytes (Lib.itoa k) = bytes (barred (partsTo c.f (k + 1)))) := by
          show _ = _
          rw [HS.out, bytes_append, bytes_append, partsTo_succ, hbit, if_pos rfl, barred_append]
          simp [barred]
        clear hbit
        go_wp2_with (first | (go_at_call 77; refine (has_any _ _ _ (by omega) hf).mono ?_; rintro e w' ⟨rfl, rfl⟩; rw [HB.out]) | (go_at_call 73; go_loud (refine (itoa_calls (k : Int) (by omega) (by omega) _ (HT.out.below hb)).mono ?_; rintro e w3 ⟨rfl, hb3⟩)))
        have B3 := Lib.hid (block_stays B0.out hb3)
        go_roundw
        case rel => exact ⟨k + 1, _, by omega, by go_num, rfl, HN, B3, hb.trans (hb3.mono hb.size)⟩
        case measure => simp [intOf]; omega
    · obtain rfl : k = 64 := by omega
      rcases ok_cases HC.out with ⟨f, rfl⟩ | ⟨f, v, rfl⟩ | rfl
      · by_cases h0 : partsTo f 64 = []
        · have HT2 : Hid (t = bytes [45]) := by show _ = _; rw [← HTT.out]; simp [cellB, partsC, kindPart, h0]
          have hS : S = ⟨#[]⟩ := by rw [HS.out]; simp [h0, barred, bytes]
          subst hS
          clear h0
          go_wp2
          go_ret
          exact ⟨by rw [HT2.out]; rfl, hb⟩
        · have HT2 : Hid (t = S.extract 1 S.size) := by
            show _ = _
            rw [← HTT.out, HS.out, bytes_extract]
            simp [cellB, partsC, kindPart, h0, ← join_barred]
          have hS1 : 1 ≤ S.size := by rw [HS.out, bytes_size]; exact barred_pos h0
          clear h0
          have hne := bytes_ne hS1
          go_wp2
          go_ret
          exact ⟨by rw [HT2.out]; rfl, hb⟩
      · have hl := Lib.itoa_length_le v hv0 hv1
        obtain ⟨T, hT⟩ : ∃ T, S ++ bytes [124] ++ bytes (Lib.itoa v) = T := ⟨_, rfl⟩
        have hTB : T = bytes (barred (partsC ⟨f, 1, v⟩)) := by
          rw [← hT, HS.out, bytes_append, bytes_append]
          simp [partsC, kindPart, barred]
        have hpe : partsC ⟨f, 1, v⟩ ≠ [] := by simp [partsC, kindPart]
        have HT2 : Hid (t = T.extract 1 T.size) := by
          show _ = _
          rw [← HTT.out, hTB, bytes_extract, cellB, if_neg hpe, join_barred]
        have hT1 : 1 ≤ T.size := by rw [hTB, bytes_size]; exact barred_pos hpe
        have hne := bytes_ne hT1
        have HTE := Lib.hid hT
        have hts : T.size ≤ 1500 := by rw [← hT]; simp only [ByteArray.size_append, bytes_size, List.length_cons, List.length_nil]; omega
        have hT2 : S ++ { data := #[124] } ++ { data := (Lib.itoa v).toArray } = T := hT
        clear hTB hpe hT
        go_wp2_with (go_at_call 75; go_loud (refine (formatInt_calls v hv0 hv1 _ (HT.out.below hb)).mono ?_; rintro e w3 ⟨rfl, hb3⟩))
        go_ret
        exact ⟨by rw [HT2.out]; rfl, hb.trans (hb3.mono hb.size)⟩
      · obtain ⟨T, hT⟩ : ∃ T, S ++ bytes [124, 42] = T := ⟨_, rfl⟩
        have hTB : T = bytes (barred (partsC manyC)) := by
          rw [← hT, HS.out, bytes_append]
          simp [partsC, kindPart, barred, manyC]
        have hpe : partsC manyC ≠ [] := by simp [partsC, kindPart, manyC]
        have HT2 : Hid (t = T.extract 1 T.size) := by
          show _ = _
          rw [← HTT.out, hTB, bytes_extract, cellB, if_neg hpe, join_barred]
        have hT1 : 1 ≤ T.size := by rw [hTB, bytes_size]; exact barred_pos hpe
        have hne := bytes_ne hT1
        have hts : T.size ≤ 1500 := by rw [← hT]; simp only [ByteArray.size_append, bytes_size, List.length_cons, List.length_nil]; omega
        have hT2 : S ++ { data := #[124, 42] } = T := hT
        clear hTB hpe hT
        simp only [manyC] at c0 c1 c2
        go_wp2
        go_ret
        exact ⟨by rw [HT2.out]; rfl, hb⟩
end Go.Proofs.YtkekldebklghoaaDoor
