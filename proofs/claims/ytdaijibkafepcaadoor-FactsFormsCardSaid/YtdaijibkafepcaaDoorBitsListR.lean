/-
  THE BITS LAYER: the reference's List and Count, the law's same; Of of both.
-/
import Derived.Test.YtdaijibkafepcaaDoorBitsList
import Derived.Test.YtdaijibkafepcaaDoorBitsMove
import Derived.Test.YtdaijibkafepcaaDoorRowV
namespace Go.Proofs.YtdaijibkafepcaaDoor
open Go.RowKit
set_option linter.unusedVariables false

def memK (s k : Nat) : List Nat := (List.range k).filter s.testBit
theorem memK_yes {s k : Nat} (h : s.testBit k = true) : memK s (k + 1) = memK s k ++ [k] := by simp [memK, List.range_succ, List.filter_append, h]
theorem memK_no {s k : Nat} (h : s.testBit k = false) : memK s (k + 1) = memK s k := by simp [memK, List.range_succ, List.filter_append, h]
theorem memK_length (s k : Nat) : (memK s k).length ≤ k := by
  unfold memK
  exact Nat.le_trans (List.length_filter_le _ _) (by simp)

set_option maxRecDepth 100000 in
set_option maxHeartbeats 2000000 in
theorem listR_any (s : Nat) (hs : s < 18446744073709551616) (w : World) :
    Calls Tryd.prog 20 #[.int .u64 s] w (VRet (ints (mem s)) w) := by
  obtain ⟨i0, hi, hz0, hz1, hz2⟩ := info_parts infoI
  go_enter Tryd.func20, Tryd.ntmps20
  go_wp2_with fail
  go_loopw [3, 4] (fun l i wr => ∃ k n : Nat, k ≤ 64 ∧ n ≤ k ∧ i = .int .i64 k ∧ Hid ((memK s k).length = n) ∧ Hid (wr.ownsRow w.heap.size 3 1 l n (ints (memK s k))) ∧ Below w.heap.size w wr) (fun _ i _ => 64 - (intOf i).toNat)
  case atStart => exact ⟨0, 0, Nat.zero_le _, Nat.zero_le _, rfl, rfl, World.ownsRow_nil w w.heap.size _ 1, Below.refl _ _⟩
  case round =>
    obtain ⟨k, n, hk, hn, rfl, HL, HO, hb⟩ := hrel
    by_cases hlt : k < 64
    · cases hbit : s.testBit k
      · have HN := Lib.hid (memK_no hbit)
        have HL2 : Hid ((memK s (k + 1)).length = n) := by show _ = _; rw [HN.out]; exact HL.out
        have HO2 : Hid (wr.ownsRow w.heap.size 3 1 u3 n (ints (memK s (k + 1)))) := by rw [HN.out]; exact HO.out
        have HH := Lib.hid (show hasB s k = false by simp [hasB, hbit])
        clear hbit
        go_wp2_with fail
        refine (hasR_is s k false HH.out hs _).mono ?_
        rintro e w1 ⟨rfl, rfl⟩
        go_wp2
        go_roundw
        case rel => exact ⟨k + 1, n, by omega, by omega, by go_num, HL2, HO2, hb⟩
        case measure => simp [intOf]; omega
      · have HN := Lib.hid (memK_yes hbit)
        have HH := Lib.hid (show hasB s k = true by simp [hasB, hbit]; omega)
        have HL2 : Hid ((memK s (k + 1)).length = n + 1) := by show _ = _; rw [HN.out]; simp [HL.out]
        clear hbit
        go_wp2_with fail
        refine (hasR_is s k true HH.out hs _).mono ?_
        rintro e w1 ⟨rfl, rfl⟩
        go_wp2_with (at_builtin; go_loud (refine wpList_append_own _ rfl (.tmp 12) (.tmp 14) 22 rfl w.heap.size 3 i0 _ 1 8 Tryd.underlying22 hi hz0 hz1 hz2 rfl (by decide) u3 n _ rfl (HO.out.alloc _) ⟨wr.heap.size, 0, none⟩ 1 1 [.int .i64 k] rfl rfl (World.news_of_block (cs := #[.int .i64 k]) (t := 3) (fr := (0, 0)) (heapV_new wr _)) (by simp [Value.oneCell']) (by unfold maxLen; omega) (by omega) (by have := hb.size; simp; omega) ?_; intro v' w5 hown1 hgrow hnil; have hB4 : Below w.heap.size w w5 := (hb.alloc hb.size _).grown hgrow (by have := hb.size; simp; omega) (fun j e => (HO.out.lt j e).1)))
        have HO2 : Hid (w5.ownsRow w.heap.size 3 1 v' (n + 1) (ints (memK s (k + 1)))) := by rw [HN.out, ints_snoc]; exact hown1
        clear hown1
        go_wp2
        go_roundw
        case rel => exact ⟨k + 1, n + 1, by omega, by omega, by go_num, HL2, HO2, hB4⟩
        case measure => simp [intOf]; omega
    · obtain rfl : k = 64 := by omega
      go_wp2
      go_ret
      exact vret_own (vs := ints (mem s)) HO.out hb
theorem countR_is (s : Nat) (hs : s < 18446744073709551616) (r : Nat) (hr : ones s = r) (w : World) :
    Calls Tryd.prog 25 #[.int .u64 s] w fun e w' => e = .returned (.int .i64 r) ∧ Below w.heap.size w w' := by
  have HR : Hid ((ints (mem s)).length = r) := by show _ = _; rw [ints_length, mem_count, hr]
  go_enter Tryd.func25, Tryd.ntmps25
  go_wp2_with fail
  refine (listR_any s hs _).mono ?_
  rintro e w1 ⟨a, cap, rfl, hrow, hf, hb⟩
  rw [HR.out]
  go_wp2
  go_ret
  exact ⟨rfl, hb⟩

theorem same_any (a b : Option Addr) (capa capb : Nat) (xs : List Int) (w : World) (hm : xs.length ≤ maxLen) (hra : VRow w a (xs.map (Value.int .i64))) (hrb : VRow w b (xs.map (Value.int .i64))) (n : Nat) (hn : xs.length = n) :
    Calls Tryd.prog 18 #[.slice a n capa, .slice b n capb] w fun e w' => e = .returned (.bool true) ∧ Below w.heap.size w w' := by
  have HA := Lib.hid hra; have HB := Lib.hid hrb
  have hl : (xs.map (Value.int .i64)).length = n := by simpa using hn
  have hmn : n ≤ maxLen := by omega
  have HN := Lib.hid hn
  unfold maxLen at hmn
  clear hra hrb hm hn
  go_enter Tryd.func18, Tryd.ntmps18
  go_wp2_with fail
  go_loopw [5] (fun i wr => ∃ k : Nat, k ≤ n ∧ i = .int .i64 k ∧ Below w.heap.size w wr) (fun i _ => n - (intOf i).toNat)
  case atStart => exact ⟨0, Nat.zero_le _, rfl, Below.refl _ _⟩
  case round =>
    obtain ⟨k, hk, rfl, hb⟩ := hrel
    by_cases hlt : k < n
    · obtain ⟨ba, offa, va, rfl, hxa, hba, a0⟩ := (HA.out.below hb).at_ (by rw [hl]; exact hlt)
      obtain ⟨bb, offb, vb, rfl, hxb, hbb, b0⟩ := (HB.out.below hb).at_ (by rw [hl]; exact hlt)
      obtain rfl : va = vb := Option.some.inj (hxa.symm.trans hxb)
      obtain ⟨z, hz⟩ : ∃ z, xs[k]? = some z := ⟨xs[k]'(by rw [HN.out]; exact hlt), by simp [HN.out, hlt]⟩
      have hv : va = .int .i64 z := by rw [List.getElem?_map, hz] at hxa; exact (Option.some.inj hxa).symm
      subst hv
      have g0 : (0 : Int) ≤ (k : Int) := by omega
      have g1 : (k : Int) < (n : Int) := by omega
      clear hxa hxb hz hl
      go_wp2_with fail
      go_quiet (fail)
      go_wp2
      go_roundw
      case rel => exact ⟨k + 1, by omega, by go_num, below_drewN hb _⟩
      case measure => simp [intOf]; omega
    · go_wp2
      go_ret
      exact ⟨rfl, hb⟩
end Go.Proofs.YtdaijibkafepcaaDoor
