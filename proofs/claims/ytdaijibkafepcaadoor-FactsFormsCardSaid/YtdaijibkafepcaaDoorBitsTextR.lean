/-
  THE BITS LAYER: the text of a set, of the reference; alive; BitsAsks, BitsMoves, BitsSets.
-/
import Derived.Test.YtdaijibkafepcaaDoorBitsText
import Derived.Test.YtdaijibkafepcaaDoorBitsOf
namespace Go.Proofs.YtdaijibkafepcaaDoor
open Go.RowKit
set_option linter.unusedVariables false

theorem grow_below (w : World) (k : Nat) (os : Array Obj) : Below w.heap.size w (Go.Sort.grow (w.drewN k) os) := by
  refine ⟨rfl, rfl, rfl, by simp [Go.Sort.grow, World.drewN], fun i hi => ?_⟩
  show (w.heap ++ os)[i]? = w.heap[i]?
  rw [Array.getElem?_append_left hi]
theorem itoa_calls (n : Int) (h0 : -9223372036854775808 ≤ n) (h1 : n ≤ 9223372036854775807) (w : World) (ht : Tabs w) :
    Calls Tryd.prog 70 #[.int .i64 n] w fun e w' => e = .returned (.string ⟨(Lib.itoa n).toArray⟩) ∧ Below w.heap.size w w' :=
  (Tryd.strconv_Itoa n h0 h1 w ht.pow).mono fun e w' ⟨he, k, os, hw⟩ => ⟨he, by rw [hw]; exact grow_below w k os⟩
def bytes (l : List UInt8) : ByteArray := ⟨l.toArray⟩
theorem bytes_app (a b : List UInt8) : bytes a ++ bytes b = bytes (a ++ b) := by
  apply ByteArray.ext
  simp [bytes, ByteArray.data_append]
theorem bytes_size (l : List UInt8) : (bytes l).size = l.length := by simp [bytes, ByteArray.size]
theorem bodyT_take {l : List Nat} {k x : Nat} (h : l[k]? = some x) : bodyT (l.take (k + 1)) = bodyT (l.take k) ++ (sepT (bodyT (l.take k)) ++ Lib.itoa (x : Int)) := by
  obtain ⟨hk, e⟩ := List.getElem?_eq_some_iff.1 h
  rw [List.take_succ_eq_append_getElem hk, e, bodyT_snoc]
theorem rstr {s t : ByteArray} (h : s = t) : Ending.returned (.string s) = .returned (.string t) := by rw [h]

set_option maxRecDepth 100000 in
set_option maxHeartbeats 1000000 in
theorem textR_any (s : Nat) (hs : s < 18446744073709551616) (w : World) (ht : Tabs w) (t : ByteArray) (htx : textB s = t) :
    Calls Tryd.prog 35 #[.int .u64 s] w fun e w' => e = .returned (.string t) ∧ Below w.heap.size w w' := by
  have HT := Lib.hid ht; have HTX := Lib.hid htx
  have hl64 := mem_length s
  obtain ⟨n, hn⟩ : ∃ n, (ints (mem s)).length = n := ⟨_, rfl⟩
  have HN : Hid ((mem s).length = n) := by show _ = _; rw [← hn, ints_length]
  have HN2 := Lib.hid hn
  rw [HN.out] at hl64
  clear ht htx hn
  go_enter Tryd.func35, Tryd.ntmps35
  go_wp2_with fail
  refine (listR_any s hs _).mono ?_
  rintro e w1 ⟨a, cap, rfl, hrow, hf, hb1⟩
  rw [HN2.out]
  have HROW := Lib.hid hrow
  clear hrow hf
  go_wp2_with fail
  go_loopw [3, 5] (fun o i wr => ∃ (k : Nat) (b : ByteArray), k ≤ n ∧ i = .int .i64 k ∧ o = .string b ∧ Hid (bytes (123 :: bodyT ((mem s).take k)) = b) ∧ Below w1.heap.size w1 wr) (fun _ i _ => n - (intOf i).toNat)
  case atStart => exact ⟨0, _, Nat.zero_le _, rfl, rfl, rfl, Below.refl _ _⟩
  case round =>
    obtain ⟨k, b, hk, rfl, rfl, HB, hb⟩ := hrel
    have hbs : b.size ≤ 200 := by
      rw [← HB.out, bytes_size]
      have h1 := (bodyT_len ((mem s).take k) (fun y hy => mem_lt (List.mem_of_mem_take hy))).1
      have h2 := List.length_take_le k (mem s)
      simp only [List.length_cons]
      omega
    by_cases hlt : k < n
    · obtain ⟨ba, offa, va, rfl, hxa, hba, a0⟩ := (HROW.out.below hb).at_ (by rw [HN2.out]; exact hlt)
      obtain ⟨x, hx⟩ : ∃ x, (mem s)[k]? = some x := ⟨(mem s)[k]'(by rw [HN.out]; exact hlt), by simp [HN.out, hlt]⟩
      have hv : va = .int .i64 x := by rw [ints, List.getElem?_map, hx] at hxa; exact (Option.some.inj hxa).symm
      subst hv
      have hx64 : x < 64 := mem_lt (List.mem_of_getElem? hx)
      have hi64 : (bytes (Lib.itoa (x : Int))).size ≤ 2 := by rw [bytes_size]; exact (itoa_len hx64).2
      have hi65 : (Lib.itoa (x : Int)).length ≤ 2 := (itoa_len hx64).2
      have HX := Lib.hid (bodyT_take hx)
      have g0 : (0 : Int) ≤ (k : Int) := by omega
      have g1 : (k : Int) < (n : Int) := by omega
      have HL := Lib.hid (bodyT_len ((mem s).take k) (fun y hy => mem_lt (List.mem_of_mem_take hy))).2
      have hkl : Hid (((mem s).take k).length = k) := by show _ = _; rw [List.length_take, HN.out]; omega
      clear hxa hx
      by_cases hk0 : k = 0
      · subst hk0
        rw [Nat.add_zero] at a0
        have HN3 : Hid (bytes (123 :: bodyT ((mem s).take 1)) = b ++ bytes (Lib.itoa (x : Int))) := by
          show _ = _
          rw [← HB.out, bytes_app, HX.out]
          simp [bodyT, sepT]
        go_wp2_with fail
        refine (itoa_calls (x : Int) (by omega) (by omega) _ (HT.out.below (hb1.trans (hb.mono hb1.size)))).mono ?_
        rintro e w3 ⟨rfl, hb3⟩
        have hB3 := hb.trans (hb3.mono hb.size)
        go_wp2
        go_roundw
        case rel => exact ⟨1, _, by omega, by go_num, rfl, HN3, hB3⟩
        case measure => simp [intOf]; omega
      · have hk1 : (0 : Int) < (k : Int) := by omega
        have HN3 : Hid (bytes (123 :: bodyT ((mem s).take (k + 1))) = b ++ bytes [44] ++ bytes (Lib.itoa (x : Int))) := by
          show _ = _
          rw [← HB.out, bytes_app, bytes_app, HX.out, sepT_cons (by have := HL.out; rw [hkl.out] at this; omega)]
          simp
        go_wp2_with fail
        refine (itoa_calls (x : Int) (by omega) (by omega) _ (HT.out.below (hb1.trans (hb.mono hb1.size)))).mono ?_
        rintro e w3 ⟨rfl, hb3⟩
        have hB3 := hb.trans (hb3.mono hb.size)
        go_wp2
        go_roundw
        case rel => exact ⟨k + 1, _, by omega, by go_num, rfl, HN3, hB3⟩
        case measure => simp [intOf]; omega
    · have HF : Hid (b ++ bytes [125] = t) := by
        show _ = _
        rw [← HB.out, bytes_app, List.take_of_length_le (by rw [HN.out]; omega), ← HTX.out]; rfl
      go_wp2
      go_ret
      exact ⟨rstr HF.out, hb1.trans (hb.mono hb1.size)⟩

theorem text9 : textB 9 = ⟨#[123, 48, 44, 51, 125]⟩ := by
  have h : textL 9 = [123, 48, 44, 51, 125] := by decide +kernel
  unfold textB; rw [h]
theorem of03V : ofV [0, 3] = 9 := by decide +kernel
theorem of03E : ofE [0, 3] = 0 := by decide +kernel
theorem fieldV9 : fieldV 240 4 4 = -1 := by decide +kernel
theorem fieldE9 : fieldE 4 4 = 0 := by decide +kernel
set_option maxRecDepth 100000 in
set_option maxHeartbeats 1000000 in
theorem awake_any (w : World) (ht : Tabs w) :
    Calls Tryd.prog 21 #[] w fun e w' => e = .returned (.bool true) ∧ Below w.heap.size w w' := by
  have HT := Lib.hid ht
  have hB0 : Below w.heap.size w (w.alloc (.cells #[.int .i64 0, .int .i64 3] 3)) := (Below.refl _ w).alloc (Nat.le_refl _) _
  have hr0 : Hid (VRow (w.alloc (.cells #[.int .i64 0, .int .i64 3] 3)) (some ⟨w.heap.size, 0, none⟩) (([0, 3] : List Int).map (Value.int .i64))) := by
    exact VRow.of_block (cs := [.int .i64 0, .int .i64 3]) (heapV_new w _)
  clear ht
  go_enter Tryd.func21, Tryd.ntmps21
  go_wp2_with fail
  refine (ofA_is _ 2 [0, 3] _ (by simp [maxLen]) hr0.out 2 rfl 9 0 of03V of03E).mono ?_
  rintro e w1 ⟨rfl, hb1⟩
  have hB1 := hB0.trans (hb1.mono hB0.size)
  go_wp2_with fail
  refine (fieldA_is 240 4 4 (by decide) (-1) 0 fieldV9 fieldE9 _).mono ?_
  rintro e w2 ⟨rfl, rfl⟩
  go_wp2_with fail
  refine (textA_any 9 (by decide) _ (HT.out.below hB1)).mono ?_
  rintro e w3 ⟨rfl, hb3⟩
  have hB3 := hB1.trans (hb3.mono hB1.size)
  rw [text9]
  go_wp2
  go_ret
  exact ⟨by first | rfl | (simp; done) | decide, hB3⟩
end Go.Proofs.YtdaijibkafepcaaDoor
