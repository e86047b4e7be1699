/-
  THE CELLS LAYER: a cell's text: the program's cellText.
-/
import Derived.Test.YtkekldebklghoaaDoorCellsTexts
import Derived.Test.YtkekldebklghoaaDoorCellsOfRow
namespace Go.Proofs.YtkekldebklghoaaDoor
open Go.RowKit
set_option linter.unusedVariables false

def strOf (ps : List (List UInt8)) : List Value := ps.map fun p => .string (bytes p)
theorem partsTo_skip {f k : Nat} : ∀ {n : Nat}, k ≤ n → (∀ i, k ≤ i → i < n → f.testBit i = false) → partsTo f n = partsTo f k
  | 0, h, _ => by
    obtain rfl : k = 0 := by omega
    rfl
  | n + 1, h, hb => by
    by_cases e : k = n + 1
    · subst e; rfl
    · rw [partsTo_succ, hb n (by omega) (by omega)]
      exact partsTo_skip (by omega) (fun i h1 h2 => hb i h1 (by omega))
theorem parts_len (f : Nat) : ∀ k, (partsTo f k).length ≤ k
  | 0 => Nat.le_refl _
  | k + 1 => by
    have := parts_len f k
    rw [partsTo_succ]; split
    · simp; omega
    · omega

theorem own_cap {w : World} {base g cap n : Nat} {E s : Nat} {ys : List Value} (h : w.ownsRow base E s (.slice (some ⟨g, 0, none⟩) n cap) n ys) : n ≤ cap := by
  rcases h.2 with ⟨h, _⟩ | ⟨g', cap', cur, hv, hg, hh, h2, _⟩
  · cases h
  · cases hv; exact h2
theorem joinRow {w : World} {base g cap m : Nat} {ps : List (List UInt8)} (h : w.ownsRow base 9 1 (.slice (some ⟨g, 0, none⟩) m cap) m (strOf ps)) (hgl : g < w.heap.size) (hm : m = ps.length) (hb : m ≤ 140737488355328) (hlen : (Lib.join ps [124]).length ≤ 140737488355328) :
    Calls Tryd.prog 48 #[.slice (some ⟨g, 0, none⟩) m cap, .string ⟨#[124]⟩] w fun e w' => e = .returned (.string (bytes (Lib.join ps [124]))) ∧ Below w.heap.size w w' := by
  have hps : (ps.map bytes).map (·.data.toList) = ps := by rw [List.map_map]; simp [bytes, Function.comp_def]
  have hJ := Tryd.strings_Join g 0 cap (ps.map bytes) ⟨#[124]⟩ w (fun j x hj => by
    have hjl : j < m := by have := (List.getElem?_eq_some_iff.1 hj).1; simp at this; omega
    have h2 := h.cellAt j (by omega)
    rw [Nat.zero_add, h2]
    simp [strOf] at hj ⊢
    obtain ⟨c, e1, e2⟩ := hj
    exact ⟨c, e1, by rw [e2]⟩) hgl (by simp; omega) (by have := own_cap h; simp; omega) (by rw [hps]; exact hlen)
  rw [hps, List.length_map, ← hm] at hJ
  exact hJ
theorem ctz_le (x : Nat) (h0 : x ≠ 0) (h : x < 18446744073709551616) : Lib.ctz 64 x < 64 := by
  obtain ⟨m, _, h2⟩ := low_form x h0 h
  exact h2

set_option maxRecDepth 100000 in
set_option maxHeartbeats 2000000 in
theorem cellText_any (c : Cl) (w : World) (ht : Tabs w) (hc : c.ok) (hv0 : -9223372036854775808 ≤ c.v) (hv1 : c.v ≤ 9223372036854775807) (t : ByteArray) (htt : cellB c = t) :
    Calls Tryd.prog 47 #[c.val] w fun e w' => e = .returned (.string t) ∧ Below w.heap.size w w' := by
  obtain ⟨i0, hi, hz0, hz1, hz2⟩ := info_parts infoS
  have HT := Lib.hid ht; have HTT := Lib.hid htt; have HC := Lib.hid hc
  have hf := hc.1
  clear ht htt hc
  go_enter Tryd.func47, Tryd.ntmps47
  go_wp2_with fail
  go_loopw [3, 4] (fun l i wr => ∃ (k x n : Nat), k ≤ 64 ∧ n ≤ k ∧ x < 18446744073709551616 ∧ i = .int .u64 x ∧ Hid (∀ i, x.testBit i = (c.f.testBit i && decide (k ≤ i))) ∧ Hid (n = (partsTo c.f k).length) ∧ Hid (wr.ownsRow (w.heap.size + 1) 9 1 l n (strOf (partsTo c.f k))) ∧ Hid (wr.heap[w.heap.size]? = some (.cells #[.int .u64 (c.f : Int), .int .i64 c.k, .int .i64 c.v] 51 (0, 0))) ∧ Hid (w.heap.size + 1 ≤ wr.heap.size) ∧ Below w.heap.size w wr) (fun _ i _ => (intOf i).toNat)
  case atStart =>
    exact ⟨0, c.f, 0, Nat.zero_le _, Nat.zero_le _, hf, rfl, (fun i => by simp), rfl, World.ownsRow_nil _ _ _ _, heap_alloc_new _ _, (by show _ ≤ _; simp), (Below.refl _ _).alloc (Nat.le_refl _) _⟩
  case round =>
    obtain ⟨k, x, n, hk, hn, hx64, rfl, HX, HN, HO, B0, HSZ, hb⟩ := hrel
    obtain ⟨c0, c1, c2, _⟩ := three_cells B0.out
    by_cases hx0 : x = 0
    · have hall : ∀ i, k ≤ i → i < 64 → c.f.testBit i = false := fun i h1 _ => by
        have := HX.out i
        rw [hx0, Nat.zero_testBit] at this
        simp [h1] at this
        exact this
      have HP : Hid (partsTo c.f k = partsTo c.f 64) := (partsTo_skip hk hall).symm
      have hsm := parts_small c.f 64 (Nat.le_refl _)
      have hx00 : (x : Int) = 0 := by omega
      subst hx0
      clear hall hx00
      have hO2 := HO.out
      rw [HP.out] at hO2
      have HO2 := Lib.hid hO2
      have HN2 : Hid (n = (partsTo c.f 64).length) := by show _ = _; rw [← HP.out]; exact HN.out
      clear hO2
      rcases ok_cases HC.out with ⟨f, rfl⟩ | ⟨f, v, rfl⟩ | rfl
      · by_cases h0 : partsTo f 64 = []
        · have HT2 : Hid (t = bytes [45]) := by show _ = _; rw [← HTT.out]; simp [cellB, partsC, kindPart, h0]
          obtain rfl : n = 0 := by rw [HN2.out]; simp [h0]
          have hform : ∃ a cap, u3 = .slice a 0 cap := by
            rcases HO2.out.2 with ⟨e, _⟩ | ⟨g, cap, cur, e, _⟩
            · exact ⟨_, _, e⟩
            · exact ⟨_, _, e⟩
          obtain ⟨a9, cap9, rfl⟩ := hform
          clear h0
          go_wp2
          go_ret
          exact ⟨by rw [HT2.out]; rfl, hb⟩
        · have HT2 : Hid (t = bytes (Lib.join (partsTo f 64) [124])) := by
            show _ = _
            rw [← HTT.out]; simp [cellB, partsC, kindPart, h0]
          have hn0 : 0 < n := by rw [HN2.out]; exact List.length_pos_iff.2 h0
          obtain ⟨g, capg, rfl, hbg, hgl⟩ := HO2.out.form hn0
          have HJ := Lib.hid (joinRow HO2.out hgl HN2.out (by omega) (by rw [← join_barred]; simp at hsm ⊢; omega))
          clear h0 hsm
          go_wp2_with fail
          refine HJ.out.mono ?_
          rintro e w6 ⟨rfl, hb6⟩
          go_wp2
          go_ret
          exact ⟨by rw [HT2.out]; rfl, hb.trans (hb6.mono hb.size)⟩
      · have hl := Lib.itoa_length_le v hv0 hv1
        have hpe : partsC ⟨f, 1, v⟩ = partsTo f 64 ++ [Lib.itoa v] := by simp [partsC, kindPart]
        have HT2 : Hid (t = bytes (Lib.join (partsTo f 64 ++ [Lib.itoa v]) [124])) := by
          show _ = _
          rw [← HTT.out, cellB, hpe, if_neg (by simp)]
        clear hpe
        go_wp2_with (first | (go_at_call 75; refine (formatInt_calls v hv0 hv1 _ (HT.out.below hb)).mono ?_; rintro e w3 ⟨rfl, hb3⟩; have hB3 : Below w.heap.size w w3 := hb.trans (hb3.mono hb.size); have O3 := Lib.hid (own_below HO2.out hb3); have hs3 := hb3.size; have hs0 := HSZ.out) | (at_builtin; go_loud (refine wpList_append_own _ rfl (.tmp 24) (.tmp 28) 64 rfl (w.heap.size + 1) 9 i0 _ 1 16 Tryd.underlying64 hi hz0 hz1 hz2 rfl (by decide) u3 n _ rfl (O3.out.alloc _) ⟨w3.heap.size, 0, none⟩ 1 1 [.string (bytes (Lib.itoa v))] rfl rfl (World.news_of_block (cs := #[.string (bytes (Lib.itoa v))]) (t := 9) (fr := (0, 0)) (heap_alloc_new w3 _)) (by simp [Value.oneCell']) (by unfold maxLen; omega) (by omega) (by simp; omega) ?_; intro v' w5 hown1 hgrow hnil; have hB4 : Below w.heap.size w w5 := (hB3.alloc hB3.size _).grown hgrow (by simp; omega) (fun j e => Nat.le_of_succ_le (O3.out.lt j e).1); obtain ⟨g, capg, hv, hbg, hgl⟩ := hown1.form (by omega : 0 < n + 1); subst hv; have HO5 := Lib.hid hown1; clear hown1)))
        have HJ := Lib.hid (joinRow (ps := partsTo f 64 ++ [Lib.itoa v]) (by have := HO5.out; rw [show strOf (partsTo f 64 ++ [Lib.itoa v]) = strOf (partsTo f 64) ++ [.string (bytes (Lib.itoa v))] by simp [strOf]]; exact this) hgl (by simp; exact HN2.out) (by omega) (by rw [← join_barred, barred_append]; simp [barred] at hsm ⊢; omega))
        have hn9 : ¬ ((n : Int) + 1 = 0) := by omega
        go_wp2_with fail
        refine HJ.out.mono ?_
        rintro e w6 ⟨rfl, hb6⟩
        go_wp2
        go_ret
        exact ⟨by rw [HT2.out]; rfl, hB4.trans (hb6.mono hB4.size)⟩
      · have hpe : partsC manyC = partsTo 0 64 ++ [[42]] := by simp [partsC, kindPart, manyC]
        have HT2 : Hid (t = bytes (Lib.join (partsTo 0 64 ++ [[42]]) [124])) := by
          show _ = _
          rw [← HTT.out, cellB, hpe, if_neg (by simp)]
        clear hpe
        simp only [manyC] at c0 c1 c2 HO2 HN2 hsm
        have hs0 := HSZ.out
        go_wp2_with (first | (at_builtin; go_loud (refine wpList_append_own _ rfl (.tmp 32) (.tmp 33) 64 rfl (w.heap.size + 1) 9 i0 _ 1 16 Tryd.underlying64 hi hz0 hz1 hz2 rfl (by decide) u3 n _ rfl (HO2.out.alloc _) ⟨wr.heap.size, 0, none⟩ 1 1 [.string (bytes [42])] rfl rfl (World.news_of_block (cs := #[.string (bytes [42])]) (t := 9) (fr := (0, 0)) (heap_alloc_new wr _)) (by simp [Value.oneCell']) (by unfold maxLen; omega) (by omega) (by simp; omega) ?_; intro v' w5 hown1 hgrow hnil; have hB4 : Below w.heap.size w w5 := (hb.alloc hb.size _).grown hgrow (by simp; omega) (fun j e => Nat.le_of_succ_le (HO2.out.lt j e).1); obtain ⟨g, capg, hv, hbg, hgl⟩ := hown1.form (by omega : 0 < n + 1); subst hv; have HO5 := Lib.hid hown1; clear hown1)))
        have HJ := Lib.hid (joinRow (ps := partsTo 0 64 ++ [[42]]) (by have := HO5.out; rw [show strOf (partsTo 0 64 ++ [[42]]) = strOf (partsTo 0 64) ++ [.string (bytes [42])] by simp [strOf]]; exact this) hgl (by simp; exact HN2.out) (by omega) (by rw [← join_barred, barred_append]; simp [barred] at hsm ⊢; omega))
        go_wp2_with fail
        refine HJ.out.mono ?_
        rintro e w6 ⟨rfl, hb6⟩
        go_wp2
        go_ret
        exact ⟨by rw [HT2.out]; rfl, hB4.trans (hb6.mono hB4.size)⟩
    · obtain ⟨j, hj⟩ : ∃ j, Lib.ctz 64 x = j := ⟨_, rfl⟩
      have hj64 : j < 64 := by rw [← hj]; exact ctz_le x hx0 hx64
      have hbx : x.testBit j = true := by rw [← hj]; exact low_bit hx0 hx64
      have hbc : c.f.testBit j = true ∧ k ≤ j := by
        have := HX.out j
        rw [hbx] at this
        simpa using this.symm
      have hskip : partsTo c.f j = partsTo c.f k := by
        refine partsTo_skip hbc.2 (fun i h1 h2 => ?_)
        have h3 := HX.out i
        rw [low_none hx0 hx64 (by omega)] at h3
        simp [h1] at h3
        exact h3
      have HPS : Hid (strOf (partsTo c.f (j + 1)) = strOf (partsTo c.f k) ++ [.string (bytes (120 :: Lib.itoa j))]) := by
        show _ = _
        rw [partsTo_succ, if_pos hbc.1, hskip]; simp [strOf]
      have HPN : Hid (n + 1 = (partsTo c.f (j + 1)).length) := by
        show _ = _
        rw [partsTo_succ, if_pos hbc.1, hskip]; simp; exact HN.out
      have HBE : Hid (({ data := #[120] } : ByteArray) ++ { data := (Lib.itoa (j : Int)).toArray } = bytes (120 :: Lib.itoa j)) := bytes_append [120] _
      have HJ := Lib.hid hj
      have HX2 : Hid (∀ i, (x &&& (x - 1)).testBit i = (c.f.testBit i && decide (j + 1 ≤ i))) := by
        intro i
        rw [clear_low hx0 hx64, hj]
        by_cases h1 : i < j
        · rw [low_none hx0 hx64 (by omega)]
          have e9 : ¬ (j + 1 ≤ i) := by omega
          simp [e9]
        · rw [HX.out i]
          by_cases h2 : i = j
          · subst h2; simp
          · have e1 : k ≤ i := by omega
            have e2 : j + 1 ≤ i := by omega
            simp [e1, e2, h2]
      have hlt2 : x &&& (x - 1) < x := clear_lt hx0
      have hxp : (1 : Int) ≤ (x : Int) := by omega
      have hand : bits .and .u64 (x : Int) ((x : Int) - 1) = ((x &&& (x - 1) : Nat) : Int) := by
        rw [← and_cast x (x - 1) hx64 (by omega)]
        congr 1
        omega
      obtain ⟨x', hx'⟩ : ∃ x', x' = x &&& (x - 1) := ⟨_, rfl⟩
      rw [← hx'] at HX2 hlt2 hand
      have hne : ((x : Int) != 0) = true := by simp; omega
      have hx9 : (x : Int) ≤ 18446744073709551615 := by omega
      have hkj := hbc.2
      have hl := Lib.itoa_length_le (j : Int) (by omega) (by omega)
      have HNE := Lib.hid hx0
      have hs0 := HSZ.out
      clear hbx hbc hskip hj hx' hx0
      go_wp2_with (first | (go_at_call 74; refine (ctz_calls x HNE.out hx64 _ (HT.out.below hb)).mono ?_; rintro e w4 ⟨rfl, rfl⟩; rw [HJ.out]) | (go_at_call 73; refine (itoa_calls (j : Int) (by omega) (by omega) _ (HT.out.below hb)).mono ?_; rintro e w3 ⟨rfl, hb3⟩; have hB3 : Below w.heap.size w w3 := hb.trans (hb3.mono hb.size); have O3 := Lib.hid (own_below HO.out hb3); have hs3 := hb3.size; have B3 := Lib.hid (block_stays B0.out hb3)) | (at_builtin; go_loud (refine wpList_append_own _ rfl (.tmp 13) (.tmp 18) 64 rfl (w.heap.size + 1) 9 i0 _ 1 16 Tryd.underlying64 hi hz0 hz1 hz2 rfl (by decide) u3 n _ rfl (O3.out.alloc _) ⟨w3.heap.size, 0, none⟩ 1 1 [.string (({ data := #[120] } : ByteArray) ++ { data := (Lib.itoa (j : Int)).toArray })] rfl rfl (World.news_of_block (cs := #[.string (({ data := #[120] } : ByteArray) ++ { data := (Lib.itoa (j : Int)).toArray })]) (t := 9) (fr := (0, 0)) (heap_alloc_new w3 _)) (by simp [Value.oneCell']) (by unfold maxLen; omega) (by omega) (by simp; omega) ?_; intro v' w5 hown1 hgrow hnil; have hB4 : Below w.heap.size w w5 := (hB3.alloc hB3.size _).grown hgrow (by simp; omega) (fun j e => Nat.le_of_succ_le (O3.out.lt j e).1); have hG : Below (w.heap.size + 1) w3 w5 := ((Below.refl _ _).alloc (by omega) _).grown hgrow (by simp; omega) (fun j e => (O3.out.lt j e).1))))
      have HO5 : Hid (w5.ownsRow (w.heap.size + 1) 9 1 v' (n + 1) (strOf (partsTo c.f (j + 1)))) := by rw [HPS.out]; rw [HBE.out] at hown1; exact hown1
      have B5 : Hid (w5.heap[w.heap.size]? = some (.cells #[.int .u64 (c.f : Int), .int .i64 c.k, .int .i64 c.v] 51 (0, 0))) := (hG.block w.heap.size (by omega)).trans B3.out
      have HS5 : Hid (w.heap.size + 1 ≤ w5.heap.size) := by show _ ≤ _; have := hG.size; omega
      clear hown1
      go_wp2
      go_roundw
      case rel => exact ⟨j + 1, x', n + 1, by omega, by omega, by omega, by first | rfl | rw [hand], HX2, HPN, HO5, B5, HS5, hB4⟩
      case measure => simp [intOf]; omega
end Go.Proofs.YtkekldebklghoaaDoor
