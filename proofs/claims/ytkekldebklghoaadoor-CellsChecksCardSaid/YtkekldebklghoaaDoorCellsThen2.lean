/-
  THE CELLS LAYER: Then of the program.
-/
import Derived.Test.YtkekldebklghoaaDoorCellsThen
namespace Go.Proofs.YtkekldebklghoaaDoor
open Go.RowKit
set_option linter.unusedVariables false

def z0 : Cl := ⟨0, 0, 0⟩
theorem made_flat (n : Nat) : (madeCells (Value.agg #[.int .u64 0, .int .i64 0, .int .i64 0]).cells (n * 3)).toList = flat (List.replicate n z0) := by
  have hc : (Value.agg #[.int .u64 0, .int .i64 0, .int .i64 0]).cells = #[.int .u64 0, .int .i64 0, .int .i64 0] := rfl
  rw [hc]
  apply List.ext_getElem?
  intro j
  by_cases hj : j < n * 3
  · have e : (List.replicate n z0)[j / 3]? = some z0 := by rw [List.getElem?_replicate, if_pos (by omega)]
    obtain ⟨f0, f1, f2⟩ := flat_at e
    have hr : j % 3 = 0 ∨ j % 3 = 1 ∨ j % 3 = 2 := by omega
    have hlt : j < (madeCells #[Value.int .u64 0, .int .i64 0, .int .i64 0] (n * 3)).toList.length := by simp [madeCells]; exact hj
    rcases hr with h | h | h
    · have ej : j = j / 3 * 3 := by omega
      rw [← ej] at f0
      rw [f0, List.getElem?_eq_getElem hlt]
      simp [madeCells, h, z0]
    · have ej : j = j / 3 * 3 + 1 := by omega
      rw [← ej] at f1
      rw [f1, List.getElem?_eq_getElem hlt]
      simp [madeCells, h, z0]
    · have ej : j = j / 3 * 3 + 2 := by omega
      rw [← ej] at f2
      rw [f2, List.getElem?_eq_getElem hlt]
      simp [madeCells, h, z0]
  · rw [List.getElem?_eq_none (by simp [madeCells]; omega), List.getElem?_eq_none (by rw [flat_length]; simp; omega)]

theorem fill_step {full : List Cl} {n k : Nat} {z : Cl} (hl : full.length = n) (hz : full[k]? = some z) : (full.take k ++ List.replicate (n - k) z0).set k z = full.take (k + 1) ++ List.replicate (n - (k + 1)) z0 := by
  obtain ⟨hk, ex⟩ := List.getElem?_eq_some_iff.1 hz
  have hl2 : (full.take k).length = k := by simp; omega
  rw [List.set_append_right _ _ (by omega), hl2, Nat.sub_self, show n - k = (n - (k + 1)) + 1 by omega, List.replicate_succ, List.set_cons_zero, List.take_succ_eq_append_getElem hk, List.append_assoc, ex]
  rfl
theorem fill_at {full : List Cl} {n k : Nat} (hl : full.length = n) (hk : k < n) : (full.take k ++ List.replicate (n - k) z0)[k]? = some z0 := by
  have hl2 : (full.take k).length = k := by simp; omega
  rw [List.getElem?_append_right (by omega), hl2, Nat.sub_self, List.getElem?_replicate, if_pos (by omega)]
theorem fill_len {full : List Cl} {n k : Nat} (hl : full.length = n) (hk : k ≤ n) : (full.take k ++ List.replicate (n - k) z0).length = n := by simp; omega
theorem okAt_in {n : Nat} {c : Cl} (hf : c.f < 18446744073709551616) (h : okAt n c = true) (i : Nat) (hb : c.f.testBit i = true) : i < n := by
  have h1 : inside n c.f = true := by
    unfold okAt cellOk at h
    cases hi : inside n c.f
    · rw [hi] at h; simp at h
    · rfl
  rcases Nat.lt_or_ge i n with hi | hi
  · exact hi
  · rcases Nat.lt_or_ge i 64 with h64 | h64
    · rw [(inside_bits n c.f hf).1 h1 i hi h64] at hb; cases hb
    · rw [Nat.testBit_lt_two_pow (Nat.lt_of_lt_of_le hf (Nat.le_trans (by decide : 18446744073709551616 ≤ 2 ^ 64) (Nat.pow_le_pow_right (by decide) h64)))] at hb; cases hb

set_option maxRecDepth 100000 in
set_option maxHeartbeats 2000000 in
theorem then_any (d : Int) (a b : Option Addr) (capa capb : Nat) (xs ys : List Cl) (w : World) (ht : Tabs w) (hma : xs.length ≤ maxLen) (hmb : ys.length ≤ maxLen) (hra : CRow w a xs) (hrb : CRow w b ys) (hba : Bits xs) (hbb : Bits ys) (c : Int) (hc : chk2C d xs ys = c) :
    Calls Tryd.prog 25 #[.int .i64 d, .slice a xs.length capa, .slice b ys.length capb] w (CellsRet (thenR d xs ys) c w) := by
  have HT := Lib.hid ht
  have HMA := Lib.hid hma; have HMB := Lib.hid hmb; have HRA := Lib.hid hra; have HRB := Lib.hid hrb; have HBA := Lib.hid hba; have HBB := Lib.hid hbb
  have HC := Lib.hid hc
  clear ht hma hmb hra hrb hba hbb
  by_cases h0 : c = 0
  · subst h0
    obtain ⟨k1, k2⟩ := chk2C_zero hc
    obtain ⟨d0, d1, la, oka⟩ := chkC_zero k1
    obtain ⟨_, _, lb, okb⟩ := chkC_zero k2
    obtain ⟨n, rfl⟩ : ∃ n : Nat, d = n := ⟨d.toNat, by omega⟩
    have hla : xs.length = n := by omega
    have hlb : ys.length = n := by omega
    have HR := Lib.hid (show thenR n xs ys = thenC xs ys by simp [thenR, hc])
    have HN := Lib.hid (then_length (xs := xs) hlb)
    have OKA := Lib.hid oka; have OKB := Lib.hid okb
    have ga1 : n ≤ xs.length := by omega
    have gb1 : n ≤ ys.length := by omega
    have ga2 : xs.length ≤ n := by omega
    have gb2 : ys.length ≤ n := by omega
    have hn : n ≤ 64 := by omega
    obtain ⟨i0, hi, hz0, hz1, hz2⟩ := info_parts infoC
    clear hc k1 k2 d0 d1 la oka lb okb hla hlb
    go_enter Tryd.func25, Tryd.ntmps25
    go_wp2_with fail
    refine (checkBoth_any _ a b capa capb xs ys _ HMA.out HMB.out HRA.out HRB.out HBA.out HBB.out 0 HC.out).mono ?_
    rintro e w1 ⟨rfl, hb1⟩
    go_wp2_with (at_make; refine wpList_make_full _ rfl (.tmp 18) (.tmp 18) 22 rfl w.heap.size 51 i0 _ 3 Tryd.underlying22 hi hz0 hz1 .i64 .i64 (n : Int) (n : Int) n rfl rfl rfl rfl (by rw [hz2]; omega) (by unfold maxLen; omega) hb1.size ?_; intro w2 hown2 hgrow2)
    have HO1 : Hid (w2.ownsRow w.heap.size 51 3 (.slice (some ⟨w1.heap.size, 0, none⟩) n n) n (flat ((thenC xs ys).take 0 ++ List.replicate (n - 0) z0))) := by
      rw [List.take_zero, List.nil_append, Nat.sub_zero, ← made_flat]; exact hown2
    have hb2 : Below w.heap.size w w2 := hb1.grown hgrow2 hb1.size (fun j e => by cases e)
    have hsz := hb1.size
    clear hown2
    go_wp2_with fail
    go_loopw [21] (fun i wr => ∃ k : Nat, k ≤ n ∧ i = .int .i64 k ∧ Hid (wr.ownsRow w.heap.size 51 3 (.slice (some ⟨w1.heap.size, 0, none⟩) n n) n (flat ((thenC xs ys).take k ++ List.replicate (n - k) z0))) ∧ Below w.heap.size w wr) (fun i _ => n - (intOf i).toNat)
    case atStart => exact ⟨0, Nat.zero_le _, rfl, HO1, hb2⟩
    case round =>
      obtain ⟨k, hk, rfl, HO, hb⟩ := hrel
      by_cases hlt : k < n
      · obtain ⟨bb, offb, y, rfl, hy, hbb, b0, b1, b2⟩ := HRB.out.at_ (show k < ys.length by omega)
        have HF : Hid (_ ∧ _ ∧ _) := ⟨b0, b1, b2⟩
        clear b0 b1 b2
        obtain ⟨b0, b1, b2⟩ := three_below hb hbb HF.out
        have OY := Lib.hid (ok_get HBB.out OKB.out hy)
        have OIN : Hid (∀ i, y.f.testBit i = true → i < xs.length) := fun i h => Nat.lt_of_lt_of_le (okAt_in OY.out.1 (List.all_eq_true.1 OKB.out y (List.mem_of_getElem? hy)) i h) (by omega)
        have OAL : Hid (∀ (i : Nat) x, xs[i]? = some x → x.ok) := fun i x hi => ok_get HBA.out OKA.out hi
        obtain ⟨z, hz⟩ : ∃ z, ofC xs y = z := ⟨_, rfl⟩
        have HZ := Lib.hid (fill_step (full := thenC xs ys) (n := n) (k := k) (z := z) HN.out (by rw [← hz]; simp [thenC, hy]))
        have HA := Lib.hid (fill_at (full := thenC xs ys) (n := n) HN.out hlt)
        have HLEN := Lib.hid (fill_len (full := thenC xs ys) (n := n) HN.out hk)
        have HJ := Lib.hid hz
        clear hy hz
        have g0 : (0 : Int) ≤ (k : Int) := by omega
        have g2 : (k : Int) < (ys.length : Int) := by omega
        have g3 : (k : Int) < (n : Int) := by omega
        go_wp2_with (go_at_call 60; refine (ofRow_any a capa xs y _ (HT.out.below hb) (by omega) (HRA.out.below hb) OAL.out OY.out OIN.out z HJ.out).mono ?_; rintro e w3 ⟨rfl, hb3⟩; have hB3 : Below wr.heap.size wr w3 := hb3; have o3 := own_below HO.out hB3; have f3 := flat_at HA.out; have e0 := (o3.cellAt (k * 3) (by omega)).trans f3.1; have e1 := (o3.cellAt (k * 3 + 1) (by omega)).trans f3.2.1; have e2 := (o3.cellAt (k * 3 + 2) (by omega)).trans f3.2.2; have q0 := o3.frozenAt (k * 3); have q1 := o3.frozenAt (k * 3 + 1); have q2 := o3.frozenAt (k * 3 + 2); have O3 := Lib.hid o3; clear o3 f3)
        have HS := Lib.hid (own_store3 O3.out (by rw [HLEN.out]; exact hlt) z)
        rw [HZ.out] at HS
        have HB : Hid (Below w.heap.size w (((w3.setCell ⟨w1.heap.size, k * 3, none⟩ (.int .u64 (z.f : Int))).setCell ⟨w1.heap.size, k * 3 + 1, none⟩ (.int .i64 z.k)).setCell ⟨w1.heap.size, k * 3 + 2, none⟩ (.int .i64 z.v))) := (((hb.trans (hB3.mono hb.size)).setCell (p := ⟨w1.heap.size, k * 3, none⟩) hsz _).setCell (p := ⟨w1.heap.size, k * 3 + 1, none⟩) hsz _).setCell (p := ⟨w1.heap.size, k * 3 + 2, none⟩) hsz _
        clear e0 e1 e2 q0 q1 q2 O3
        go_wp2
        go_roundw
        case rel => exact ⟨k + 1, by omega, by go_num, HS, HB.out⟩
        case measure => simp [intOf]; omega
      · obtain rfl : n = k := by omega
        have HE : Hid (wr.ownsRow w.heap.size 51 3 (.slice (some ⟨w1.heap.size, 0, none⟩) n n) n (flat (thenR n xs ys))) := by
          have := HO.out
          rw [List.take_of_length_le (by rw [HN.out]; exact Nat.le_refl _), Nat.sub_self, List.replicate_zero, List.append_nil] at this
          rw [HR.out]; exact this
        go_wp2
        go_ret2
        exact cellsRet_own HE.out hb 0
  · have HR := Lib.hid (show thenR d xs ys = [] by simp [thenR, hc, h0])
    have hne : (c != 0) = true := by simpa using h0
    clear hc h0
    go_enter Tryd.func25, Tryd.ntmps25
    go_wp2_with fail
    refine (checkBoth_any _ a b capa capb xs ys _ HMA.out HMB.out HRA.out HRB.out HBA.out HBB.out c HC.out).mono ?_
    rintro e w1 ⟨rfl, hb1⟩
    go_wp2
    go_ret2
    rw [HR.out]
    exact cellsRet_nil c hb1
end Go.Proofs.YtkekldebklghoaaDoor
