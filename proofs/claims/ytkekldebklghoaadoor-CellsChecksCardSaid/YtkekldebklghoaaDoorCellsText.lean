/-
  THE CELLS LAYER: the text of a row of cells, given what one cell's text is.
-/
import Derived.Test.YtkekldebklghoaaDoorCellsCopy
import Derived.Test.YtkekldebklghoaaDoorShelf
namespace Go.Proofs.YtkekldebklghoaaDoor
open Go.RowKit
set_option linter.unusedVariables false

theorem infoS : (Tryd.prog.info? 9).map (fun i => (i.zero, i.size, i.bytes)) = some (some (.string ⟨#[]⟩), 1, 16) := by kernel_rfl
def strs (tx : Cl → ByteArray) (xs : List Cl) : List Value := xs.map fun x => .string (tx x)
def textC (tx : Cl → ByteArray) (xs : List Cl) : ByteArray := ⟨(Lib.join (xs.map fun x => (tx x).data.toList) [44]).toArray⟩
def emptyS : Value := .string ⟨#[]⟩
theorem strs_len (tx : Cl → ByteArray) (xs : List Cl) : (strs tx xs).length = xs.length := by simp [strs]
theorem fills_step {full : List Value} {n k : Nat} {z : Value} (hl : full.length = n) (hz : full[k]? = some z) : (full.take k ++ List.replicate (n - k) emptyS).set k z = full.take (k + 1) ++ List.replicate (n - (k + 1)) emptyS := by
  obtain ⟨hk, ex⟩ := List.getElem?_eq_some_iff.1 hz
  have hl2 : (full.take k).length = k := by simp; omega
  rw [List.set_append_right _ _ (by omega), hl2, Nat.sub_self, show n - k = (n - (k + 1)) + 1 by omega, List.replicate_succ, List.set_cons_zero, List.take_succ_eq_append_getElem hk, List.append_assoc, ex]
  rfl
theorem fills_at {full : List Value} {n k : Nat} (hl : full.length = n) (hk : k < n) : (full.take k ++ List.replicate (n - k) emptyS)[k]? = some emptyS := by
  have hl2 : (full.take k).length = k := by simp; omega
  rw [List.getElem?_append_right (by omega), hl2, Nat.sub_self, List.getElem?_replicate, if_pos (by omega)]

set_option maxRecDepth 100000 in
set_option maxHeartbeats 2000000 in
theorem text_of (tx : Cl → ByteArray) (d : Int) (a : Option Addr) (cap : Nat) (xs : List Cl) (w : World) (ht : Tabs w) (hm : xs.length ≤ maxLen) (hra : CRow w a xs) (hba : Bits xs) (hc : chkC d xs = 0)
    (htx : ∀ (i : Nat) x w, xs[i]? = some x → Tabs w → Calls Tryd.prog 47 #[x.val] w fun e w' => e = .returned (.string (tx x)) ∧ Below w.heap.size w w')
    (hlen : (Lib.join (xs.map fun x => (tx x).data.toList) [44]).length ≤ 140737488355328) (t : ByteArray) (hte : textC tx xs = t) :
    Calls Tryd.prog 14 #[.int .i64 d, .slice a xs.length cap] w fun e w' => e = .returned (.tuple #[.string t, .int .i64 0]) ∧ Below w.heap.size w w' := by
  have HT := Lib.hid ht; have HM := Lib.hid hm; have HRA := Lib.hid hra; have HBA := Lib.hid hba; have HC := Lib.hid hc; have HTX := Lib.hid htx; have HLEN := Lib.hid hlen; have HTE := Lib.hid hte
  obtain ⟨d0, d1, la, oka⟩ := chkC_zero hc
  obtain ⟨n, rfl⟩ : ∃ n : Nat, d = n := ⟨d.toNat, by omega⟩
  have hla : xs.length = n := by omega
  have hn : n ≤ 64 := by omega
  have ga1 : n ≤ xs.length := by omega
  have ga2 : xs.length ≤ n := by omega
  have HN := Lib.hid ((strs_len tx xs).trans hla)
  have HNL := Lib.hid hla
  obtain ⟨i0, hi, hz0, hz1, hz2⟩ := info_parts infoS
  clear ht hm hra hba hc htx hlen hte d0 d1 la oka hla
  go_enter Tryd.func14, Tryd.ntmps14
  go_wp2_with fail
  refine (check_any _ a cap xs _ HM.out HRA.out HBA.out).mono ?_
  rintro e w1 ⟨rfl, hb1⟩
  rw [HC.out]
  go_wp2_with (at_make; refine wpList_make_full _ rfl (.tmp 16) (.tmp 16) 64 rfl w.heap.size 9 i0 _ 1 Tryd.underlying64 hi hz0 hz1 .i64 .i64 (n : Int) (n : Int) n rfl rfl rfl rfl (by rw [hz2]; omega) (by unfold maxLen; omega) hb1.size ?_; intro w2 hown2 hgrow2)
  have HO1 : Hid (w2.ownsRow w.heap.size 9 1 (.slice (some ⟨w1.heap.size, 0, none⟩) n n) n ((strs tx xs).take 0 ++ List.replicate (n - 0) emptyS)) := by
    rw [List.take_zero, List.nil_append, Nat.sub_zero, ← toList_madeCells_one]
    rw [show (Value.string ⟨#[]⟩).cells = #[emptyS] from rfl, Nat.mul_one] at hown2
    exact hown2
  have hb2 : Below w.heap.size w w2 := hb1.grown hgrow2 hb1.size (fun j e => by cases e)
  have hsz := hb1.size
  clear hown2
  go_wp2_with fail
  go_loopw [20] (fun i wr => ∃ k : Nat, k ≤ n ∧ i = .int .i64 k ∧ Hid (wr.ownsRow w.heap.size 9 1 (.slice (some ⟨w1.heap.size, 0, none⟩) n n) n ((strs tx xs).take k ++ List.replicate (n - k) emptyS)) ∧ Below w.heap.size w wr) (fun i _ => n - (intOf i).toNat)
  case atStart => exact ⟨0, Nat.zero_le _, rfl, HO1, hb2⟩
  case round =>
    obtain ⟨k, hk, rfl, HO, hb⟩ := hrel
    by_cases hlt : k < n
    · obtain ⟨bb, offb, y, rfl, hy, hbb, b0, b1, b2⟩ := HRA.out.at_ (show k < xs.length by omega)
      have HF : Hid (_ ∧ _ ∧ _) := ⟨b0, b1, b2⟩
      clear b0 b1 b2
      obtain ⟨b0, b1, b2⟩ := three_below hb hbb HF.out
      have HY := Lib.hid hy
      obtain ⟨z, hz⟩ : ∃ z, tx y = z := ⟨_, rfl⟩
      have HZ := Lib.hid (fills_step (full := strs tx xs) (n := n) (k := k) (z := .string z) HN.out (by rw [← hz]; simp [strs, hy]))
      have HA := Lib.hid (fills_at (full := strs tx xs) (n := n) HN.out hlt)
      have HJ := Lib.hid hz
      clear hy hz
      have g0 : (0 : Int) ≤ (k : Int) := by omega
      have g2 : (k : Int) < (xs.length : Int) := by omega
      have g3 : (k : Int) < (n : Int) := by omega
      go_wp2_with (go_at_call 47; go_loud (refine (HTX.out k y _ HY.out (HT.out.below ((hb.alloc hb.size _)))).mono ?_; rintro e w3 ⟨rfl, hb3⟩; rw [HJ.out]; have hB3 : Below w.heap.size w w3 := (hb.alloc hb.size _).trans (hb3.mono (by have := hb.size; simp; omega)); have hW3 : Below wr.heap.size wr w3 := ((Below.refl _ _).alloc (Nat.le_refl _) _).trans (hb3.mono (by simp)); have o3 := own_below HO.out hW3; have e0 := (o3.cellAt k (by omega)).trans HA.out; have q0 := o3.frozenAt k; have O3 := Lib.hid o3; clear o3))
      have HS := Lib.hid (O3.out.stored k (.string z)).1
      rw [HZ.out] at HS
      have HB : Hid (Below w.heap.size w (w3.setCell ⟨w1.heap.size, k, none⟩ (.string z))) := hB3.setCell (p := ⟨w1.heap.size, k, none⟩) hsz _
      clear e0 q0 O3
      go_wp2
      go_roundw
      case rel => exact ⟨k + 1, by omega, by go_num, HS, HB.out⟩
      case measure => simp [intOf]; omega
    · obtain rfl : n = k := by omega
      have HE : Hid (wr.ownsRow w.heap.size 9 1 (.slice (some ⟨w1.heap.size, 0, none⟩) n n) n (strs tx xs)) := by
        have := HO.out
        rw [List.take_of_length_le (by rw [HN.out]; exact Nat.le_refl _), Nat.sub_self, List.replicate_zero, List.append_nil] at this
        exact this
      have hll : (xs.map tx).length = n := by rw [List.length_map]; exact HNL.out
      have hlt0 : w1.heap.size < wr.heap.size := by
        rcases HE.out.2 with ⟨h, _⟩ | ⟨g, cap, cur, hv, hg, hh, _⟩
        · cases h
        · cases hv
          exact (Array.getElem?_eq_some_iff.1 hh).1
      have hJ := Tryd.strings_Join w1.heap.size 0 n (xs.map tx) ⟨#[44]⟩ wr (fun j x hj => by
        have hjl := (List.getElem?_eq_some_iff.1 hj).1
        have h2 := HE.out.cellAt j (by omega)
        rw [Nat.zero_add, h2]
        simp [strs] at hj ⊢
        obtain ⟨c, e1, e2⟩ := hj
        exact ⟨c, e1, by rw [e2]⟩) hlt0 (by omega) (by omega) (by have := HLEN.out; simp [List.map_map] at this ⊢; exact this)
      rw [hll] at hJ
      go_wp2_with fail
      refine hJ.mono ?_
      rintro e w4 ⟨rfl, hb4⟩
      go_wp2
      go_ret2
      refine ⟨?_, hb.trans (hb4.mono hb.size)⟩
      rw [← HTE.out]
      simp [textC]
      rfl
end Go.Proofs.YtkekldebklghoaaDoor
