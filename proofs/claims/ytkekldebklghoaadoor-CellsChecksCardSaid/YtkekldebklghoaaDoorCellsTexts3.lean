/-
  THE CELLS LAYER: the text of a row: Text of the program and of the reference.
-/
import Derived.Test.YtkekldebklghoaaDoorCellsTexts2
import Derived.Test.YtkekldebklghoaaDoorCellsHelp
namespace Go.Proofs.YtkekldebklghoaaDoor
open Go.RowKit
set_option linter.unusedVariables false

/-- Each constant fits its type. -/
def Fits (xs : List Cl) : Prop := ∀ c ∈ xs, -9223372036854775808 ≤ c.v ∧ c.v ≤ 9223372036854775807
def cellL (c : Cl) : List UInt8 := (cellB c).data.toList
theorem cellB_bytes (c : Cl) : cellB c = bytes (cellL c) := by
  apply ByteArray.ext
  simp [bytes, cellL]
theorem cellL_small {c : Cl} (hv0 : -9223372036854775808 ≤ c.v) (hv1 : c.v ≤ 9223372036854775807) : (cellL c).length ≤ 1500 := by
  have h := parts_small c.f 64 (Nat.le_refl _)
  have hl := Lib.itoa_length_le c.v hv0 hv1
  have hk : (barred (kindPart c.k c.v)).length ≤ 22 := by
    unfold kindPart
    split
    · simp [barred]; omega
    · split
      · simp [barred]
      · simp [barred]
  unfold cellL cellB
  split
  · simp [bytes]
  · rw [← join_barred, partsC, barred_append]
    simp [bytes]; omega
def joined44 (xs : List Cl) : List UInt8 := Lib.join (xs.map cellL) [44]
theorem join_snoc : ∀ (l : List (List UInt8)) (x : List UInt8), l ≠ [] → Lib.join (l ++ [x]) [44] = Lib.join l [44] ++ 44 :: x
  | [], x, h => absurd rfl h
  | [p], x, _ => by simp [Lib.join, List.intercalate]
  | p :: q :: r, x, _ => by
    have ih := join_snoc (q :: r) x (by simp)
    simp [Lib.join, List.intercalate] at ih ⊢
    exact ih
theorem join_one (x : List UInt8) : Lib.join [x] [44] = x := by simp [Lib.join, List.intercalate]
theorem joined_small {xs : List Cl} (hf : Fits xs) : ∀ k, (joined44 (xs.take k)).length ≤ k * 1501
  | 0 => by simp [joined44, Lib.join]
  | k + 1 => by
    have ih := joined_small hf k
    rcases h : xs[k]? with _ | c
    · rw [List.getElem?_eq_none_iff] at h
      rw [List.take_of_length_le (by omega)]
      rw [List.take_of_length_le h] at ih
      exact Nat.le_trans ih (Nat.mul_le_mul_right _ (Nat.le_succ k))
    · obtain ⟨hk, e⟩ := List.getElem?_eq_some_iff.1 h
      have hc := hf c (List.mem_of_getElem? h)
      have hs := cellL_small hc.1 hc.2
      unfold joined44 at ih ⊢
      rw [List.take_succ_eq_append_getElem hk, e, List.map_append, List.map_cons, List.map_nil]
      by_cases h0 : k = 0
      · subst h0; simp [join_one]; omega
      · rw [join_snoc _ _ (by simp; exact ⟨h0, by rintro rfl; simp at hk⟩)]
        simp at ih ⊢; omega

def textR (d : Int) (xs : List Cl) : ByteArray := if chkC d xs = 0 then bytes (joined44 xs) else bytes []
theorem textC_eq (xs : List Cl) : textC cellB xs = bytes (joined44 xs) := rfl

set_option maxHeartbeats 2000000 in
theorem textP_any (d : Int) (a : Option Addr) (cap : Nat) (xs : List Cl) (w : World) (ht : Tabs w) (hm : xs.length ≤ maxLen) (hra : CRow w a xs) (hba : Bits xs) (hfit : Fits xs) (c : Int) (hc : chkC d xs = c) (t : ByteArray) (htt : textR d xs = t) :
    Calls Tryd.prog 14 #[.int .i64 d, .slice a xs.length cap] w fun e w' => e = .returned (.tuple #[.string t, .int .i64 c]) ∧ Below w.heap.size w w' := by
  by_cases h0 : c = 0
  · subst h0
    obtain ⟨n, rfl, hv⟩ := val_of hc
    refine text_of cellB n a cap xs w ht hm hra hba hc (fun i x w hx ht => ?_) ?_ t ?_
    · have := hfit x (List.mem_of_getElem? hx)
      exact cellText_any x w ht (hv.oks i x hx) this.1 this.2 _ rfl
    · have := joined_small hfit xs.length
      rw [List.take_length] at this
      have h2 := hv.le; have h3 := hv.len
      show (joined44 xs).length ≤ _
      omega
    · rw [textC_eq, ← htt, textR, if_pos hc]
  · have HM := Lib.hid hm; have HRA := Lib.hid hra; have HBA := Lib.hid hba; have HC := Lib.hid hc
    have HT2 : Hid (t = bytes []) := by show _ = _; rw [← htt, textR, if_neg (by rw [hc]; exact h0)]
    have hne : (c != 0) = true := by simpa using h0
    clear hm hra hba hc htt h0 hfit ht
    go_enter Tryd.func14, Tryd.ntmps14
    go_wp2_with fail
    refine (check_any _ a cap xs _ HM.out HRA.out HBA.out).mono ?_
    rintro e w1 ⟨rfl, hb1⟩
    rw [HC.out]
    go_wp2
    go_ret2
    exact ⟨by rw [HT2.out]; rfl, hb1⟩

set_option maxRecDepth 100000 in
set_option maxHeartbeats 2000000 in
theorem textRef_any (d : Int) (a : Option Addr) (cap : Nat) (xs : List Cl) (w : World) (ht : Tabs w) (hm : xs.length ≤ maxLen) (hra : CRow w a xs) (hba : Bits xs) (hfit : Fits xs) (c : Int) (hc : chkC d xs = c) (t : ByteArray) (htt : textR d xs = t) :
    Calls Tryd.prog 15 #[.int .i64 d, .slice a xs.length cap] w fun e w' => e = .returned (.tuple #[.string t, .int .i64 c]) ∧ Below w.heap.size w w' := by
  have HT := Lib.hid ht; have HM := Lib.hid hm; have HRA := Lib.hid hra; have HBA := Lib.hid hba; have HC := Lib.hid hc; have HF := Lib.hid hfit
  by_cases h0 : c = 0
  · subst h0
    obtain ⟨n, rfl, hv⟩ := val_of hc
    have HT2 : Hid (t = bytes (joined44 xs)) := by show _ = _; rw [← htt, textR, if_pos hc]
    have HV := Lib.hid hv
    have hln := hv.len
    have hn := hv.le
    have ga1 : n ≤ xs.length := by omega
    have ga2 : xs.length ≤ n := by omega
    clear ht hm hra hba hc hfit htt hv hln
    go_enter Tryd.func15, Tryd.ntmps15
    go_wp2_with fail
    refine (chkRef_is _ a cap xs _ HM.out HRA.out HBA.out 0 HC.out).mono ?_
    rintro e w1 ⟨rfl, hb1⟩
    go_wp2_with fail
    go_loopw [7, 8] (fun s i wr => ∃ (k : Nat) (S : ByteArray), k ≤ n ∧ i = .int .i64 k ∧ s = .string S ∧ Hid (S = bytes (joined44 (xs.take k))) ∧ Below w.heap.size w wr) (fun _ i _ => n - (intOf i).toNat)
    case atStart => exact ⟨0, _, Nat.zero_le _, rfl, rfl, rfl, hb1⟩
    case round =>
      obtain ⟨k, S, hk, rfl, rfl, HS, hb⟩ := hrel
      have hss : S.size ≤ 96064 := by rw [HS.out, bytes_size]; have := joined_small HF.out k; omega
      by_cases hlt : k < n
      · obtain ⟨bb, offb, y, rfl, hy, hbb, b0, b1, b2⟩ := (HRA.out.below hb).at_ (show k < xs.length by omega)
        have HFY := Lib.hid (HF.out y (List.mem_of_getElem? hy))
        have HOY := Lib.hid (HV.out.oks k y hy)
        obtain ⟨z, hz⟩ : ∃ z, cellB y = z := ⟨_, rfl⟩
        have HZ := Lib.hid hz
        have hzs : z.size ≤ 1500 := by rw [← hz, cellB_bytes, bytes_size]; exact cellL_small HFY.out.1 HFY.out.2
        have HK1 : Hid ((xs.take (k + 1)).map cellL = (xs.take k).map cellL ++ [cellL y]) := by
          obtain ⟨h1, e⟩ := List.getElem?_eq_some_iff.1 hy
          show _ = _
          rw [List.take_succ_eq_append_getElem h1, e]; simp
        have HZB : Hid (z = bytes (cellL y)) := by show _ = _; rw [← hz]; exact cellB_bytes y
        clear hy hz
        have g0 : (0 : Int) ≤ (k : Int) := by omega
        have g1 : (k : Int) < (xs.length : Int) := by omega
        by_cases hk0 : k = 0
        · have hk1 : ¬ (0 < k) := by omega
          have hk2 : (k : Int) = 0 := by omega
          have HN : Hid (S ++ z = bytes (joined44 (xs.take (k + 1)))) := by
            show _ = _
            rw [HS.out, HZB.out, bytes_append]
            unfold joined44
            rw [HK1.out]
            subst hk0
            simp [join_one, Lib.join]
          clear hk2 hk0
          go_wp2_with (go_at_call 49; go_loud (refine (oneRefText_any y _ (HT.out.below hb) HOY.out HFY.out.1 HFY.out.2 z HZ.out).mono ?_; rintro e w3 ⟨rfl, hb3⟩))
          go_roundw
          case rel => exact ⟨k + 1, _, by omega, by go_num, rfl, HN, hb.trans (hb3.mono hb.size)⟩
          case measure => simp [intOf]; omega
        · have hk1 : 0 < k := by omega
          have HN : Hid (S ++ bytes [44] ++ z = bytes (joined44 (xs.take (k + 1)))) := by
            show _ = _
            rw [HS.out, HZB.out, bytes_append, bytes_append]
            unfold joined44
            rw [HK1.out, join_snoc _ _ (by simp; exact ⟨hk0, by rintro rfl; simp at g1; omega⟩)]
            simp
          go_wp2_with (go_at_call 49; go_loud (refine (oneRefText_any y _ (HT.out.below hb) HOY.out HFY.out.1 HFY.out.2 z HZ.out).mono ?_; rintro e w3 ⟨rfl, hb3⟩))
          go_roundw
          case rel => exact ⟨k + 1, _, by omega, by go_num, rfl, HN, hb.trans (hb3.mono hb.size)⟩
          case measure => simp [intOf]; omega
      · obtain rfl : k = n := by omega
        have HE : Hid (t = S) := by show _ = _; rw [HT2.out, HS.out, List.take_of_length_le ga2]
        go_wp2
        go_ret2
        exact ⟨by rw [HE.out]; rfl, hb⟩
  · have HT2 : Hid (t = bytes []) := by show _ = _; rw [← htt, textR, if_neg (by rw [hc]; exact h0)]
    have hne : (c != 0) = true := by simpa using h0
    clear hm hra hba hc htt h0 hfit ht
    go_enter Tryd.func15, Tryd.ntmps15
    go_wp2_with fail
    refine (chkRef_is _ a cap xs _ HM.out HRA.out HBA.out c HC.out).mono ?_
    rintro e w1 ⟨rfl, hb1⟩
    go_wp2
    go_ret2
    exact ⟨by rw [HT2.out]; rfl, hb1⟩
end Go.Proofs.YtkekldebklghoaaDoor
