/-
  THE BITS LAYER: the walks of BitsAsks, BitsMoves, BitsSets.
-/
import Derived.Test.YtdaijibkafepcaaDoorBitsTextR
namespace Go.Proofs.YtdaijibkafepcaaDoor
open Go.RowKit
set_option linter.unusedVariables false

theorem u64_nat {a : Int} (h : (Lit.int .u64 a).wf = true) : ∃ n : Nat, a = n ∧ n < 18446744073709551616 := by
  simp only [Lit.wf, IntKind.min, IntKind.max, IntKind.signed, IntKind.bits, Bool.and_eq_true, decide_eq_true_eq] at h
  simp at h
  exact ⟨a.toNat, by omega, by omega⟩
set_option maxRecDepth 100000 in
set_option maxHeartbeats 1000000 in
theorem bitsAsks_walk (a i : Int) (w : World) (h1 : (Lit.int .u64 a).wf = true) (h2 : (Lit.int .i64 i).wf = true) (ht : Tabs w) :
    Calls Tryd.prog 4 #[.int .u64 a, .int .i64 i] w fun e w' => e = .returned (.bool true) ∧ Below w.heap.size w w' := by
  obtain ⟨s, rfl, hs⟩ := u64_nat h1
  have HT := Lib.hid ht
  obtain ⟨r, b, hn⟩ := isNext_ex s i
  obtain ⟨c, hc⟩ : ∃ c, ones s = c := ⟨_, rfl⟩
  obtain ⟨d, hd⟩ : ∃ d, hasB s i = d := ⟨_, rfl⟩
  have HN := Lib.hid hn; have HC := Lib.hid hc; have HD := Lib.hid hd
  clear h1 h2 ht hn hc hd
  go_enter Tryd.func4, Tryd.ntmps4
  go_wp2_with fail
  refine (nextA_is s i r b HN.out hs _ HT.out).mono ?_
  rintro e w1 ⟨rfl, rfl⟩
  go_wp2_with fail
  refine (nextR_is s i r b HN.out hs _).mono ?_
  rintro e w1 ⟨rfl, rfl⟩
  go_wp2_with fail
  refine (countA_is s hs c HC.out _).mono ?_
  rintro e w1 ⟨rfl, rfl⟩
  go_wp2_with fail
  refine (countR_is s hs c HC.out _).mono ?_
  rintro e w1 ⟨rfl, hb1⟩
  go_wp2_with fail
  refine (hasA_is s i d HD.out hs _).mono ?_
  rintro e w2 ⟨rfl, rfl⟩
  go_wp2_with fail
  refine (hasR_is s i d HD.out hs _).mono ?_
  rintro e w2 ⟨rfl, rfl⟩
  go_wp2_with fail
  refine (awake_any _ (HT.out.below hb1)).mono ?_
  rintro e w2 ⟨rfl, hb2⟩
  go_wp2
  go_ret
  exact ⟨by simp, hb1.trans (hb2.mono hb1.size)⟩
set_option maxRecDepth 100000 in
set_option maxHeartbeats 1000000 in
theorem bitsMoves_walk (a by_ at_ n : Int) (w : World) (h1 : (Lit.int .u64 a).wf = true) (h2 : (Lit.int .i64 by_).wf = true) (h3 : (Lit.int .i64 at_).wf = true) (h4 : (Lit.int .i64 n).wf = true) (ht : Tabs w) :
    Calls Tryd.prog 5 #[.int .u64 a, .int .i64 by_, .int .i64 at_, .int .i64 n] w fun e w' => e = .returned (.bool true) ∧ Below w.heap.size w w' := by
  obtain ⟨s, rfl, hs⟩ := u64_nat h1
  have HT := Lib.hid ht
  obtain ⟨r, hr⟩ : ∃ r, moveV s by_ n = r := ⟨_, rfl⟩
  obtain ⟨e0, he⟩ : ∃ e, moveE by_ n = e := ⟨_, rfl⟩
  obtain ⟨f, hf⟩ : ∃ r, fieldV s at_ n = r := ⟨_, rfl⟩
  obtain ⟨g, hg⟩ : ∃ e, fieldE at_ n = e := ⟨_, rfl⟩
  have HR := Lib.hid hr; have HE := Lib.hid he; have HF := Lib.hid hf; have HG := Lib.hid hg
  clear h1 h2 h3 h4 ht hr he hf hg
  go_enter Tryd.func5, Tryd.ntmps5
  go_wp2_with fail
  refine (moveA_is s by_ n hs r e0 HR.out HE.out _).mono ?_
  rintro e w1 ⟨rfl, rfl⟩
  go_wp2_with fail
  refine (moveR_is s by_ n hs r e0 HR.out HE.out _).mono ?_
  rintro e w1 ⟨rfl, rfl⟩
  go_wp2_with fail
  refine (fieldA_is s at_ n hs f g HF.out HG.out _).mono ?_
  rintro e w1 ⟨rfl, rfl⟩
  go_wp2_with fail
  refine (fieldR_is s at_ n hs f g HF.out HG.out _).mono ?_
  rintro e w1 ⟨rfl, rfl⟩
  go_wp2_with fail
  refine (awake_any _ HT.out).mono ?_
  rintro e w2 ⟨rfl, hb2⟩
  go_wp2
  go_ret
  exact ⟨by simp, hb2⟩
def IsNums (w : World) (a : Option Addr) (len cap : Nat) (zs : List Int) : Prop := len ≤ cap ∧ cap ≤ maxLen ∧ zs.length = len ∧ VRow w a (zs.map (Value.int .i64))
theorem isNums_nil (w : World) : ∃ zs, IsNums w none 0 0 zs := ⟨[], Nat.le_refl _, by simp [maxLen], rfl, .inl rfl⟩
theorem isNums_of {w : World} {x : Addr} {len cap : Nat} {zs : List Int} (hl : len ≤ cap) (hm : cap ≤ maxLen) (hz : zs.length = cap) (hc : ∀ i, i < zs.length → w.cell? (x.add i) = some (.int .i64 (zs.getD i 0))) : ∃ ys, IsNums w (some x) len cap ys := by
  refine ⟨zs.take len, hl, hm, by rw [List.length_take]; omega, ?_⟩
  by_cases h0 : len = 0
  · exact .inl (by simp [h0])
  · obtain ⟨b, off, spot⟩ := x
    have hspot : spot = none := by simpa [Addr.add] using World.cell?_spot (hc 0 (by omega))
    subst hspot
    refine .inr ⟨b, off, rfl, fun i v hi => ?_⟩
    rw [List.getElem?_map] at hi
    have hlt : i < (zs.take len).length := by
      rcases Nat.lt_or_ge i (zs.take len).length with h | h
      · exact h
      · rw [List.getElem?_eq_none h] at hi; cases hi
    simp only [List.length_take] at hlt
    have := hc i (by omega)
    have e : (zs.take len)[i]? = some (zs.getD i 0) := by
      rw [List.getElem?_take, if_pos (by omega), List.getD, List.getElem?_eq_getElem (by omega)]; rfl
    rw [e] at hi
    cases hi
    rw [← this]; simp only [Addr.add]; split <;> simp_all
set_option maxRecDepth 100000 in
set_option maxHeartbeats 1000000 in
theorem bitsSets_walk (n : Int) (a : Option Addr) (len cap : Nat) (zs : List Int) (b : Int) (w : World) (h1 : (Lit.int .i64 n).wf = true) (hz : IsNums w a len cap zs) (h2 : (Lit.int .u64 b).wf = true) (ht : Tabs w) :
    Calls Tryd.prog 3 #[.int .i64 n, .slice a len cap, .int .u64 b] w fun e w' => e = .returned (.bool true) ∧ Below w.heap.size w w' := by
  obtain ⟨s, rfl, hs⟩ := u64_nat h2
  have HT := Lib.hid ht
  obtain ⟨g1, g2, g3, g4⟩ := hz
  obtain ⟨ys, hys⟩ : ∃ ys, ys = zs.take 1000 := ⟨_, rfl⟩
  obtain ⟨m, hm⟩ : ∃ m, min len 1000 = m := ⟨_, rfl⟩
  have hl : ys.length = m := by rw [hys, List.length_take, g3]; omega
  have HROW : Hid (VRow w a (ys.map (Value.int .i64))) := by rw [hys, List.map_take]; exact g4.take 1000
  obtain ⟨r, hr⟩ : ∃ r, fullV n = r := ⟨_, rfl⟩
  obtain ⟨e0, he⟩ : ∃ e, fullE n = e := ⟨_, rfl⟩
  obtain ⟨f, hf⟩ : ∃ r, ofV ys = r := ⟨_, rfl⟩
  obtain ⟨g, hg⟩ : ∃ e, ofE ys = e := ⟨_, rfl⟩
  obtain ⟨zz, hzz⟩ : ∃ zz : List Int, zz = (mem s).map (fun i : Nat => (i : Int)) := ⟨_, rfl⟩
  have HZ : Hid (ints (mem s) = zz.map (Value.int .i64)) := by show _ = _; rw [hzz]; simp [ints]
  have HZL : Hid (zz.length = (mem s).length) := by show _ = _; rw [hzz]; simp
  have HZL2 : Hid (zz.length ≤ 64) := by show _ ≤ _; rw [HZL.out]; exact mem_length s
  have HR := Lib.hid hr; have HE := Lib.hid he; have HF := Lib.hid hf; have HG := Lib.hid hg; have HL := Lib.hid hl
  unfold maxLen at g2
  have hcut : (1000 < (len : Int) ∧ m = 1000) ∨ (¬ 1000 < (len : Int) ∧ m = len) := by omega
  clear h1 h2 ht hr he hf hg hys hl g3 g4 hzz hm
  rcases hcut with ⟨hc, rfl⟩ | ⟨hc, rfl⟩
  all_goals
    have hsl : (1000 : Int) ≤ (cap : Int) ∨ True := .inr trivial
    go_enter Tryd.func3, Tryd.ntmps3
    go_wp2_with fail
    refine (fullA_is n r e0 HR.out HE.out _).mono ?_
    rintro e w1 ⟨rfl, rfl⟩
    go_wp2_with fail
    refine (fullR_is n r e0 HR.out HE.out _).mono ?_
    rintro e w1 ⟨rfl, rfl⟩
    go_wp2_with fail
    refine (ofA_is a _ ys _ (by rw [HL.out]; unfold maxLen; omega) HROW.out _ HL.out f g HF.out HG.out).mono ?_
    rintro e w1 ⟨rfl, hb1⟩
    go_wp2_with fail
    refine (ofR_is a _ ys _ (by rw [HL.out]; unfold maxLen; omega) (HROW.out.below hb1) _ HL.out f g HF.out HG.out).mono ?_
    rintro e w2 ⟨rfl, hb2⟩
    have hB2 := hb1.trans (hb2.mono hb1.size)
    go_wp2_with fail
    refine (listA_any s hs _ (HT.out.below hB2)).mono ?_
    rintro e w3 ⟨v, rfl, hown, hb3⟩
    have hB3 := hB2.trans (hb3.mono hB2.size)
    obtain ⟨hvn, a3, cap3, hv3, hr3, _⟩ := VRow.of_own hown
    subst hv3
    rw [ints_length, ← HZL.out]
    have HR3 : Hid (VRow w3 a3 (zz.map (Value.int .i64))) := by rw [← HZ.out]; exact hr3
    clear hvn hown hr3
    go_wp2_with fail
    refine (listR_any s hs _).mono ?_
    rintro e w4 ⟨a4, cap4, rfl, hr4, _, hb4⟩
    have hB4 := hB3.trans (hb4.mono hB3.size)
    rw [ints_length, ← HZL.out]
    have HR4 : Hid (VRow w4 a4 (zz.map (Value.int .i64))) := by rw [← HZ.out]; exact hr4
    clear hr4
    go_wp2_with fail
    refine (same_any a3 a4 cap3 cap4 zz _ (by have := HZL2.out; unfold maxLen; omega) (HR3.out.below hb4) HR4.out _ rfl).mono ?_
    rintro e w5 ⟨rfl, hb5⟩
    have hB5 := hB4.trans (hb5.mono hB4.size)
    go_wp2_with fail
    refine (awake_any _ (HT.out.below hB5)).mono ?_
    rintro e w6 ⟨rfl, hb6⟩
    go_wp2
    go_ret
    exact ⟨by simp, hB5.trans (hb6.mono hB5.size)⟩
end Go.Proofs.YtdaijibkafepcaaDoor
