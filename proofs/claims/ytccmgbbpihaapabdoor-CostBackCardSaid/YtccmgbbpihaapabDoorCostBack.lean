/-
  THE COST LAYER: the law CostBack's walk.
-/
import Derived.Test.YtccmgbbpihaapabDoorCostBackMath
import Derived.Lib.ItoaLen
namespace Go.Proofs.YtccmgbbpihaapabDoor
open Go.RowKit
set_option linter.unusedVariables false
set_option linter.unusedSimpArgs false

theorem chk_one {limit c : Int} (h : chk limit [c] = 0) : 0 ≤ limit ∧ limit ≤ 1048576 ∧ -1 ≤ c ∧ c ≤ limit := by
  unfold chk at h
  split at h
  · omega
  · split at h
    · rename_i h1 h2
      simp [okc] at h2
      omega
    · omega
theorem chk_of {limit c : Int} (h0 : 0 ≤ limit) (h1 : limit ≤ 1048576) (h2 : -1 ≤ c) (h3 : c ≤ limit) : chk limit [c] = 0 := by
  unfold chk
  rw [if_neg (by omega), if_pos (by simp [okc]; omega)]
theorem chk_nil0 {limit : Int} (h0 : 0 ≤ limit) (h1 : limit ≤ 1048576) : chk limit [] = 0 := by
  unfold chk
  rw [if_neg (by omega)]; rfl
theorem text_read {limit c : Int} (h : chk limit [c] = 0) : ∃ n, IsN limit (txtC limit c).data.toList n ∧ readA limit (txtC limit c).data.toList n = c ∧ readOk limit (txtC limit c).data.toList n = true := by
  obtain ⟨l0, l1, c0, c1⟩ := chk_one h
  unfold txtC
  rw [if_pos h]
  by_cases hc : c = -1
  · rw [if_pos hc]
    subst hc
    exact ⟨4, isN_none limit, by unfold readA; rw [if_pos ⟨rfl, rfl⟩], rfl⟩
  · rw [if_neg hc]
    obtain ⟨u, rfl⟩ : ∃ u : Nat, c = u := ⟨c.toNat, by omega⟩
    show ∃ n, IsN limit (Lib.itoa (u : Int)) n ∧ readA limit (Lib.itoa (u : Int)) n = u ∧ readOk limit (Lib.itoa (u : Int)) n = true
    rw [Lib.itoa_nonneg]
    have hn := num_dec l1 c1
    have hnn : ¬ Lib.decDigits u = noneL := by
      intro e
      have := dec_dig u
      rw [e] at this
      exact absurd this (by decide)
    refine ⟨_, isN_digits l1 (dec_pos u) (dec_dig u) (dec_zero u) (by rw [dec_val]; exact c1), ?_, ?_⟩
    · unfold readA
      rw [if_neg (fun x => hnn x.2), hn, if_pos ⟨rfl, by omega⟩]
    · unfold readOk
      rw [hn]; simp
theorem read_text {limit : Int} {s : ByteArray} {n : Nat} (l0 : 0 ≤ limit) (l1 : limit ≤ 1048576) (h : readOk limit s.data.toList n = true) : chk limit [readA limit s.data.toList n] = 0 ∧ txtC limit (readA limit s.data.toList n) = s := by
  unfold readOk at h
  rw [Bool.and_eq_true, decide_eq_true_iff, Bool.or_eq_true] at h
  obtain ⟨hn, h⟩ := h
  by_cases hno : s.data.toList = noneL
  · have ha : readA limit s.data.toList n = -1 := by unfold readA; rw [if_pos ⟨hn, hno⟩]
    have hk := chk_of (c := -1) l0 l1 (by omega) (by omega)
    rw [ha]
    refine ⟨hk, ?_⟩
    unfold txtC
    rw [if_pos hk, if_pos rfl]
    apply ByteArray.ext
    apply Array.toList_inj.1
    rw [hno]; rfl
  · have hx : 0 ≤ numC limit s.data.toList := by
      rcases h with h | h
      · exact absurd (by simpa using h) hno
      · simpa using h
    have ha : readA limit s.data.toList n = numC limit s.data.toList := by unfold readA; rw [if_neg (fun x => hno x.2), if_pos ⟨hn, hx⟩]
    rw [ha]
    generalize hl : s.data.toList = l at *
    unfold numC at hx ⊢
    by_cases hbad : l = [] ∨ 7 < l.length ∨ (l[0]? = some 48 ∧ 1 < l.length)
    · rw [if_pos hbad] at hx; omega
    · rw [if_neg hbad] at hx ⊢
      by_cases hd : l.all isDig = true
      · rw [if_pos hd] at hx ⊢
        by_cases hv : limit < (valL l : Int)
        · rw [if_pos hv] at hx; omega
        · rw [if_neg hv]
          have hk := chk_of (c := (valL l : Int)) l0 l1 (by omega) (by omega)
          refine ⟨hk, ?_⟩
          unfold txtC
          rw [if_pos hk, if_neg (by omega), Lib.itoa_nonneg]
          have hpos : 1 ≤ l.length := by
            rcases Nat.eq_zero_or_pos l.length with h9 | h9
            · exact absurd (.inl (List.length_eq_zero_iff.1 h9)) hbad
            · exact h9
          rw [dec_of (l.length - 1) l (by omega) hd (by
            by_cases h9 : l.length = 1
            · exact .inl h9
            · right; intro h10; exact hbad (.inr (.inr ⟨h10, by omega⟩)))]
          apply ByteArray.ext
          apply Array.toList_inj.1
          rw [hl]
      · rw [if_neg hd] at hx; omega
theorem txt_size {limit c : Int} : (txtC limit c).size ≤ 9223372036854775807 := by
  unfold txtC
  split
  · split
    · decide
    · rename_i h1 h2
      obtain ⟨l0, l1, c0, c1⟩ := chk_one h1
      have := Lib.itoa_length_le c (by omega) (by omega)
      simp [ByteArray.size]; omega
  · decide

set_option maxRecDepth 100000 in
set_option maxHeartbeats 2000000 in
theorem costBack_walk (limit c : Int) (s : ByteArray) (w : World) (h1 : (Lit.int .i64 limit).wf = true) (h2 : (Lit.int .i64 c).wf = true) (hs : s.size ≤ maxLen) (ht : Tabs w) :
    Calls Tryd.prog 3 #[.int .i64 limit, .int .i64 c, .string s] w fun e w' => e = .returned (.bool true) ∧ Below w.heap.size w w' := by
  have hs2 : s.size ≤ 9223372036854775807 := by unfold maxLen at hs; omega
  have HT := Lib.hid ht
  clear ht h1 h2 hs
  obtain ⟨n, hn⟩ := isN_ex limit s.data.toList
  obtain ⟨t, htx⟩ : ∃ t, txtC limit c = t := ⟨_, rfl⟩
  have hts : t.size ≤ 9223372036854775807 := by rw [← htx]; exact txt_size
  obtain ⟨x, hx⟩ : ∃ x, chk limit [c] = x := ⟨_, rfl⟩
  obtain ⟨y, hy⟩ : ∃ y, chk limit [] = y := ⟨_, rfl⟩
  obtain ⟨a, ha⟩ : ∃ a, (if y = 0 then readA limit s.data.toList n else 0) = a := ⟨_, rfl⟩
  obtain ⟨p, hp⟩ : ∃ a, (if y = 0 then readP limit s.data.toList n else 0) = a := ⟨_, rfl⟩
  obtain ⟨e0, he⟩ : ∃ a, (if y = 0 then readE limit s.data.toList n else y) = a := ⟨_, rfl⟩
  have HTR : Hid (x = 0 → ∃ n1, IsN limit t.data.toList n1 ∧ readA limit t.data.toList n1 = c ∧ readOk limit t.data.toList n1 = true) := fun h => by
    rw [← htx]; exact text_read (hx.trans h)
  have HEND : Hid ((e0 = 0 ∧ chk limit [a] = 0 ∧ txtC limit a = s) ∨ (e0 ≠ 0 ∧ a = 0)) := by
    by_cases hy0 : y = 0
    · obtain ⟨l0, l1⟩ := chk_nil hy hy0
      rw [if_pos hy0] at ha he
      cases hO : readOk limit s.data.toList n
      · right
        exact ⟨by rw [← he, readE, hO]; simp, by rw [← ha]; exact readA_no hO⟩
      · left
        obtain ⟨r1, r2⟩ := read_text l0 l1 hO
        rw [ha] at r1 r2
        exact ⟨by rw [← he, readE, hO]; rfl, r1, r2⟩
    · right
      rw [if_neg hy0] at ha he
      exact ⟨by rw [← he]; exact hy0, ha.symm⟩
  have HN := Lib.hid hn; have HTX := Lib.hid htx; have HX := Lib.hid hx; have HY := Lib.hid hy; have HA := Lib.hid ha; have HP := Lib.hid hp; have HE := Lib.hid he
  have HY0 : Hid (x = 0 → y = 0) := fun h => by
    obtain ⟨l0, l1, _, _⟩ := chk_one (hx.trans h)
    rw [← hy]; exact chk_nil0 l0 l1
  clear hn htx hx hy ha hp he
  by_cases hx0 : x = 0
  · obtain ⟨n1, q1, q2, q3⟩ := HTR.out hx0
    have Q1 := Lib.hid q1; have Q2 := Lib.hid q2; have Q3 := Lib.hid q3
    have hyy := HY0.out hx0
    have RA : Hid ((if y = 0 then readA limit t.data.toList n1 else 0) = c) := by show _ = _; rw [if_pos hyy, Q2.out]
    have RP : Hid ((if y = 0 then readP limit t.data.toList n1 else 0) = (0 : Int)) := by show _ = _; rw [if_pos hyy, readP, if_pos Q3.out]
    have RE : Hid ((if y = 0 then readE limit t.data.toList n1 else y) = (0 : Int)) := by show _ = _; rw [if_pos hyy, readE, if_pos Q3.out]
    subst hx0
    clear q1 q2 q3 hyy
    rcases HEND.out with ⟨rfl, hk, htt⟩ | ⟨hne, rfl⟩
    · have HK := Lib.hid hk; have HTT := Lib.hid htt
      clear hk htt
      go_enter Tryd.func3, Tryd.ntmps3
      go_wp2_with fail
      refine (awake_any _).mono ?_
      rintro e w1 ⟨rfl, hB1⟩
      go_wp2_with fail
      refine (text_any limit c _ (HT.out.below hB1) t 0 HTX.out HX.out).mono ?_
      rintro e w2 ⟨rfl, hb2⟩
      have hB2 := hB1.trans (hb2.mono hB1.size)
      go_wp2_with fail
      refine (read_any limit t _ hts n1 Q1.out y HY.out c 0 0 RA.out RP.out RE.out).mono ?_
      unfold Read3
      rintro e w3 ⟨rfl, hb3⟩
      have hB3 := hB2.trans (hb3.mono hB2.size)
      go_wp2_with fail
      refine (read_any limit s _ hs2 n HN.out y HY.out a p 0 HA.out HP.out HE.out).mono ?_
      unfold Read3
      rintro e w4 ⟨rfl, hb4⟩
      have hB4 := hB3.trans (hb4.mono hB3.size)
      go_wp2_with fail
      refine (text_any limit a _ (HT.out.below hB4) s 0 HTT.out HK.out).mono ?_
      rintro e w5 ⟨rfl, hb5⟩
      go_wp2
      go_ret
      exact ⟨by simp, hB4.trans (hb5.mono hB4.size)⟩
    · have hne2 : (e0 != 0) = true := by simpa using hne
      clear hne
      go_enter Tryd.func3, Tryd.ntmps3
      go_wp2_with fail
      refine (awake_any _).mono ?_
      rintro e w1 ⟨rfl, hB1⟩
      go_wp2_with fail
      refine (text_any limit c _ (HT.out.below hB1) t 0 HTX.out HX.out).mono ?_
      rintro e w2 ⟨rfl, hb2⟩
      have hB2 := hB1.trans (hb2.mono hB1.size)
      go_wp2_with fail
      refine (read_any limit t _ hts n1 Q1.out y HY.out c 0 0 RA.out RP.out RE.out).mono ?_
      unfold Read3
      rintro e w3 ⟨rfl, hb3⟩
      have hB3 := hB2.trans (hb3.mono hB2.size)
      go_wp2_with fail
      refine (read_any limit s _ hs2 n HN.out y HY.out 0 p e0 HA.out HP.out HE.out).mono ?_
      unfold Read3
      rintro e w4 ⟨rfl, hb4⟩
      have hB4 := hB3.trans (hb4.mono hB3.size)
      go_wp2
      go_ret
      exact ⟨by first | rfl | simp, hB4⟩
  · have hx2 : (x == 0) = false := by simpa using hx0
    clear hx0
    rcases HEND.out with ⟨rfl, hk, htt⟩ | ⟨hne, rfl⟩
    · have HK := Lib.hid hk; have HTT := Lib.hid htt
      clear hk htt
      go_enter Tryd.func3, Tryd.ntmps3
      go_wp2_with fail
      refine (awake_any _).mono ?_
      rintro e w1 ⟨rfl, hB1⟩
      go_wp2_with fail
      refine (text_any limit c _ (HT.out.below hB1) t x HTX.out HX.out).mono ?_
      rintro e w2 ⟨rfl, hb2⟩
      have hB2 := hB1.trans (hb2.mono hB1.size)
      go_wp2_with fail
      refine (read_any limit s _ hs2 n HN.out y HY.out a p 0 HA.out HP.out HE.out).mono ?_
      unfold Read3
      rintro e w4 ⟨rfl, hb4⟩
      have hB4 := hB2.trans (hb4.mono hB2.size)
      go_wp2_with fail
      refine (text_any limit a _ (HT.out.below hB4) s 0 HTT.out HK.out).mono ?_
      rintro e w5 ⟨rfl, hb5⟩
      go_wp2
      go_ret
      exact ⟨by simp, hB4.trans (hb5.mono hB4.size)⟩
    · have hne2 : (e0 != 0) = true := by simpa using hne
      clear hne
      go_enter Tryd.func3, Tryd.ntmps3
      go_wp2_with fail
      refine (awake_any _).mono ?_
      rintro e w1 ⟨rfl, hB1⟩
      go_wp2_with fail
      refine (text_any limit c _ (HT.out.below hB1) t x HTX.out HX.out).mono ?_
      rintro e w2 ⟨rfl, hb2⟩
      have hB2 := hB1.trans (hb2.mono hB1.size)
      go_wp2_with fail
      refine (read_any limit s _ hs2 n HN.out y HY.out 0 p e0 HA.out HP.out HE.out).mono ?_
      unfold Read3
      rintro e w4 ⟨rfl, hb4⟩
      have hB4 := hB2.trans (hb4.mono hB2.size)
      go_wp2
      go_ret
      exact ⟨by first | rfl | simp, hB4⟩
end Go.Proofs.YtccmgbbpihaapabDoor
