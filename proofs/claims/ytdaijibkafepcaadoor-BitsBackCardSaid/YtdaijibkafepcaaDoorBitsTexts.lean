/-
  THE BITS LAYER: the walks of BitsTexts and BitsBack.
-/
import Derived.Test.YtdaijibkafepcaaDoorBitsReadR2
import Derived.Test.YtdaijibkafepcaaDoorBitsLaws
namespace Go.Proofs.YtdaijibkafepcaaDoor
open Go.RowKit
set_option linter.unusedVariables false

set_option maxRecDepth 100000 in
set_option maxHeartbeats 1000000 in
theorem bitsTexts_walk (a : Int) (t : ByteArray) (w : World) (h1 : (Lit.int .u64 a).wf = true) (hs : t.size ≤ maxLen) (ht : Tabs w) :
    Calls Tryd.prog 6 #[.int .u64 a, .string t] w fun e w' => e = .returned (.bool true) ∧ Below w.heap.size w w' := by
  obtain ⟨s, rfl, hs64⟩ := u64_nat h1
  have HT := Lib.hid ht
  unfold maxLen at hs
  obtain ⟨x, hx⟩ : ∃ x, textB s = x := ⟨_, rfl⟩
  have HX := Lib.hid hx
  clear h1 ht hx
  by_cases hcut : 1000 < t.size
  · have g1 : (1000 : Int) < (t.size : Int) := by omega
    have g2 : (1000 : Int) ≤ (t.size : Int) := by omega
    obtain ⟨u, hu⟩ : ∃ u, t.extract 0 1000 = u := ⟨_, rfl⟩
    have hus : u.size ≤ 1000 := by rw [← hu]; simp [ByteArray.size_extract]; omega
    obtain ⟨⟨b, p, e0⟩, hr⟩ : ∃ r, readM u.data.toList = r := ⟨_, rfl⟩
    have HR := Lib.hid hr
    clear hr
    go_enter Tryd.func6, Tryd.ntmps6
    go_wp2_with fail
    refine (readA_any u (by omega) b p e0 HR.out _).mono ?_
    unfold Ret3
    rintro e w1 ⟨rfl, hb1⟩
    go_wp2_with fail
    refine (readR_any u (by omega) b p e0 HR.out _).mono ?_
    unfold Ret3
    rintro e w2 ⟨rfl, rfl⟩
    go_wp2_with fail
    refine (textA_any s hs64 _ (HT.out.below hb1)).mono ?_
    rintro e w3 ⟨rfl, hb3⟩
    rw [HX.out]
    have hB3 := hb1.trans (hb3.mono hb1.size)
    go_wp2_with fail
    refine (textR_any s hs64 _ (HT.out.below hB3) x HX.out).mono ?_
    rintro e w4 ⟨rfl, hb4⟩
    have hB4 := hB3.trans (hb4.mono hB3.size)
    go_wp2_with fail
    refine (awake_any _ (HT.out.below hB4)).mono ?_
    rintro e w5 ⟨rfl, hb5⟩
    go_wp2
    go_ret
    exact ⟨by simp, hB4.trans (hb5.mono hB4.size)⟩
  · have g1 : ¬ (1000 : Int) < (t.size : Int) := by omega
    obtain ⟨⟨b, p, e0⟩, hr⟩ : ∃ r, readM t.data.toList = r := ⟨_, rfl⟩
    have HR := Lib.hid hr
    clear hr
    go_enter Tryd.func6, Tryd.ntmps6
    go_wp2_with fail
    refine (readA_any t (by omega) b p e0 HR.out _).mono ?_
    unfold Ret3
    rintro e w1 ⟨rfl, hb1⟩
    go_wp2_with fail
    refine (readR_any t (by omega) b p e0 HR.out _).mono ?_
    unfold Ret3
    rintro e w2 ⟨rfl, rfl⟩
    go_wp2_with fail
    refine (textA_any s hs64 _ (HT.out.below hb1)).mono ?_
    rintro e w3 ⟨rfl, hb3⟩
    rw [HX.out]
    have hB3 := hb1.trans (hb3.mono hb1.size)
    go_wp2_with fail
    refine (textR_any s hs64 _ (HT.out.below hB3) x HX.out).mono ?_
    rintro e w4 ⟨rfl, hb4⟩
    have hB4 := hB3.trans (hb4.mono hB3.size)
    go_wp2_with fail
    refine (awake_any _ (HT.out.below hB4)).mono ?_
    rintro e w5 ⟨rfl, hb5⟩
    go_wp2
    go_ret
    exact ⟨by simp, hB4.trans (hb5.mono hB4.size)⟩

/-! ### there and back -/
theorem fold_bit : ∀ (l : List Nat) (c j : Nat), (l.foldl (fun c y => c ||| 2 ^ y) c).testBit j = (c.testBit j || decide (j ∈ l))
  | [], c, j => by simp
  | x :: l, c, j => by
    rw [List.foldl_cons, fold_bit l, Nat.testBit_or, Nat.testBit_two_pow]
    by_cases h : x = j
    · subst h; simp
    · have : ¬ j = x := fun e => h e.symm
      simp [h, this]
theorem fold_mem (s : Nat) (hs : s < 18446744073709551616) : (mem s).foldl (fun c y => c ||| 2 ^ y) 0 = s := by
  apply Nat.eq_of_testBit_eq
  intro j
  rw [fold_bit, Nat.zero_testBit, Bool.false_or]
  cases hb : s.testBit j
  · apply decide_eq_false
    intro h
    rw [mem_bit h] at hb; cases hb
  · apply decide_eq_true
    unfold mem
    rw [List.mem_filter]
    exact ⟨List.mem_range.2 (bit_lt hs hb), hb⟩
theorem ofGo_mem : ∀ (l : List Nat) (c : Nat), (∀ x ∈ l, x < 64) → ofGo c (l.map fun i : Nat => (i : Int)) = some (l.foldl (fun c y => c ||| 2 ^ y) c)
  | [], c, _ => rfl
  | x :: l, c, h => by
    have hx : inB (x : Int) = true := by
      have := h x (by simp)
      simp [inB]; omega
    rw [List.map_cons, ofGo, hx, if_pos rfl, Int.toNat_natCast, ofGo_mem l _ (fun y hy => h y (by simp [hy]))]
    rfl
def restT (l : List Nat) : List UInt8 := l.flatMap fun x : Nat => 44 :: Lib.itoa (x : Int)
theorem fold_rest : ∀ (l : List Nat) (acc : List UInt8), 0 < acc.length → l.foldl stepT acc = acc ++ restT l
  | [], acc, _ => by simp [restT]
  | x :: l, acc, h => by
    rw [List.foldl_cons, fold_rest l _ (by simp [stepT]; omega)]
    simp [stepT, sepT_cons h, restT]
theorem body_cons (x : Nat) (l : List Nat) (hx : x < 64) : bodyT (x :: l) = Lib.itoa (x : Int) ++ restT l := by
  have h1 := (itoa_len hx).1
  unfold bodyT
  rw [List.foldl_cons, show stepT [] x = Lib.itoa (x : Int) by simp [stepT, sepT_nil], fold_rest l _ (by omega)]
theorem itoa_form : ∀ x : Fin 64, Lib.itoa ((x.1 : Nat) : Int) = if x.1 < 10 then [UInt8.ofNat (48 + x.1)] else [UInt8.ofNat (48 + x.1 / 10), UInt8.ofNat (48 + x.1 % 10)] := by decide +kernel
theorem grows_of_close {last n : Int} (h : closeOk last n = true) : growsB last n = true := by unfold growsB; rw [h]; rfl
theorem grows_ten {last : Int} {x : Nat} (h : closeOk last (x : Int) = true) (h10 : 10 ≤ x) : growsB last ((x / 10 : Nat) : Int) = true := by
  unfold growsB
  rw [Bool.or_eq_true]
  right
  rw [Bool.and_eq_true, decide_eq_true_iff, List.any_eq_true]
  refine ⟨by omega, x % 10, List.mem_range.2 (by omega), ?_⟩
  rw [show 10 * ((x / 10 : Nat) : Int) + ((x % 10 : Nat) : Int) = (x : Int) by omega]
  exact h
theorem read_digits (st last now : Int) (set i : Nat) (x : Nat) (l : List UInt8) (hst : st = 1 ∨ st = 2) (hx : x < 64) (hl : last < x) :
    ∃ j, goM st last now set i (Lib.itoa (x : Int) ++ l) = goM 3 last x set j l := by
  have hc : closeOk last (x : Int) = true := by simp [closeOk, hl]; omega
  have hf := itoa_form ⟨x, hx⟩
  simp only at hf
  rw [hf]
  by_cases h10 : x < 10
  · rw [if_pos h10]
    have hs : stepM st last now set (UInt8.ofNat (48 + x)).toNat = some (3, last, (x : Int), set) := by
      have e : (UInt8.ofNat (48 + x)).toNat = 48 + x := by simp; omega
      rw [e]
      unfold stepM
      rw [if_neg (by omega), if_neg (by omega), if_neg (by omega), if_pos ⟨by omega, by omega⟩, if_pos hst, show ((48 + x : Nat) : Int) - 48 = (x : Int) by omega, if_pos (grows_of_close hc)]
    exact ⟨i + 1, by rw [List.cons_append, List.nil_append, goM_some hs]⟩
  · rw [if_neg h10]
    have hs : stepM st last now set (UInt8.ofNat (48 + x / 10)).toNat = some (3, last, ((x / 10 : Nat) : Int), set) := by
      have e : (UInt8.ofNat (48 + x / 10)).toNat = 48 + x / 10 := by simp; omega
      rw [e]
      unfold stepM
      rw [if_neg (by omega), if_neg (by omega), if_neg (by omega), if_pos ⟨by omega, by omega⟩, if_pos hst, show ((48 + x / 10 : Nat) : Int) - 48 = ((x / 10 : Nat) : Int) by omega, if_pos (grows_ten hc (by omega))]
    have hs2 : stepM 3 last ((x / 10 : Nat) : Int) set (UInt8.ofNat (48 + x % 10)).toNat = some (3, last, (x : Int), set) := by
      have e : (UInt8.ofNat (48 + x % 10)).toNat = 48 + x % 10 := by simp; omega
      rw [e]
      unfold stepM
      rw [if_neg (by omega), if_neg (by omega), if_neg (by omega), if_pos ⟨by omega, by omega⟩, if_neg (by omega), if_pos ⟨rfl, by omega⟩, show 10 * ((x / 10 : Nat) : Int) + (((48 + x % 10 : Nat) : Int) - 48) = (x : Int) by omega, if_pos (grows_of_close hc)]
    exact ⟨i + 1 + 1, by rw [List.cons_append, List.cons_append, List.nil_append, goM_some hs, goM_some hs2]⟩
theorem read_rest : ∀ (l : List Nat) (x : Nat) (last : Int) (set i : Nat), last < x → (x :: l).Pairwise (· < ·) → (∀ y ∈ x :: l, y < 64) →
    goM 3 last x set i (restT l ++ [125]) = (l.foldl (fun c y => c ||| 2 ^ y) (set ||| 2 ^ x), 0, 0)
  | [], x, last, set, i, hl, _, h64 => by
    have hx := h64 x (by simp)
    have hs : stepM 3 last (x : Int) set (125 : UInt8).toNat = some (4, (x : Int), (x : Int), set ||| 2 ^ x) := by
      have hc : closeOk last (x : Int) = true := by simp [closeOk, hl]; omega
      unfold stepM
      rw [if_neg (by decide), if_pos (by decide), if_neg (by omega), if_pos ⟨rfl, hc⟩, Int.toNat_natCast]
    rw [show restT [] ++ [125] = (125 : UInt8) :: [] from rfl, goM_some hs]
    rfl
  | y :: l, x, last, set, i, hl, hp, h64 => by
    have hx := h64 x (by simp)
    have hy := h64 y (by simp)
    rw [List.pairwise_cons] at hp
    have hxy : x < y := hp.1 y (by simp)
    have hs : stepM 3 last (x : Int) set (44 : UInt8).toNat = some (2, (x : Int), (x : Int), set ||| 2 ^ x) := by
      have hc : closeOk last (x : Int) = true := by simp [closeOk, hl]; omega
      unfold stepM
      rw [if_neg (by decide), if_neg (by decide), if_pos (by decide), if_pos ⟨rfl, by omega, hc⟩, Int.toNat_natCast]
    have e : restT (y :: l) ++ [125] = 44 :: (Lib.itoa (y : Int) ++ (restT l ++ [125])) := by simp [restT]
    rw [e, goM_some hs]
    obtain ⟨j, hj⟩ := read_digits 2 (x : Int) (x : Int) (set ||| 2 ^ x) (i + 1) y (restT l ++ [125]) (.inr rfl) hy (by omega)
    rw [hj, read_rest l y (x : Int) (set ||| 2 ^ x) j (by omega) hp.2 (fun z hz => h64 z (List.mem_cons_of_mem _ hz))]
    rfl
theorem read_text (s : Nat) (hs : s < 18446744073709551616) : readM (textL s) = (s, 0, 0) := by
  have h0 : stepM 0 (-1) 0 0 (123 : UInt8).toNat = some (1, -1, 0, 0) := rfl
  have hm := fold_mem s hs
  have h64 : ∀ y ∈ mem s, y < 64 := fun y hy => mem_lt hy
  have hp : (mem s).Pairwise (· < ·) := List.Pairwise.filter _ List.pairwise_lt_range
  unfold readM textL
  rw [goM_some h0]
  cases hl : mem s with
  | nil =>
    rw [hl] at hm
    have h1 : stepM 1 (-1) 0 0 (125 : UInt8).toNat = some (4, -1, 0, 0) := rfl
    rw [show bodyT [] ++ [125] = (125 : UInt8) :: [] from rfl, goM_some h1]
    have : s = 0 := hm.symm
    rw [this]; rfl
  | cons x l =>
    rw [hl] at hm h64 hp
    rw [body_cons x l (h64 x (by simp)), List.append_assoc]
    obtain ⟨j, hj⟩ := read_digits 1 (-1) 0 0 (0 + 1) x (restT l ++ [125]) (.inl rfl) (h64 x (by simp)) (by omega)
    rw [hj, read_rest l x (-1) 0 j (by omega) hp h64]
    rw [List.foldl_cons] at hm
    rw [hm]
set_option maxRecDepth 100000 in
set_option maxHeartbeats 1000000 in
theorem bitsBack_walk (a : Int) (w : World) (h1 : (Lit.int .u64 a).wf = true) (ht : Tabs w) :
    Calls Tryd.prog 7 #[.int .u64 a] w fun e w' => e = .returned (.bool true) ∧ Below w.heap.size w w' := by
  obtain ⟨s, rfl, hs⟩ := u64_nat h1
  have HT := Lib.hid ht
  obtain ⟨zz, hzz⟩ : ∃ zz : List Int, zz = (mem s).map (fun i : Nat => (i : Int)) := ⟨_, rfl⟩
  have HZ : Hid (ints (mem s) = zz.map (Value.int .i64)) := by show _ = _; rw [hzz]; simp [ints]
  have HZL : Hid (zz.length = (mem s).length) := by show _ = _; rw [hzz]; simp
  have HZL2 : Hid (zz.length ≤ 64) := by show _ ≤ _; rw [HZL.out]; exact mem_length s
  have hgo : ofGo 0 zz = some s := by rw [hzz, ofGo_mem _ _ (fun x hx => mem_lt hx), fold_mem s hs]
  have HV : Hid (ofV zz = s) := by show _ = _; rw [ofV, hgo]; rfl
  have HE : Hid (ofE zz = 0) := by show _ = _; rw [ofE, hgo]; rfl
  have HRD := Lib.hid (read_text s hs)
  obtain ⟨x, hx⟩ : ∃ x, textB s = x := ⟨_, rfl⟩
  have HX := Lib.hid hx
  have HRX : Hid (readM x.data.toList = (s, 0, 0)) := by show _ = _; rw [← hx, ← HRD.out]; rfl
  have hxs : x.size ≤ 1000 := by
    have h1 := (bodyT_len (mem s) (fun y hy => mem_lt hy)).1
    have h2 := mem_length s
    rw [← hx]
    show (textL s).toArray.size ≤ 1000
    simp [textL]; omega
  obtain ⟨m, hm⟩ : ∃ m, (mem s).length = m := ⟨_, rfl⟩
  have HC : Hid (ones s = m) := by show _ = _; rw [← mem_count, hm]
  have hm2 : zz.length = m := by rw [HZL.out, hm]
  have HM2 := Lib.hid hm2
  have HM := Lib.hid hm
  clear h1 ht hzz hgo hx hm hm2
  go_enter Tryd.func7, Tryd.ntmps7
  go_wp2_with fail
  refine (listA_any s hs _ HT.out).mono ?_
  rintro e w1 ⟨v, rfl, hown, hb1⟩
  obtain ⟨hvn, a1, cap1, hv1, hr1, _⟩ := VRow.of_own hown
  subst hv1
  rw [ints_length, HM.out]
  have HR1 : Hid (VRow w1 a1 (zz.map (Value.int .i64))) := by rw [← HZ.out]; exact hr1
  clear hvn hown hr1
  go_wp2_with fail
  refine (ofA_is a1 cap1 zz _ (by have := HZL2.out; unfold maxLen; omega) HR1.out _ HM2.out s 0 HV.out HE.out).mono ?_
  rintro e w2 ⟨rfl, hb2⟩
  have hB2 := hb1.trans (hb2.mono hb1.size)
  go_wp2_with fail
  refine (textA_any s hs _ (HT.out.below hB2)).mono ?_
  rintro e w3 ⟨rfl, hb3⟩
  rw [HX.out]
  have hB3 := hB2.trans (hb3.mono hB2.size)
  go_wp2_with fail
  refine (readA_any x (by omega) s 0 0 HRX.out _).mono ?_
  unfold Ret3
  rintro e w4 ⟨rfl, hb4⟩
  have hB4 := hB3.trans (hb4.mono hB3.size)
  go_wp2_with fail
  refine (listA_any s hs _ (HT.out.below hB4)).mono ?_
  rintro e w5 ⟨v, rfl, hown, hb5⟩
  have hB5 := hB4.trans (hb5.mono hB4.size)
  obtain ⟨hvn, a5, cap5, hv5, hr5, _⟩ := VRow.of_own hown
  subst hv5
  rw [ints_length, HM.out]
  clear hvn hown hr5
  go_wp2_with fail
  refine (countA_is s hs m HC.out _).mono ?_
  rintro e w6 ⟨rfl, rfl⟩
  go_wp2_with fail
  refine (awake_any _ (HT.out.below hB5)).mono ?_
  rintro e w7 ⟨rfl, hb7⟩
  go_wp2
  go_ret
  exact ⟨by simp, hB5.trans (hb7.mono hB5.size)⟩
end Go.Proofs.YtdaijibkafepcaaDoor
