/-
  THE BITS LAYER: the reference's Read, over the machine.
-/
import Derived.Test.YtdaijibkafepcaaDoorBitsReadR
import Derived.Lib.Strings
namespace Go.Proofs.YtdaijibkafepcaaDoor
open Go.RowKit
set_option linter.unusedVariables false

structure AtM (R : Nat × Int × Int) (last : Int) (set j : Nat) (l : List UInt8) (n : Int) : Prop where
  lo : -1 ≤ n
  hi : n ≤ 63
  first : n = -1 → ∃ st now, (st = 1 ∨ st = 2) ∧ goM st last now set j l = R ∧ (st = 1 → ∀ c l', l = c :: l' → c.toNat ≠ 125)
  more : 0 ≤ n → goM 3 last n set j l = R
theorem atM_step {R : Nat × Int × Int} {last n : Int} {set j : Nat} {c : UInt8} {l : List UInt8} (h : AtM R last set j (c :: l) n) (h0 : -1 ≤ last) (h1 : last ≤ 62) (c1 : 48 ≤ c.toNat) (c2 : c.toNat ≤ 57) (hm : mayB n ((c.toNat : Int) - 48) last = true) :
    AtM R last set (j + 1) l (if n < 0 then (c.toNat : Int) - 48 else n * 10 + ((c.toNat : Int) - 48)) := by
  obtain ⟨lo, hi, hf, hmo⟩ := h
  by_cases hn : n < 0
  · obtain rfl : n = -1 := by omega
    obtain ⟨st, now, hst, hg, _⟩ := hf rfl
    rw [if_pos hn]
    have hs : stepM st last now set c.toNat = some (3, last, (c.toNat : Int) - 48, set) := by
      unfold stepM
      rw [if_neg (by omega), if_neg (by omega), if_neg (by omega), if_pos ⟨c1, c2⟩, if_pos hst, grows_first h0 h1 (by omega) (by omega), hm]; rfl
    rw [goM_some hs] at hg
    exact ⟨by omega, by omega, fun h => by omega, fun _ => hg⟩
  · have hg := hmo (by omega)
    rw [if_neg hn]
    have hn0 : n ≠ 0 := by rintro rfl; simp [mayB] at hm
    have hs : stepM 3 last n set c.toNat = some (3, last, 10 * n + ((c.toNat : Int) - 48), set) := by
      unfold stepM
      rw [if_neg (by omega), if_neg (by omega), if_neg (by omega), if_pos ⟨c1, c2⟩, if_neg (by omega), if_pos ⟨rfl, hn0⟩, grows_more (by omega) (by omega), hm]; rfl
    rw [goM_some hs] at hg
    have hle : n * 10 + ((c.toNat : Int) - 48) ≤ 63 := by
      simp only [mayB, if_neg hn0, if_neg hn, Bool.and_eq_true, decide_eq_true_eq] at hm
      exact hm.1
    exact ⟨by omega, hle, fun h => by omega, fun _ => by rw [show n * 10 + ((c.toNat : Int) - 48) = 10 * n + ((c.toNat : Int) - 48) by omega]; exact hg⟩
theorem atM_end_nil {R : Nat × Int × Int} {last n : Int} {set j : Nat} (h : AtM R last set j [] n) : R = (0, (j : Int), 11) := by
  obtain ⟨lo, hi, hf, hmo⟩ := h
  by_cases hn : n < 0
  · obtain ⟨st, now, hst, hg, _⟩ := hf (by omega)
    rw [← hg, goM, if_neg (by omega)]
  · rw [← hmo (by omega), goM, if_neg (by omega)]
theorem atM_bad {R : Nat × Int × Int} {last n : Int} {set j : Nat} {c : UInt8} {l : List UInt8} (h : AtM R last set j (c :: l) n) (h0 : -1 ≤ last) (h1 : last ≤ 62)
    (hx : 48 ≤ c.toNat → c.toNat ≤ 57 → mayB n ((c.toNat : Int) - 48) last = false) (hb : n ≤ last ∨ (c.toNat ≠ 44 ∧ c.toNat ≠ 125) ∨ (c.toNat = 44 ∧ n = 63)) : R = (0, (j : Int), 11) := by
  obtain ⟨lo, hi, hf, hmo⟩ := h
  by_cases hn : n < 0
  · obtain rfl : n = -1 := by omega
    obtain ⟨st, now, hst, hg, h125⟩ := hf rfl
    have hs : stepM st last now set c.toNat = none := by
      unfold stepM
      by_cases k1 : c.toNat = 123
      · rw [if_pos k1, if_neg (by omega)]
      rw [if_neg k1]
      by_cases k2 : c.toNat = 125
      · rw [if_pos k2]
        have : st = 2 := by
          rcases hst with rfl | rfl
          · exact absurd k2 (h125 rfl c l rfl)
          · rfl
        subst this
        rw [if_neg (by omega), if_neg (fun x => by omega)]
      rw [if_neg k2]
      by_cases k3 : c.toNat = 44
      · rw [if_pos k3, if_neg (fun x => by omega)]
      rw [if_neg k3]
      by_cases k4 : 48 ≤ c.toNat ∧ c.toNat ≤ 57
      · rw [if_pos k4, if_pos hst, grows_first h0 h1 (by omega) (by omega), hx k4.1 k4.2]; rfl
      · rw [if_neg k4]
    rw [← hg, goM_none hs]
  · have hg := hmo (by omega)
    have hs : stepM 3 last n set c.toNat = none := by
      unfold stepM
      by_cases k1 : c.toNat = 123
      · rw [if_pos k1, if_neg (by omega)]
      rw [if_neg k1]
      by_cases k2 : c.toNat = 125
      · rw [if_pos k2, if_neg (by omega), if_neg]
        rintro ⟨_, hc⟩
        simp [closeOk] at hc; omega
      rw [if_neg k2]
      by_cases k3 : c.toNat = 44
      · rw [if_pos k3, if_neg]
        rintro ⟨_, h63, hc⟩
        simp [closeOk] at hc; omega
      rw [if_neg k3]
      by_cases k4 : 48 ≤ c.toNat ∧ c.toNat ≤ 57
      · rw [if_pos k4, if_neg (by omega)]
        by_cases hn0 : n = 0
        · rw [if_neg (fun x => x.2 hn0)]
        · rw [if_pos ⟨rfl, hn0⟩, grows_more (by omega) (by omega), hx k4.1 k4.2]; rfl
      · rw [if_neg k4]
    rw [← hg, goM_none hs]
theorem atM_close {R : Nat × Int × Int} {last n : Int} {set j : Nat} {c : UInt8} {l : List UInt8} (h : AtM R last set j (c :: l) n) (h0 : -1 ≤ last) (hc : c.toNat = 125) (hn : last < n) :
    R = if l = [] then (set ||| 2 ^ n.toNat, 0, 0) else (0, ((j + 1 : Nat) : Int), 11) := by
  have hg := h.more (by omega)
  have hs : stepM 3 last n set c.toNat = some (4, n, n, set ||| 2 ^ n.toNat) := by
    have hi := h.hi
    unfold stepM
    rw [if_neg (by omega), if_pos hc, if_neg (by omega), if_pos ⟨rfl, by simp [closeOk]; omega⟩]
  rw [← hg, goM_some hs, goM4]
theorem atM_comma {R : Nat × Int × Int} {last n : Int} {set j : Nat} {c : UInt8} {l : List UInt8} (h : AtM R last set j (c :: l) n) (h0 : -1 ≤ last) (hc : c.toNat = 44) (hn : last < n) (h63 : n ≠ 63) :
    AtM R n (set ||| 2 ^ n.toNat) (j + 1) l (-1) := by
  have hg := h.more (by omega)
  have hs : stepM 3 last n set c.toNat = some (2, n, n, set ||| 2 ^ n.toNat) := by
    have hi := h.hi
    unfold stepM
    rw [if_neg (by omega), if_neg (by omega), if_pos hc, if_pos ⟨rfl, by omega, by simp [closeOk]; omega⟩]
  rw [goM_some hs] at hg
  exact ⟨by omega, by omega, fun _ => ⟨2, n, .inr rfl, hg, fun h => by cases h⟩, fun h => by omega⟩
theorem or_new {set : Nat} {n : Int} (hn : 0 ≤ n) (hs : set < 2 ^ n.toNat) : set ||| 2 ^ n.toNat = set + 2 ^ n.toNat ∧ set + 2 ^ n.toNat < 2 ^ (n + 1).toNat := by
  have e : (n + 1).toNat = n.toNat + 1 := by omega
  refine ⟨(or_pow_add (Nat.testBit_lt_two_pow hs)).symm, ?_⟩
  rw [e, Nat.pow_succ]; omega
theorem at_byte {s : ByteArray} {k : Nat} (h : k < s.size) (c : UInt8) (l : List UInt8) (he : s.data.toList.drop k = c :: l) : s[k]'h = c := by
  rw [drop_byte h] at he
  exact (List.cons.inj he).1
theorem set_lt_mono {set : Nat} {a b : Int} (h : set < 2 ^ a.toNat) (hab : a ≤ b) : set < 2 ^ b.toNat := Nat.lt_of_lt_of_le h (Nat.pow_le_pow_right (by omega) (by omega))
theorem size_list {s : ByteArray} : s.toList = s.data.toList := Lib.toList_data s
set_option maxRecDepth 100000 in
set_option maxHeartbeats 4000000 in
theorem readR_any (s : ByteArray) (hs : s.size ≤ 140737488355328) (a : Nat) (p e0 : Int) (h : readM s.data.toList = (a, p, e0)) (w : World) :
    Calls Tryd.prog 33 #[.string s] w fun e w' => e = Ret3 a p e0 ∧ w = w' := by
  have H := Lib.hid h
  clear h
  by_cases h0 : s.size = 0
  · have hnil : s.data.toList = [] := List.length_eq_zero_iff.1 (by rw [len_of]; exact h0)
    have HE : Hid ((0, (0 : Int), (11 : Int)) = (a, p, e0)) := by show _ = _; rw [← H.out, hnil]; rfl
    have he := HE.out
    simp only [Prod.mk.injEq] at he
    obtain ⟨rfl, rfl, rfl⟩ := he
    have hq1 : (s.toList == ([] : List UInt8)) = true := by rw [Lib.toList_data, hnil]; rfl
    have hq2 : s.toList.isEmpty = true := by rw [Lib.toList_data, hnil]; rfl
    have hq3 : s.toList = [] := by rw [Lib.toList_data, hnil]
    clear hnil
    go_enter Tryd.func33, Tryd.ntmps33
    go_wp2
    go_ret3
    exact ⟨rfl, rfl⟩
  have hq1 : (s.toList == ([] : List UInt8)) = false := by
    rw [Lib.toList_data]
    have : s.data.toList.length ≠ 0 := by rw [len_of]; exact h0
    cases hh : s.data.toList with
    | nil => rw [hh] at this; simp at this
    | cons a b => rfl
  have hq2 : s.toList.isEmpty = false := by
    rw [Lib.toList_data]
    have : s.data.toList.length ≠ 0 := by rw [len_of]; exact h0
    cases hh : s.data.toList with
    | nil => rw [hh] at this; simp at this
    | cons a b => rfl
  have h1 : 0 < s.size := by omega
  have hgt0 : (0 : Int) < (s.size : Int) := by omega
  have HD := Lib.hid (drop_byte h1)
  have HR0 : Hid (goM 0 (-1) 0 0 0 (s.data.toList.drop 0) = (a, p, e0)) := by show _ = _; rw [List.drop_zero]; exact H.out
  obtain ⟨c0, hc0⟩ : ∃ c0, (s[0]'h1).toNat = c0 := ⟨_, rfl⟩
  by_cases hx0 : c0 = 123
  · have hst : stepM 0 (-1) 0 0 (s[0]'h1).toNat = some (1, -1, 0, 0) := by rw [hc0, hx0]; rfl
    have HR1 : Hid (goM 1 (-1) 0 0 1 (s.data.toList.drop 1) = (a, p, e0)) := by show _ = _; rw [← HR0.out, HD.out, goM_some hst]
    have n0 : ((c0 : Int) != 123) = false := by simp; omega
    clear hst
    by_cases hD : ∃ h2 : 1 < s.size, (s[1]'h2).toNat = 125
    · obtain ⟨h2, hc1⟩ := hD
      have HD1 := Lib.hid (drop_byte h2)
      have hst : stepM 1 (-1) 0 0 (s[1]'h2).toNat = some (4, -1, 0, 0) := by rw [hc1]; rfl
      have HR2 : Hid ((if s.data.toList.drop 2 = [] then (0, (0 : Int), (0 : Int)) else (0, 2, 11)) = (a, p, e0)) := by show _ = _; rw [← HR1.out, HD1.out, goM_some hst, goM4]; rfl
      have g1 : (1 : Int) < (s.size : Int) := by omega
      clear hst
      by_cases h3 : 2 < s.size
      · have g2 : (2 : Int) < (s.size : Int) := by omega
        have he := HR2.out
        rw [if_neg (by intro x; have := congrArg List.length x; rw [List.length_drop, len_of] at this; simp at this; omega)] at he
        simp only [Prod.mk.injEq] at he
        obtain ⟨rfl, rfl, rfl⟩ := he
        go_enter Tryd.func33, Tryd.ntmps33
        go_wp2
        go_ret3
        exact ⟨rfl, rfl⟩
      · have g2 : ¬ (2 : Int) < (s.size : Int) := by omega
        have he := HR2.out
        rw [if_pos (List.drop_of_length_le (by rw [len_of]; omega))] at he
        simp only [Prod.mk.injEq] at he
        obtain ⟨rfl, rfl, rfl⟩ := he
        go_enter Tryd.func33, Tryd.ntmps33
        go_wp2
        go_ret3
        exact ⟨rfl, rfl⟩
    · have HA1 : Hid (AtM (a, p, e0) (-1) 0 1 (s.data.toList.drop 1) (-1)) := ⟨by omega, by omega, fun _ => ⟨1, 0, .inl rfl, HR1.out, fun _ c l' he hc => by
        have h2 : 1 < s.size := by
          have := congrArg List.length he
          rw [List.length_drop, len_of] at this
          simp at this; omega
        exact hD ⟨h2, by rw [at_byte h2 c l' he]; exact hc⟩⟩, fun h => by omega⟩
      have hcase : (∃ h2 : 1 < s.size, ∃ c1 : Nat, (s[1]'h2).toNat = c1 ∧ ((c1 : Int) == 125) = false ∧ (1 : Int) < (s.size : Int)) ∨ (¬ (1 : Int) < (s.size : Int) ∧ ¬ 1 < s.size) := by
        by_cases h2 : 1 < s.size
        · refine .inl ⟨h2, (s[1]'h2).toNat, rfl, ?_, by omega⟩
          have : (s[1]'h2).toNat ≠ 125 := fun x => hD ⟨h2, x⟩
          simp; omega
        · exact .inr ⟨by omega, h2⟩
      clear hD HR1 HR0 HD H
      rcases hcase with ⟨h2, c1, hc1, n1, g1⟩ | ⟨g1, h2⟩
      · go_enter Tryd.func33, Tryd.ntmps33
        go_wp2_with fail
        go_loopw [5, 6, 7] (fun l o i wr => ∃ (k : Nat) (last : Int) (set : Nat), 1 ≤ k ∧ k ≤ s.size ∧ -1 ≤ last ∧ last ≤ 62 ∧ l = .int .i64 last ∧ o = .int .u64 set ∧ i = .int .i64 k ∧ Hid (set < 2 ^ (last + 1).toNat) ∧ Hid (AtM (a, p, e0) last set k (s.data.toList.drop k) (-1)) ∧ w = wr) (fun _ _ i _ => s.size + 1 - (intOf i).toNat)
        case atStart => exact ⟨1, -1, 0, Nat.le_refl _, by omega, by omega, by omega, rfl, rfl, rfl, by show 0 < 2 ^ (0 : Int).toNat; decide, HA1, rfl⟩
        case round =>
          obtain ⟨k, last, set, hk1, hk2, hl1, hl2, rfl, rfl, rfl, HS, HK, rfl⟩ := hrel
          go_wp2_with fail
          go_loopw [7, 8] (fun i n wr => ∃ (j : Nat) (nn : Int), k ≤ j ∧ j ≤ s.size ∧ i = .int .i64 j ∧ n = .int .i64 nn ∧ Hid (AtM (a, p, e0) last set j (s.data.toList.drop j) nn) ∧ w = wr) (fun i _ _ => s.size - (intOf i).toNat)
          case atStart => exact ⟨k, -1, Nat.le_refl _, hk2, rfl, rfl, HK, rfl⟩
          case round =>
            obtain ⟨j, nn, hj1, hj2, rfl, rfl, HJ, rfl⟩ := hrel
            have hn1 := HJ.out.lo
            have hn2 := HJ.out.hi
            have hn2' : nn ≤ 63 := hn2
            have gj0 : (0 : Int) ≤ (j : Int) := by omega
            by_cases hj : j < s.size
            · have HD := Lib.hid (drop_byte hj)
              have HJ2 : Hid (AtM (a, p, e0) last set j ((s[j]'hj) :: s.data.toList.drop (j + 1)) nn) := by rw [← HD.out]; exact HJ.out
              obtain ⟨c, hc⟩ : ∃ c, (s[j]'hj).toNat = c := ⟨_, rfl⟩
              have HC := Lib.hid hc
              have gj1 : (j : Int) < (s.size : Int) := by omega
              have hc256 : c < 256 := by rw [← hc]; exact UInt8.toNat_lt _
              cases hdig : (decide (48 ≤ c) && decide (c ≤ 57))
              · have HDG := Lib.hid hdig
                have hnd : ¬ (48 ≤ c ∧ c ≤ 57) := by intro x; simp [x.1, x.2] at hdig
                clear hdig
                by_cases hle : nn ≤ last
                · have HF : Hid ((a, p, e0) = (0, (j : Int), 11)) := atM_bad HJ2.out hl1 hl2 (fun x y => by rw [HC.out] at x y; exact absurd ⟨x, y⟩ hnd) (.inl hle)
                  have hf := HF.out
                  simp only [Prod.mk.injEq] at hf
                  obtain ⟨rfl, rfl, rfl⟩ := hf
                  go_wp2_with fail
                  refine (digit_is _ false (by first | exact HDG.out | (rw [HC.out]; exact HDG.out)) _).mono ?_
                  rintro e w1 ⟨rfl, rfl⟩
                  go_wp2
                  go_ret3
                  exact ⟨rfl, rfl⟩
                have hnn0 : 0 ≤ nn := by omega
                by_cases h44 : c = 44
                · have n44 : ((c : Int) == 44) = true := by simp; omega
                  have n45 : ((c : Int) != 44) = false := by simp; omega
                  have n46 : ((c : Int) != 125) = true := by simp; omega
                  have n47 : ((c : Int) == 125) = false := by simp; omega
                  by_cases h63 : nn = 63
                  · have HF : Hid ((a, p, e0) = (0, (j : Int), 11)) := atM_bad HJ2.out hl1 hl2 (fun x y => by rw [HC.out] at x y; exact absurd ⟨x, y⟩ hnd) (.inr (.inr ⟨by rw [HC.out]; exact h44, h63⟩))
                    have hf := HF.out
                    simp only [Prod.mk.injEq] at hf
                    obtain ⟨rfl, rfl, rfl⟩ := hf
                    have n63 : (nn == 63) = true := by simp [h63]
                    clear h44
                    go_wp2_with fail
                    refine (digit_is _ false (by first | exact HDG.out | (rw [HC.out]; exact HDG.out)) _).mono ?_
                    rintro e w1 ⟨rfl, rfl⟩
                    go_wp2
                    go_ret3
                    exact ⟨rfl, rfl⟩
                  · have n63 : (nn == 63) = false := by simp [h63]
                    have HN := Lib.hid (atM_comma HJ2.out hl1 (by rw [HC.out]; exact h44) (by omega) h63)
                    obtain ⟨o1, o2⟩ := or_new hnn0 (set_lt_mono HS.out (by omega))
                    rw [o1] at HN
                    have HO2 := Lib.hid o2
                    have hp : 2 ^ (nn + 1).toNat ≤ 18446744073709551616 := pow_le64 (by omega)
                    have hq0 : set + 2 ^ nn.toNat < 18446744073709551616 := Nat.lt_of_lt_of_le o2 hp
                    clear o1 o2 hp h44
                    obtain ⟨q, hq⟩ : ∃ q : Nat, 2 ^ nn.toNat = q := ⟨_, rfl⟩
                    have HQ := Lib.hid hq
                    rw [hq] at HN HO2 hq0
                    have hws : IntKind.u64.wrap ((set : Int) + (q : Int)) = ((set + q : Nat) : Int) := by clear hq; rw [IntKind.wrap_u64]; omega
                    clear hq
                    go_wp2_with fail
                    refine (digit_is _ false (by first | exact HDG.out | (rw [HC.out]; exact HDG.out)) _).mono ?_
                    rintro e w1 ⟨rfl, rfl⟩
                    go_wp2_with fail
                    refine (worth_at nn nn.toNat q rfl HQ.out hn2' _).mono ?_
                    rintro e w1 ⟨rfl, rfl⟩
                    go_wp2
                    go_roundw
                    case rel => exact ⟨j + 1, nn, set + q, by omega, by omega, by omega, by omega, by first | rfl | trivial, by first | rfl | (congr 1), by go_num, HO2, HN, by trivial⟩
                    case measure => simp [intOf]; omega
                by_cases h125 : c = 125
                · have n44 : ((c : Int) == 44) = false := by simp; omega
                  have n45 : ((c : Int) != 44) = true := by simp; omega
                  have n46 : ((c : Int) != 125) = false := by simp; omega
                  have n47 : ((c : Int) == 125) = true := by simp; omega
                  have HN := Lib.hid (atM_close HJ2.out hl1 (by rw [HC.out]; exact h125) (by omega))
                  obtain ⟨o1, o2⟩ := or_new hnn0 (set_lt_mono HS.out (by omega))
                  rw [o1] at HN
                  have hp : 2 ^ (nn + 1).toNat ≤ 18446744073709551616 := pow_le64 (by omega)
                  have hq0 : set + 2 ^ nn.toNat < 18446744073709551616 := Nat.lt_of_lt_of_le o2 hp
                  clear o1 o2 hp h125
                  obtain ⟨q, hq⟩ : ∃ q : Nat, 2 ^ nn.toNat = q := ⟨_, rfl⟩
                  have HQ := Lib.hid hq
                  rw [hq] at HN hq0
                  have hws : IntKind.u64.wrap ((set : Int) + (q : Int)) = ((set + q : Nat) : Int) := by clear hq; rw [IntKind.wrap_u64]; omega
                  clear hq
                  by_cases hend : j + 1 < s.size
                  · have gend : (j : Int) + 1 < (s.size : Int) := by omega
                    have hf := HN.out
                    rw [if_neg (by intro x; have := congrArg List.length x; rw [List.length_drop, len_of] at this; simp at this; omega)] at hf
                    simp only [Prod.mk.injEq] at hf
                    obtain ⟨rfl, rfl, rfl⟩ := hf
                    go_wp2_with fail
                    refine (digit_is _ false (by first | exact HDG.out | (rw [HC.out]; exact HDG.out)) _).mono ?_
                    rintro e w1 ⟨rfl, rfl⟩
                    go_wp2_with fail
                    refine (worth_at nn nn.toNat q rfl HQ.out hn2' _).mono ?_
                    rintro e w1 ⟨rfl, rfl⟩
                    go_wp2
                    go_ret3
                    exact ⟨rfl, rfl⟩
                  · have gend : ¬ (j : Int) + 1 < (s.size : Int) := by omega
                    have hf := HN.out
                    rw [if_pos (List.drop_of_length_le (by rw [len_of]; omega))] at hf
                    simp only [Prod.mk.injEq] at hf
                    obtain ⟨rfl, rfl, rfl⟩ := hf
                    go_wp2_with fail
                    refine (digit_is _ false (by first | exact HDG.out | (rw [HC.out]; exact HDG.out)) _).mono ?_
                    rintro e w1 ⟨rfl, rfl⟩
                    go_wp2_with fail
                    refine (worth_at nn nn.toNat q rfl HQ.out hn2' _).mono ?_
                    rintro e w1 ⟨rfl, rfl⟩
                    go_wp2
                    go_ret3
                    exact ⟨by first | rfl | (rw [hws]; rfl), rfl⟩
                · have HF : Hid ((a, p, e0) = (0, (j : Int), 11)) := atM_bad HJ2.out hl1 hl2 (fun x y => by rw [HC.out] at x y; exact absurd ⟨x, y⟩ hnd) (.inr (.inl (by rw [HC.out]; exact ⟨h44, h125⟩)))
                  have hf := HF.out
                  simp only [Prod.mk.injEq] at hf
                  obtain ⟨rfl, rfl, rfl⟩ := hf
                  have n44 : ((c : Int) == 44) = false := by simp; omega
                  have n45 : ((c : Int) != 44) = true := by simp; omega
                  have n46 : ((c : Int) != 125) = true := by simp; omega
                  have n47 : ((c : Int) == 125) = false := by simp; omega
                  clear h44 h125
                  go_wp2_with fail
                  refine (digit_is _ false (by first | exact HDG.out | (rw [HC.out]; exact HDG.out)) _).mono ?_
                  rintro e w1 ⟨rfl, rfl⟩
                  go_wp2
                  go_ret3
                  exact ⟨rfl, rfl⟩
              · have HDG := Lib.hid hdig
                simp only [Bool.and_eq_true, decide_eq_true_eq] at hdig
                obtain ⟨d1, d2⟩ := hdig
                cases hm : mayB nn ((c : Int) - 48) last
                · have HM := Lib.hid hm
                  have HF : Hid ((a, p, e0) = (0, (j : Int), 11)) := atM_bad HJ2.out hl1 hl2 (fun _ _ => by rw [HC.out]; exact hm) (.inr (.inl (by rw [HC.out]; omega)))
                  have hf := HF.out
                  simp only [Prod.mk.injEq] at hf
                  obtain ⟨rfl, rfl, rfl⟩ := hf
                  have n44 : ((c : Int) == 44) = false := by simp; omega
                  have n45 : ((c : Int) != 44) = true := by simp; omega
                  have n46 : ((c : Int) != 125) = true := by simp; omega
                  clear hm
                  by_cases hle : nn ≤ last
                  all_goals
                    go_wp2_with fail
                    refine (digit_is _ true (by first | exact HDG.out | (rw [HC.out]; exact HDG.out)) _).mono ?_
                    rintro e w1 ⟨rfl, rfl⟩
                    go_wp2_with fail
                    refine (may_is nn ((c : Int) - 48) last hn1 hn2 (by omega) (by omega) false HM.out _).mono ?_
                    rintro e w1 ⟨rfl, rfl⟩
                    go_wp2
                    go_ret3
                    exact ⟨rfl, rfl⟩
                · have HM := Lib.hid hm
                  have HN : Hid (AtM (a, p, e0) last set (j + 1) (s.data.toList.drop (j + 1)) (if nn < 0 then (c : Int) - 48 else nn * 10 + ((c : Int) - 48))) := by
                    have := atM_step HJ2.out hl1 hl2 (by rw [HC.out]; exact d1) (by rw [HC.out]; exact d2) (by rw [HC.out]; exact hm)
                    rw [HC.out] at this
                    exact this
                  clear hm
                  by_cases hneg : nn < 0
                  · rw [if_pos hneg] at HN
                    obtain rfl : nn = -1 := by omega
                    go_wp2_with fail
                    refine (digit_is _ true (by first | exact HDG.out | (rw [HC.out]; exact HDG.out)) _).mono ?_
                    rintro e w1 ⟨rfl, rfl⟩
                    go_wp2_with fail
                    refine (may_is (-1) ((c : Int) - 48) last hn1 hn2 (by omega) (by omega) true HM.out _).mono ?_
                    rintro e w1 ⟨rfl, rfl⟩
                    go_wp2
                    go_roundw
                    case rel => exact ⟨j + 1, (c : Int) - 48, by omega, by omega, by go_num, by first | rfl | (congr 1; omega), HN, by trivial⟩
                    case measure => simp [intOf]; omega
                  · rw [if_neg hneg] at HN
                    go_wp2_with fail
                    refine (digit_is _ true (by first | exact HDG.out | (rw [HC.out]; exact HDG.out)) _).mono ?_
                    rintro e w1 ⟨rfl, rfl⟩
                    go_wp2_with fail
                    refine (may_is nn ((c : Int) - 48) last hn1 hn2 (by omega) (by omega) true HM.out _).mono ?_
                    rintro e w1 ⟨rfl, rfl⟩
                    go_wp2
                    go_roundw
                    case rel => exact ⟨j + 1, nn * 10 + ((c : Int) - 48), by omega, by omega, by go_num, by first | rfl | (congr 1; omega), HN, by trivial⟩
                    case measure => simp [intOf]; omega
            · have hjs : j = s.size := by omega
              have HF : Hid ((a, p, e0) = (0, (j : Int), 11)) := atM_end_nil (by have := HJ.out; rwa [List.drop_of_length_le (by rw [len_of]; omega)] at this)
              have hf := HF.out
              simp only [Prod.mk.injEq] at hf
              obtain ⟨rfl, rfl, rfl⟩ := hf
              have gj1 : ¬ (j : Int) < (s.size : Int) := by omega
              clear hjs
              by_cases hle : nn ≤ last
              all_goals
                go_wp2
                go_ret3
                exact ⟨rfl, rfl⟩
      · go_enter Tryd.func33, Tryd.ntmps33
        go_wp2_with fail
        go_loopw [5, 6, 7] (fun l o i wr => ∃ (k : Nat) (last : Int) (set : Nat), 1 ≤ k ∧ k ≤ s.size ∧ -1 ≤ last ∧ last ≤ 62 ∧ l = .int .i64 last ∧ o = .int .u64 set ∧ i = .int .i64 k ∧ Hid (set < 2 ^ (last + 1).toNat) ∧ Hid (AtM (a, p, e0) last set k (s.data.toList.drop k) (-1)) ∧ w = wr) (fun _ _ i _ => s.size + 1 - (intOf i).toNat)
        case atStart => exact ⟨1, -1, 0, Nat.le_refl _, by omega, by omega, by omega, rfl, rfl, rfl, by show 0 < 2 ^ (0 : Int).toNat; decide, HA1, rfl⟩
        case round =>
          obtain ⟨k, last, set, hk1, hk2, hl1, hl2, rfl, rfl, rfl, HS, HK, rfl⟩ := hrel
          go_wp2_with fail
          go_loopw [7, 8] (fun i n wr => ∃ (j : Nat) (nn : Int), k ≤ j ∧ j ≤ s.size ∧ i = .int .i64 j ∧ n = .int .i64 nn ∧ Hid (AtM (a, p, e0) last set j (s.data.toList.drop j) nn) ∧ w = wr) (fun i _ _ => s.size - (intOf i).toNat)
          case atStart => exact ⟨k, -1, Nat.le_refl _, hk2, rfl, rfl, HK, rfl⟩
          case round =>
            obtain ⟨j, nn, hj1, hj2, rfl, rfl, HJ, rfl⟩ := hrel
            have hn1 := HJ.out.lo
            have hn2 := HJ.out.hi
            have hn2' : nn ≤ 63 := hn2
            have gj0 : (0 : Int) ≤ (j : Int) := by omega
            by_cases hj : j < s.size
            · exfalso; omega
            · have hjs : j = s.size := by omega
              have HF : Hid ((a, p, e0) = (0, (j : Int), 11)) := atM_end_nil (by have := HJ.out; rwa [List.drop_of_length_le (by rw [len_of]; omega)] at this)
              have hf := HF.out
              simp only [Prod.mk.injEq] at hf
              obtain ⟨rfl, rfl, rfl⟩ := hf
              have gj1 : ¬ (j : Int) < (s.size : Int) := by omega
              clear hjs
              by_cases hle : nn ≤ last
              all_goals
                go_wp2
                go_ret3
                exact ⟨rfl, rfl⟩
  · have hst : stepM 0 (-1) 0 0 (s[0]'h1).toNat = none := by
      rw [hc0]; unfold stepM
      repeat' split
      all_goals first | rfl | omega
    have HR1 : Hid ((0, (0 : Int), (11 : Int)) = (a, p, e0)) := by show _ = _; rw [← HR0.out, HD.out, goM_none hst]; rfl
    have he := HR1.out
    simp only [Prod.mk.injEq] at he
    obtain ⟨rfl, rfl, rfl⟩ := he
    have n0 : ((c0 : Int) != 123) = true := by simp; omega
    clear hst
    go_enter Tryd.func33, Tryd.ntmps33
    go_wp2
    go_ret3
    exact ⟨rfl, rfl⟩
end Go.Proofs.YtdaijibkafepcaaDoor
