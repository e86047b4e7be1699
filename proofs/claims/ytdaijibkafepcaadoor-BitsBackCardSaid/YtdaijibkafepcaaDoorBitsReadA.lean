/-
  THE BITS LAYER: the program's Read.
-/
import Derived.Test.YtdaijibkafepcaaDoorBitsRd2
namespace Go.Proofs.YtdaijibkafepcaaDoor
open Go.RowKit
set_option linter.unusedVariables false

/-- One byte more: the reader's next state, if the byte may stand there. -/
def stepM (st last now : Int) (set : Nat) (c : Nat) : Option (Int × Int × Int × Nat) :=
  if c = 123 then (if st = 0 then some (1, last, now, set) else none)
  else if c = 125 then (if st = 1 then some (4, last, now, set) else if st = 3 ∧ closeOk last now = true then some (4, now, now, set ||| 2 ^ now.toNat) else none)
  else if c = 44 then (if st = 3 ∧ now < 63 ∧ closeOk last now = true then some (2, now, now, set ||| 2 ^ now.toNat) else none)
  else if 48 ≤ c ∧ c ≤ 57 then
    (if st = 1 ∨ st = 2 then (if growsB last ((c : Int) - 48) = true then some (3, last, (c : Int) - 48, set) else none)
     else if st = 3 ∧ now ≠ 0 then (if growsB last (10 * now + ((c : Int) - 48)) = true then some (3, last, 10 * now + ((c : Int) - 48), set) else none)
     else none)
  else none
def goM (st last now : Int) (set : Nat) (i : Nat) : List UInt8 → Nat × Int × Int
  | [] => if st = 4 then (set, 0, 0) else (0, (i : Int), 11)
  | c :: l => match stepM st last now set c.toNat with
    | none => (0, (i : Int), 11)
    | some (a, b, x, d) => goM a b x d (i + 1) l
def readM (l : List UInt8) : Nat × Int × Int := goM 0 (-1) 0 0 0 l
theorem goM_none {st last now : Int} {set i : Nat} {c : UInt8} {l : List UInt8} (h : stepM st last now set c.toNat = none) : goM st last now set i (c :: l) = (0, (i : Int), 11) := by rw [goM, h]
theorem goM_some {st last now a b x : Int} {set i d : Nat} {c : UInt8} {l : List UInt8} (h : stepM st last now set c.toNat = some (a, b, x, d)) : goM st last now set i (c :: l) = goM a b x d (i + 1) l := by rw [goM, h]

structure ValM (st now : Int) (set : Nat) : Prop where
  hst : st = 0 ∨ st = 1 ∨ st = 2 ∨ st = 3 ∨ st = 4
  hnow : st = 3 → 0 ≤ now ∧ now ≤ 63
  hset : set < 18446744073709551616
theorem grows_le {last n : Int} (h : growsB last n = true) : n ≤ 63 := by
  unfold growsB at h
  rw [Bool.or_eq_true] at h
  rcases h with h | h
  · simp [closeOk] at h; omega
  · simp only [Bool.and_eq_true, decide_eq_true_eq, List.any_eq_true] at h
    obtain ⟨h0, d, hd, hc⟩ := h
    simp [closeOk] at hc; omega
theorem valM_step {st last now a b x : Int} {set c d : Nat} (hv : ValM st now set) (h : stepM st last now set c = some (a, b, x, d)) : ValM a x d := by
  unfold stepM at h
  have hset : st = 3 → closeOk last now = true → set ||| 2 ^ now.toNat < 18446744073709551616 := fun h3 _ => or_pow_lt hv.hset (by have := hv.hnow h3; omega)
  split at h
  · split at h
    · simp at h; obtain ⟨rfl, rfl, rfl, rfl⟩ := h; exact ⟨by simp, (by intro h; cases h), hv.hset⟩
    · cases h
  split at h
  · split at h
    · simp at h; obtain ⟨rfl, rfl, rfl, rfl⟩ := h; exact ⟨by simp, (by intro h; cases h), hv.hset⟩
    · split at h
      · rename_i h3; simp at h; obtain ⟨rfl, rfl, rfl, rfl⟩ := h; exact ⟨by simp, (by intro h; cases h), hset h3.1 h3.2⟩
      · cases h
  split at h
  · split at h
    · rename_i h3; simp at h; obtain ⟨rfl, rfl, rfl, rfl⟩ := h; exact ⟨by simp, (by intro h; cases h), hset h3.1 h3.2.2⟩
    · cases h
  split at h
  · rename_i hc
    split at h
    · split at h
      · rename_i hg; simp at h; obtain ⟨rfl, rfl, rfl, rfl⟩ := h; exact ⟨by simp, fun _ => ⟨by omega, grows_le hg⟩, hv.hset⟩
      · cases h
    · split at h
      · rename_i h3
        split at h
        · rename_i hg; simp at h; obtain ⟨rfl, rfl, rfl, rfl⟩ := h; exact ⟨by simp, fun _ => ⟨by have := hv.hnow h3.1; omega, grows_le hg⟩, hv.hset⟩
        · cases h
      · cases h
  · cases h

def TakeRet (w : World) (B : Nat) : Option (Int × Int × Int × Nat) → Ending → World → Prop
  | none, e, w' => e = .returned (.bool false) ∧ Below B w w'
  | some (a, b, x, d), e, w' => e = .returned (.bool true) ∧ RdPost w w' B a b x d
theorem take_is (B : Nat) (st last now : Int) (set : Nat) (c : Nat) (hc : c < 256) (hv : ValM st now set) (o : Option (Int × Int × Int × Nat)) (ho : stepM st last now set c = o) (w : World) (hr : RdAt w B st last now set) :
    Calls Tryd.prog 66 #[.pointer (some ⟨B, 0, none⟩), .int .u8 c] w (TakeRet w B o) := by
  subst ho
  obtain ⟨hst, hnow, hset⟩ := hv
  unfold stepM
  by_cases h1 : c = 123
  · subst h1
    rw [if_pos rfl]
    by_cases h : st = 0
    · subst h; rw [if_pos rfl]; exact take_open B last now set w hr
    · rw [if_neg h]
      exact (take_open_no B st last now set (by omega) w hr).mono fun e w' ⟨h1, h2⟩ => ⟨h1, h2.below⟩
  rw [if_neg h1]
  by_cases h2 : c = 125
  · subst h2
    rw [if_pos rfl]
    by_cases h : st = 1
    · subst h; rw [if_pos rfl]; exact take_end B last now set w hr
    · rw [if_neg h]
      by_cases h3 : st = 3
      · subst h3
        cases hk : closeOk last now
        · rw [if_neg (by simp)]
          exact (take_end_bad B last now set hk w hr).mono fun e w' ⟨h1, h2⟩ => ⟨h1, h2.below⟩
        · rw [if_pos ⟨rfl, rfl⟩]
          exact take_end_num B last now set hk (hnow rfl).1 hset w hr
      · rw [if_neg (fun x => h3 x.1)]
        exact (take_end_no B st last now set (by omega) w hr).mono fun e w' ⟨h1, h2⟩ => ⟨h1, h2.below⟩
  rw [if_neg h2]
  by_cases h3 : c = 44
  · subst h3
    rw [if_pos rfl]
    by_cases h : st = 3
    · subst h
      by_cases h63 : now < 63
      · cases hk : closeOk last now
        · rw [if_neg (by simp)]
          exact (take_comma_bad B last now set h63 hk w hr).mono fun e w' ⟨h1, h2⟩ => ⟨h1, h2.below⟩
        · rw [if_pos ⟨rfl, h63, rfl⟩]
          exact take_comma B last now set h63 hk (hnow rfl).1 hset w hr
      · rw [if_neg (fun x => h63 x.2.1)]
        exact (take_comma_63 B last now set (by omega) w hr).mono fun e w' ⟨h1, h2⟩ => ⟨h1, h2.below⟩
    · rw [if_neg (fun x => h x.1)]
      exact (take_comma_no B st last now set (by omega) w hr).mono fun e w' ⟨h1, h2⟩ => ⟨h1, h2.below⟩
  rw [if_neg h3]
  by_cases h4 : 48 ≤ c ∧ c ≤ 57
  · rw [if_pos h4]
    by_cases h12 : st = 1 ∨ st = 2
    · rw [if_pos h12]
      cases hg : growsB last ((c : Int) - 48)
      · rw [if_neg (by simp)]
        rcases h12 with rfl | rfl
        · exact (take_first1 B last now set c h4.1 h4.2 false hg w hr).mono fun e w' ⟨h1, h2⟩ => ⟨h1, h2.below⟩
        · exact (take_first2 B last now set c h4.1 h4.2 false hg w hr).mono fun e w' ⟨h1, h2⟩ => ⟨h1, h2.below⟩
      · rw [if_pos rfl]
        rcases h12 with rfl | rfl
        · exact take_first1 B last now set c h4.1 h4.2 true hg w hr
        · exact take_first2 B last now set c h4.1 h4.2 true hg w hr
    · rw [if_neg h12]
      by_cases h30 : st = 3 ∧ now ≠ 0
      · rw [if_pos h30]
        obtain ⟨rfl, hn0⟩ := h30
        have hb := hnow rfl
        cases hg : growsB last (10 * now + ((c : Int) - 48))
        · rw [if_neg (by simp)]
          exact (take_more B last now set c h4.1 h4.2 (by omega) hb.2 false hg w hr).mono fun e w' ⟨h1, h2⟩ => ⟨h1, h2.below⟩
        · rw [if_pos rfl]
          exact take_more B last now set c h4.1 h4.2 (by omega) hb.2 true hg w hr
      · rw [if_neg h30]
        exact (take_digit_no B st last now set c h4.1 h4.2 (by
          by_cases h3 : st = 3
          · exact .inr (.inr ⟨h3, by
              apply Classical.byContradiction
              intro x; exact h30 ⟨h3, x⟩⟩)
          · omega) w hr).mono fun e w' ⟨h1, h2⟩ => ⟨h1, h2.below⟩
  · rw [if_neg h4]
    exact (take_other B st last now set c h1 h2 h3 (by omega) hc w hr).mono fun e w' ⟨h1, h2⟩ => ⟨h1, h2.below⟩

theorem len_of (s : ByteArray) : s.data.toList.length = s.size := by rw [Array.length_toList]; rfl
theorem drop_byte {s : ByteArray} {k : Nat} (h : k < s.size) : s.data.toList.drop k = (s[k]'h) :: s.data.toList.drop (k + 1) := by
  have h2 : k < s.data.toList.length := by rw [len_of]; exact h
  rw [List.drop_eq_getElem_cons h2]
  congr 1
def Ret3 (a : Nat) (p e : Int) : Ending := .returned (.tuple #[.int .u64 (a : Int), .int .i64 p, .int .i64 e])
set_option maxRecDepth 100000 in
set_option maxHeartbeats 1000000 in
theorem readA_any (s : ByteArray) (hs : s.size ≤ 9223372036854775807) (a : Nat) (p e0 : Int) (h : readM s.data.toList = (a, p, e0)) (w : World) :
    Calls Tryd.prog 32 #[.string s] w fun e w' => e = Ret3 a p e0 ∧ Below w.heap.size w w' := by
  have H := Lib.hid h
  clear h
  go_enter Tryd.func32, Tryd.ntmps32
  go_wp2_with fail
  go_loopw [10] (fun i wr => ∃ (k : Nat) (st last now : Int) (set : Nat), k ≤ s.size ∧ i = .int .i64 k ∧ Hid (ValM st now set) ∧ Hid (RdAt wr w.heap.size st last now set) ∧ Hid (goM st last now set k (s.data.toList.drop k) = (a, p, e0)) ∧ Below w.heap.size w wr) (fun i _ => s.size - (intOf i).toNat)
  case atStart =>
    refine ⟨0, 0, -1, 0, 0, Nat.zero_le _, rfl, ⟨by simp, (by intro h; cases h), by decide⟩, ?_, by show _ = _; rw [List.drop_zero]; exact H.out, (Below.refl _ _).alloc (Nat.le_refl _) _⟩
    show _ = _
    exact heapV_new _ _
  case round =>
    obtain ⟨k, st, last, now, set, hk, rfl, HV, HR, HG, hb⟩ := hrel
    by_cases hlt : k < s.size
    · have HD := Lib.hid (drop_byte hlt)
      have hc256 : (s[k]'hlt).toNat < 256 := UInt8.toNat_lt _
      have g0 : (0 : Int) ≤ (k : Int) := by omega
      have g1 : (k : Int) < (s.size : Int) := by omega
      cases ho : stepM st last now set (s[k]'hlt).toNat with
      | none =>
        have HE : Hid ((0, (k : Int), (11 : Int)) = (a, p, e0)) := by show _ = _; rw [← HG.out, HD.out, goM_none ho]
        have he := HE.out
        simp only [Prod.mk.injEq] at he
        obtain ⟨rfl, rfl, rfl⟩ := he
        have HO := Lib.hid ho
        clear ho
        go_wp2_with fail
        refine (take_is w.heap.size st last now set _ hc256 HV.out none HO.out _ HR.out).mono ?_
        rintro e w1 ⟨rfl, hb1⟩
        go_wp2
        go_ret3
        exact ⟨rfl, hb.trans hb1⟩
      | some t =>
        obtain ⟨st2, last2, now2, set2⟩ := t
        have HG2 : Hid (goM st2 last2 now2 set2 (k + 1) (s.data.toList.drop (k + 1)) = (a, p, e0)) := by show _ = _; rw [← HG.out, HD.out, goM_some ho]
        have HV2 := Lib.hid (valM_step HV.out ho)
        have HO := Lib.hid ho
        clear ho
        go_wp2_with fail
        refine (take_is w.heap.size st last now set _ hc256 HV.out _ HO.out _ HR.out).mono ?_
        rintro e w1 ⟨rfl, post⟩
        have HR2 := Lib.hid post.at_
        have hb2 := hb.trans post.below
        clear post
        go_wp2
        go_roundw
        case rel => exact ⟨k + 1, st2, last2, now2, set2, by omega, by go_num, HV2, HR2, HG2, hb2⟩
        case measure => simp [intOf]; omega
    · have hkk : k = s.size := by omega
      obtain ⟨c0, c1, c2, c3, _⟩ := rd_cells HR.out
      have HE : Hid ((if st = 4 then (set, (0 : Int), (0 : Int)) else (0, (k : Int), 11)) = (a, p, e0)) := by
        show _ = _
        rw [← HG.out, List.drop_of_length_le (by rw [len_of]; omega)]; rfl
      have he := HE.out
      by_cases h4 : st = 4
      · rw [if_pos h4] at he
        simp only [Prod.mk.injEq] at he
        obtain ⟨rfl, rfl, rfl⟩ := he
        have hne : (st != 4) = false := by simp [h4]
        clear h4
        go_wp2
        go_ret3
        exact ⟨rfl, hb⟩
      · rw [if_neg h4] at he
        simp only [Prod.mk.injEq] at he
        obtain ⟨rfl, rfl, rfl⟩ := he
        have hne : (st != 4) = true := by simp [h4]
        have hks : (k : Int) = (s.size : Int) := by omega
        clear h4 hkk
        go_wp2
        go_ret3
        exact ⟨by first | rfl | (rw [hks]; rfl), hb⟩
end Go.Proofs.YtdaijibkafepcaaDoor
