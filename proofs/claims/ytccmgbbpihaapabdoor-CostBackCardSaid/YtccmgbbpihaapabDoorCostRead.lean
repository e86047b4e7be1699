/-
  THE COST LAYER: the program's Read.
-/
import Derived.Test.YtccmgbbpihaapabDoorCostFits
import Derived.Lib.OthersKept
import Derived.Laws.RangeAny
namespace Go.Proofs.YtccmgbbpihaapabDoor
open Go.RowKit
set_option linter.unusedVariables false

theorem readA_no {limit : Int} {l : List UInt8} {n : Nat} (h : readOk limit l n = false) : readA limit l n = 0 := by
  unfold readOk at h
  unfold readA
  by_cases h1 : n = l.length
  · rw [decide_eq_true h1, Bool.true_and, Bool.or_eq_false_iff] at h
    have h2 : ¬ l = noneL := by simpa using h.1
    have h3 : ¬ 0 ≤ numC limit l := by simpa using h.2
    rw [if_neg (fun x => h2 x.2), if_neg (fun x => h3 x.2)]
  · rw [if_neg (fun x => h1 x.1), if_neg (fun x => h1 x.1)]
theorem isN_next {limit : Int} {l : List UInt8} {n k : Nat} (h : IsN limit l n) (hk : k ≤ n) (hl : k < l.length) (hb : begC limit (l.take (k + 1)) = true) : k + 1 ≤ n := by
  rcases Nat.lt_or_ge k n with h1 | h1
  · omega
  · obtain rfl : k = n := by omega
    rcases h.no with h2 | h2
    · omega
    · rw [hb] at h2; cases h2
theorem isN_stop {limit : Int} {l : List UInt8} {n k : Nat} (h : IsN limit l n) (hk : k ≤ n) (hb : begC limit (l.take (k + 1)) = false) : n = k := by
  rcases Nat.lt_or_ge k n with h1 | h1
  · have := h.yes k h1; rw [hb] at this; cases this
  · omega
theorem rd_iter {w : World} {B K : Nat} {limit st c le : Int} (h : RdAt w B limit st c le) (hne : B ≠ K) (s : ByteArray) (p : Nat) : RdAt (Go.World.iterAt w K s p) B limit st c le := by
  unfold RdAt at h ⊢
  rw [Go.Lib.iterAt_other w K B s p hne]; exact h

set_option maxRecDepth 100000 in
set_option maxHeartbeats 2000000 in
theorem read_any (limit : Int) (s : ByteArray) (w : World) (hs : s.size ≤ 9223372036854775807) (n : Nat) (hn : IsN limit s.data.toList n) (c : Int) (hc : chk limit [] = c) (a p e0 : Int)
    (ha : (if c = 0 then readA limit s.data.toList n else 0) = a) (hp : (if c = 0 then readP limit s.data.toList n else 0) = p) (he : (if c = 0 then readE limit s.data.toList n else c) = e0) :
    Calls Tryd.prog 6 #[.int .i64 limit, .string s] w fun e w' => e = Read3 a p e0 ∧ Below w.heap.size w w' := by
  have HC := Lib.hid hc
  by_cases h0 : c = 0
  · subst h0
    obtain ⟨l0, l1⟩ := chk_nil hc rfl
    rw [if_pos rfl] at ha hp he
    have HN := Lib.hid hn
    have HL := Lib.hid (len_of s)
    have HA := Lib.hid ha; have HP := Lib.hid hp; have HE := Lib.hid he
    have hnle : n ≤ s.size := by rw [← HL.out]; exact hn.le
    clear hc hn ha hp he
    go_enter Tryd.func6, Tryd.ntmps6
    go_wp2_with fail
    refine (checkAll_any limit none 0 [] _ (by simp [maxLen]) (.inl rfl)).mono ?_
    rintro e w1 ⟨rfl, rfl⟩
    rw [HC.out]
    go_wp2_with fail
    go_loopw [9] (fun i wr => ∃ (k : Nat) (st cc : Int) (e : Nat), k ≤ n ∧ 0 ≤ cc ∧ cc ≤ 1048576 ∧ e ≤ 4 ∧ Hid (wr.heap[w.heap.size + 1]? = some (.stringIter s k)) ∧ Hid (RdAt wr w.heap.size limit st cc e) ∧ Hid (Inv limit s.data.toList k st cc e) ∧ Below w.heap.size w wr) (fun _ wr => s.size - wr.iterPos (w.heap.size + 1))
    case atStart =>
      refine ⟨0, 0, 0, 0, Nat.zero_le _, by omega, by omega, by omega, ?_, ?_, .inl ⟨rfl, rfl, rfl, rfl⟩, ((Below.refl _ _).alloc (Nat.le_refl _) _).alloc (by simp) _⟩
      · show _ = _
        rw [show w.heap.size + 1 = (w.alloc (.cells #[.int .i64 limit, .int .i64 0, .int .i64 0, .int .i64 0] 34)).heap.size by simp]
        exact heap_alloc_new _ _
      · show _ = _
        exact (heap_alloc_old _ _ (by simp)).trans (heap_alloc_new _ _)
    case round =>
      obtain ⟨k, st, cc, e, hk, hc0, hc1, he4, HK, HR, HI, hb⟩ := hrel
      by_cases hks : k < s.size
      · have hat : s.data.toList[k]? = some (s[k]'hks) := at_of hks
        have HAT := Lib.hid hat
        have hBK : w.heap.size ≠ w.heap.size + 1 := by omega
        have stop : begC limit (s.data.toList.take (k + 1)) = false → Hid (n = k ∧ a = 0 ∧ p = k ∧ e0 = 22) := by
          intro hf
          have e9 : n = k := isN_stop HN.out hk hf
          have hne9 : ¬ n = s.data.toList.length := by rw [HL.out]; omega
          have hO : readOk limit s.data.toList n = false := by rw [readOk, decide_eq_false hne9]; rfl
          exact ⟨e9, by rw [← HA.out]; exact readA_no hO, by rw [← HP.out, readP, hO, e9]; rfl, by rw [← HE.out, readE, hO]; rfl⟩
        cases hdig : isDig (s[k]'hks)
        · obtain ⟨r, wd, hnx, hcase⟩ : ∃ (r : Int) (wd : Nat), (∀ ty, (Instr.next (.pointer (some ⟨w.heap.size + 1, 0, none⟩)) true ty).run Tryd.prog wr = .ok (.tuple #[.bool true, .int .i64 k, .int .i32 r]) (Go.World.iterAt wr (w.heap.size + 1) s (k + wd))) ∧ ((r = ((s[k]'hks).toNat : Int) ∧ wd = 1) ∨ (128 ≤ r ∧ 128 ≤ (s[k]'hks).toNat)) := by
            by_cases hlow : (s[k]'hks).toNat < 128
            · exact ⟨_, 1, fun ty => Go.Lib.run_next_ascii_at wr _ s k ty HK.out hks hlow, .inl ⟨rfl, rfl⟩⟩
            · have hh := decode_high s k hks (by omega)
              exact ⟨_, _, fun ty => Go.Lib.run_next_any_at wr _ s k ty HK.out hks, .inr ⟨by have := hh.1; omega, by omega⟩⟩
          have hnd : ¬ (48 ≤ (s[k]'hks).toNat ∧ (s[k]'hks).toNat ≤ 57) := by
            intro h
            have : isDig (s[k]'hks) = true := by simp [isDig, h]
            rw [hdig] at this; cases this
          have hnr : r < 48 ∨ 57 < r := by
            rcases hcase with ⟨h, _⟩ | ⟨h, _⟩ <;> omega
          have HR2 := Lib.hid (rd_iter HR.out hBK s (k + wd))
          have HK2 := Lib.hid (Go.Lib.iterAt_heap wr (w.heap.size + 1) s k (k + wd) HK.out)
          have HB2 := Lib.hid (Go.Lib.below_iterAt hb (show w.heap.size ≤ w.heap.size + 1 by omega) s (k + wd))
          by_cases hacc : ¬ st = 1 ∧ e < 4 ∧ noneAt e = r
          · obtain ⟨a1, a2, a3⟩ := hacc
            have hlow : r = ((s[k]'hks).toNat : Int) ∧ wd = 1 := by
              rcases hcase with h | ⟨h, _⟩
              · exact h
              · have : noneAt e ≤ 111 := by rcases (by omega : e = 0 ∨ e = 1 ∨ e = 2 ∨ e = 3) with rfl | rfl | rfl | rfl <;> decide
                omega
            obtain ⟨f1, f2⟩ := fit_letter HI.out hat a1 a2 (by rw [a3]; exact hlow.1)
            have HI2 := Lib.hid f2
            have hkn : k + 1 ≤ n := isN_next HN.out hk (by rw [HL.out]; exact hks) f1
            rw [hlow.2] at HK2 HR2 HB2 hnx
            clear f1 f2 stop hat hdig hcase hnd hlow
            rcases hnr with hlt | hgt
            · have hlt2 : ¬ (48 : Int) ≤ r := by omega
              go_wp2_with (go_at_call 12; go_loud (refine (letter_yes w.heap.size limit st cc e r _ HR2.out a2 a1 a3).mono ?_; rintro x w3 ⟨rfl, post⟩))
              have HK3 : Hid (w3.heap[w.heap.size + 1]? = some (.stringIter s (k + 1))) := (post.rest _ (by omega)).trans HK2.out
              have HR3 := Lib.hid post.at_
              have HB3 := Lib.hid (HB2.out.trans post.below)
              clear post
              go_roundw
              case rel => exact ⟨k + 1, 2, cc, e + 1, hkn, hc0, hc1, by omega, HK3, HR3, HI2, HB3.out⟩
              case measure =>
                have i1 := HK3.out
                have i2 := HK.out
                simp only [World.iterPos, i1, i2]
                omega
            · have hge : (48 : Int) ≤ r := by omega
              have hgt2 : ¬ r ≤ 57 := by omega
              go_wp2_with (go_at_call 12; go_loud (refine (letter_yes w.heap.size limit st cc e r _ HR2.out a2 a1 a3).mono ?_; rintro x w3 ⟨rfl, post⟩))
              have HK3 : Hid (w3.heap[w.heap.size + 1]? = some (.stringIter s (k + 1))) := (post.rest _ (by omega)).trans HK2.out
              have HR3 := Lib.hid post.at_
              have HB3 := Lib.hid (HB2.out.trans post.below)
              clear post
              go_roundw
              case rel => exact ⟨k + 1, 2, cc, e + 1, hkn, hc0, hc1, by omega, HK3, HR3, HI2, HB3.out⟩
              case measure =>
                have i1 := HK3.out
                have i2 := HK.out
                simp only [World.iterPos, i1, i2]
                omega
          · have hrej : st = 1 ∨ e = 4 ∨ noneAt e ≠ r := by
              by_cases x1 : st = 1
              · exact .inl x1
              · by_cases x2 : e = 4
                · exact .inr (.inl x2)
                · right; right
                  intro x3
                  exact hacc ⟨x1, by omega, x3⟩
            have hrej2 : st = 1 ∨ e = 4 ∨ noneAt e ≠ ((s[k]'hks).toNat : Int) := by
              rcases hcase with ⟨h, _⟩ | ⟨_, h⟩
              · rw [← h]; exact hrej
              · right; right
                have : noneAt e ≤ 111 := by
                  match e with
                  | 0 => decide
                  | 1 => decide
                  | 2 => decide
                  | e + 3 => exact (by decide : (101 : Int) ≤ 111)
                omega
            obtain ⟨e9, rfl, rfl, rfl⟩ := (stop (fit_letter_no HI.out hat hdig hrej2)).out
            clear hacc stop hat hdig hcase hnd hrej2
            rcases hnr with hlt | hgt
            · have hlt2 : ¬ (48 : Int) ≤ r := by omega
              go_wp2_with (go_at_call 12; refine (letter_no w.heap.size limit st cc e r _ HR2.out he4 hrej).mono ?_; rintro x w3 ⟨rfl, post⟩)
              go_ret3
              exact ⟨rfl, HB2.out.trans post.below⟩
            · have hge : (48 : Int) ≤ r := by omega
              have hgt2 : ¬ r ≤ 57 := by omega
              go_wp2_with (go_at_call 12; refine (letter_no w.heap.size limit st cc e r _ HR2.out he4 hrej).mono ?_; rintro x w3 ⟨rfl, post⟩)
              go_ret3
              exact ⟨rfl, HB2.out.trans post.below⟩
        · obtain ⟨b1, b2⟩ := dig_pos hdig
          have hnx : ∀ ty, (Instr.next (.pointer (some ⟨w.heap.size + 1, 0, none⟩)) true ty).run Tryd.prog wr = _ := fun ty => Go.Lib.run_next_ascii_at wr _ s k ty HK.out hks (by omega)
          have HR2 := Lib.hid (rd_iter HR.out hBK s (k + 1))
          have HK2 := Lib.hid (Go.Lib.iterAt_heap wr (w.heap.size + 1) s k (k + 1) HK.out)
          have HB2 := Lib.hid (Go.Lib.below_iterAt hb (show w.heap.size ≤ w.heap.size + 1 by omega) s (k + 1))
          have hd1 : (48 : Int) ≤ ((s[k]'hks).toNat : Int) := by omega
          have hd2 : ((s[k]'hks).toNat : Int) ≤ 57 := by omega
          have hw : IntKind.i32.wrap (((s[k]'hks).toNat : Int) - 48) = ((s[k]'hks).toNat : Int) - 48 := by
            generalize (s[k]'hks).toNat = q at b1 b2
            simp [IntKind.wrap, IntKind.signed, IntKind.bits]; omega
          by_cases hacc : ¬ st = 2 ∧ ¬ (st = 1 ∧ cc = 0) ∧ ¬ limit < 10 * cc + (((s[k]'hks).toNat : Int) - 48)
          · obtain ⟨a1, a2, a3⟩ := hacc
            obtain ⟨f1, f2, f3⟩ := fit_digit l0 l1 HI.out hat hdig a1 a2 a3
            have HI2 := Lib.hid f2
            subst f3
            have hkn : k + 1 ≤ n := isN_next HN.out hk (by rw [HL.out]; exact hks) f1
            clear f1 f2 stop hat hdig
            go_wp2_with (go_at_call 11; go_loud (refine (digit_yes w.heap.size limit st cc _ _ _ HR2.out hc0 hc1 (by omega) (by omega) a1 a2 a3).mono ?_; rintro x w3 ⟨rfl, post⟩))
            have HK3 : Hid (w3.heap[w.heap.size + 1]? = some (.stringIter s (k + 1))) := (post.rest _ (by omega)).trans HK2.out
            have HR3 := Lib.hid post.at_
            have HB3 := Lib.hid (HB2.out.trans post.below)
            clear post
            go_roundw
            case rel => exact ⟨k + 1, 1, _, 0, hkn, by omega, by omega, by omega, HK3, HR3, HI2, HB3.out⟩
            case measure =>
              have i1 := HK3.out
              have i2 := HK.out
              simp only [World.iterPos, i1, i2]
              omega
          · have hrej : st = 2 ∨ (st = 1 ∧ cc = 0) ∨ limit < 10 * cc + (((s[k]'hks).toNat : Int) - 48) := by
              by_cases x1 : st = 2
              · exact .inl x1
              · by_cases x2 : st = 1 ∧ cc = 0
                · exact .inr (.inl x2)
                · right; right
                  apply Classical.byContradiction
                  intro x3
                  exact hacc ⟨x1, x2, x3⟩
            obtain ⟨e9, rfl, rfl, rfl⟩ := (stop (fit_digit_no l0 l1 HI.out hat hdig hrej)).out
            clear hacc stop hat hdig
            go_wp2_with (go_at_call 11; refine (digit_no w.heap.size limit st cc _ _ _ HR2.out hc0 hc1 (by omega) (by omega) hrej).mono ?_; rintro x w3 ⟨rfl, post⟩)
            go_ret3
            exact ⟨rfl, HB2.out.trans post.below⟩
      · have hnx : ∀ ty, (Instr.next (.pointer (some ⟨w.heap.size + 1, 0, none⟩)) true ty).run Tryd.prog wr = _ := fun ty => Go.Lib.run_next_end_at wr _ s k ty HK.out hks
        have hkl : k = s.data.toList.length := by rw [HL.out]; omega
        have hnk : n = s.data.toList.length := by rw [HL.out]; omega
        have HI2 : Hid (Inv limit s.data.toList s.data.toList.length st cc e) := by show Inv _ _ _ _ _ _; rw [← hkl]; exact HI.out
        have HD := Lib.hid (end_done l0 l1 HI2.out)
        obtain ⟨d1, d2, d3⟩ := HD.out
        by_cases h1 : st = 1
        · have hO : readOk limit s.data.toList n = true := by rw [hnk, ← d1]; simp [h1]
          have hA : a = cc := by rw [← HA.out, hnk]; exact d2 h1
          have hP : p = 0 := by rw [← HP.out, readP, if_pos hO]
          have hE : e0 = 0 := by rw [← HE.out, readE, if_pos hO]
          subst hA hP hE
          have hv : (decide (st = 1) || decide (e = 4)) = true := by simp [h1]
          have e1 : (st == 2) = false := by simp; omega
          clear hO d1 d2 d3
          go_wp2_with fail
          refine (done_any w.heap.size limit st _ e _ HR.out).mono ?_
          rintro x w2 ⟨rfl, post⟩
          rw [hv]
          obtain ⟨c0, c1, c2, c3, _⟩ := rd_cells post.at_
          have HB2 := Lib.hid (hb.trans post.below)
          clear post
          go_wp2
          go_ret3
          exact ⟨rfl, HB2.out⟩
        · by_cases h4 : e = 4
          · have h2 : st = 2 := by
              rcases HI2.out with ⟨_, _, _, h⟩ | ⟨h, _⟩ | ⟨h, _⟩
              · omega
              · exact absurd h h1
              · exact h
            have hO : readOk limit s.data.toList n = true := by rw [hnk, ← d1]; simp [h4]
            have hA : a = -1 := by rw [← HA.out, hnk]; exact d3 h2 h4
            have hP : p = 0 := by rw [← HP.out, readP, if_pos hO]
            have hE : e0 = 0 := by rw [← HE.out, readE, if_pos hO]
            subst hA hP hE
            have hv : (decide (st = 1) || decide (e = 4)) = true := by simp [h4]
            have e1 : (st == 2) = true := by simp [h2]
            clear hO d1 d2 d3
            go_wp2_with fail
            refine (done_any w.heap.size limit st _ e _ HR.out).mono ?_
            rintro x w2 ⟨rfl, post⟩
            rw [hv]
            obtain ⟨c0, c1, c2, c3, _⟩ := rd_cells post.at_
            have HB2 := Lib.hid (hb.trans post.below)
            clear post
            go_wp2
            go_ret3
            exact ⟨rfl, HB2.out⟩
          · have hO : readOk limit s.data.toList n = false := by rw [hnk, ← d1]; simp [h1, h4]
            have hA : a = 0 := by rw [← HA.out]; exact readA_no hO
            have hP : p = n := by rw [← HP.out, readP, hO]; rfl
            have hE : e0 = 22 := by rw [← HE.out, readE, hO]; rfl
            have hns : (n : Int) = (s.size : Int) := by have := HL.out; omega
            subst hA hP hE
            have hv : (decide (st = 1) || decide (e = 4)) = false := by simp [h1, h4]
            clear hO d1 d2 d3
            go_wp2_with fail
            refine (done_any w.heap.size limit st _ e _ HR.out).mono ?_
            rintro x w2 ⟨rfl, post⟩
            rw [hv]
            have HB2 := Lib.hid (hb.trans post.below)
            clear post
            go_wp2
            go_ret3
            exact ⟨by rw [hns]; rfl, HB2.out⟩
  · have hne : (c != 0) = true := by simpa using h0
    rw [if_neg h0] at ha hp he
    subst ha hp he
    clear hc h0
    go_enter Tryd.func6, Tryd.ntmps6
    go_wp2_with fail
    refine (checkAll_any limit none 0 [] _ (by simp [maxLen]) (.inl rfl)).mono ?_
    rintro e w1 ⟨rfl, rfl⟩
    rw [HC.out]
    go_wp2
    go_ret3
    exact ⟨rfl, Below.refl _ _⟩
end Go.Proofs.YtccmgbbpihaapabDoor
