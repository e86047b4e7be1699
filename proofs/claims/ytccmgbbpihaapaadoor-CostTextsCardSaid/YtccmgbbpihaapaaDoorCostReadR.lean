/-
  THE COST LAYER: the reference's Read.
-/
import Derived.Test.YtccmgbbpihaapaaDoorCostBeg
namespace Go.Proofs.YtccmgbbpihaapaaDoor
open Go.RowKit
set_option linter.unusedVariables false

/-- How far a text begins as a cost's text. -/
structure IsN (limit : Int) (l : List UInt8) (n : Nat) : Prop where
  le : n ≤ l.length
  yes : ∀ i, i < n → begC limit (l.take (i + 1)) = true
  no : n = l.length ∨ begC limit (l.take (n + 1)) = false
theorem isN_ex (limit : Int) (l : List UInt8) : ∃ n, IsN limit l n := by
  have key : ∀ m, m ≤ l.length → ∃ n, n ≤ m ∧ (∀ i, i < n → begC limit (l.take (i + 1)) = true) ∧ (n = m ∨ begC limit (l.take (n + 1)) = false) := by
    intro m
    induction m with
    | zero => intro _; exact ⟨0, Nat.le_refl _, fun i h => by omega, .inl rfl⟩
    | succ m ih =>
      intro hm
      obtain ⟨n, h1, h2, h3⟩ := ih (by omega)
      rcases h3 with rfl | h3
      · cases hb : begC limit (l.take (n + 1))
        · exact ⟨n, by omega, h2, .inr hb⟩
        · exact ⟨n + 1, Nat.le_refl _, fun i hi => by
            rcases Nat.lt_or_ge i n with h | h
            · exact h2 i h
            · obtain rfl : i = n := by omega
              exact hb, .inl rfl⟩
      · exact ⟨n, by omega, h2, .inr h3⟩
  obtain ⟨n, h1, h2, h3⟩ := key l.length (Nat.le_refl _)
  exact ⟨n, h1, h2, h3⟩
/-- What Read answers: the cost, how far, the error. -/
def readA (limit : Int) (l : List UInt8) (n : Nat) : Int := if n = l.length ∧ l = noneL then -1 else if n = l.length ∧ 0 ≤ numC limit l then numC limit l else 0
def readOk (limit : Int) (l : List UInt8) (n : Nat) : Bool := decide (n = l.length) && (l == noneL || decide (0 ≤ numC limit l))
def readP (limit : Int) (l : List UInt8) (n : Nat) : Int := if readOk limit l n then 0 else n
def readE (limit : Int) (l : List UInt8) (n : Nat) : Int := if readOk limit l n then 0 else 22
theorem ext_take (s : ByteArray) (n : Nat) : (s.extract 0 n).data.toList = s.data.toList.take n := by simp
theorem chk_nil {limit c : Int} (h : chk limit [] = c) (h0 : c = 0) : 0 ≤ limit ∧ limit ≤ 1048576 := by
  unfold chk at h
  split at h
  · omega
  · omega
def Read3 (a b c : Int) : Ending := .returned (.tuple #[.int .i64 a, .int .i64 b, .int .i64 c])

set_option maxRecDepth 100000 in
set_option maxHeartbeats 2000000 in
theorem readRef_any (limit : Int) (s : ByteArray) (w : World) (hs : s.size ≤ 9223372036854775807) (n : Nat) (hn : IsN limit s.data.toList n) (c : Int) (hc : chk limit [] = c) (a p e0 : Int)
    (ha : (if c = 0 then readA limit s.data.toList n else 0) = a) (hp : (if c = 0 then readP limit s.data.toList n else 0) = p) (he : (if c = 0 then readE limit s.data.toList n else c) = e0) :
    Calls Tryd.prog 52 #[.int .i64 limit, .string s] w fun e w' => e = Read3 a p e0 ∧ w = w' := by
  have HC := Lib.hid hc
  by_cases h0 : c = 0
  · subst h0
    rw [if_pos rfl] at ha hp he
    have HN := Lib.hid hn
    have HL := Lib.hid (len_of s)
    have HA := Lib.hid ha; have HP := Lib.hid hp; have HE := Lib.hid he
    have hnle : n ≤ s.size := by rw [← HL.out]; exact hn.le
    obtain ⟨x, hx⟩ : ∃ x, numC limit s.data.toList = x := ⟨_, rfl⟩
    have HX := Lib.hid hx
    clear hc hn ha hp he hx
    go_enter Tryd.func52, Tryd.ntmps52
    go_wp2_with fail
    refine (check_any limit none 0 [] _ (by simp [maxLen]) (.inl rfl)).mono ?_
    rintro e w1 ⟨rfl, rfl⟩
    rw [HC.out]
    go_wp2_with fail
    go_loopw [8] (fun i wr => ∃ k : Nat, k ≤ n ∧ i = .int .i64 k ∧ w = wr) (fun i _ => n - (intOf i).toNat)
    case atStart => exact ⟨0, Nat.zero_le _, rfl, rfl⟩
    case round =>
      obtain ⟨k, hk, rfl, rfl⟩ := hrel
      by_cases hlt : k < n
      · have HB : Hid (begC limit (s.extract 0 (k + 1)).data.toList = true) := by show _ = _; rw [ext_take]; exact HN.out.yes k hlt
        have g0 : (0 : Int) ≤ (k : Int) := by omega
        have g1 : (k : Int) < (s.size : Int) := by omega
        have g2 : (k : Int) + 1 ≤ (s.size : Int) := by omega
        go_wp2_with (go_at_call 74; go_loud (refine (begins_any limit (s.extract 0 (k + 1)) _ true HB.out).mono ?_; rintro e w' ⟨rfl, rfl⟩))
        go_roundw
        case rel => exact ⟨k + 1, by omega, by go_num, by trivial⟩
        case measure => simp [intOf]; omega
      · obtain rfl : k = n := by omega
        have g0 : (0 : Int) ≤ (k : Int) := by omega
        by_cases hks : k < s.size
        · have HB : Hid (begC limit (s.extract 0 (k + 1)).data.toList = false) := by
            show _ = _; rw [ext_take]
            rcases HN.out.no with h | h
            · rw [HL.out] at h; omega
            · exact h
          have hne9 : ¬ k = s.data.toList.length := by rw [HL.out]; omega
          have hA : a = 0 := by rw [← HA.out, readA, if_neg (fun h => hne9 h.1), if_neg (fun h => hne9 h.1)]
          have hO : readOk limit s.data.toList k = false := by rw [readOk, decide_eq_false hne9]; rfl
          have hP : p = k := by rw [← HP.out]; simp [readP, hO]
          have hE : e0 = 22 := by rw [← HE.out]; simp [readE, hO]
          subst hA hP hE
          have g1 : (k : Int) < (s.size : Int) := by omega
          have g2 : (k : Int) + 1 ≤ (s.size : Int) := by omega
          have g3 : ((k : Int) == (s.size : Int)) = false := by simp; omega
          clear hne9 hO
          go_wp2_with (go_at_call 74; refine (begins_any limit (s.extract 0 (k + 1)) _ false HB.out).mono ?_; rintro e w' ⟨rfl, rfl⟩)
          go_ret3
          exact ⟨rfl, rfl⟩
        · have hks2 : k = s.size := by omega
          have hk9 : k = s.data.toList.length := by rw [HL.out]; exact hks2
          have g1 : ¬ (k : Int) < (s.size : Int) := by omega
          have g3 : ((k : Int) == (s.size : Int)) = true := by simp; omega
          by_cases hq : s.data.toList = noneL
          · have hA : a = -1 := by rw [← HA.out, readA, if_pos ⟨hk9, hq⟩]
            have hO : readOk limit s.data.toList k = true := by simp [readOk, hk9, hq]
            have hP : p = 0 := by rw [← HP.out]; simp [readP, hO]
            have hE : e0 = 0 := by rw [← HE.out]; simp [readE, hO]
            subst hA hP hE
            have hq1 : s.toList = ({ data := #[110, 111, 110, 101] } : ByteArray).toList := by rw [Lib.toList_data, Lib.toList_data]; exact hq
            have hq2 : s.toList = [110, 111, 110, 101] := by rw [Lib.toList_data]; exact hq
            clear hO hk9 hq
            go_wp2_with fail
            go_ret3
            exact ⟨rfl, rfl⟩
          · have hq1 : (s.toList == ({ data := #[110, 111, 110, 101] } : ByteArray).toList) = false := by rw [Lib.toList_data, Lib.toList_data]; simpa [noneL] using hq
            have hq2 : (s.toList == [110, 111, 110, 101]) = false := by rw [Lib.toList_data]; simpa [noneL] using hq
            have hq3 : ¬ s.toList = ({ data := #[110, 111, 110, 101] } : ByteArray).toList := by rw [Lib.toList_data, Lib.toList_data]; exact hq
            by_cases hx0 : 0 ≤ x
            · have hA : a = x := by rw [← HA.out, readA, if_neg (fun h => hq h.2), HX.out, if_pos ⟨hk9, hx0⟩]
              have hO : readOk limit s.data.toList k = true := by simp [readOk, ← hk9, HX.out, hx0]
              have hP : p = 0 := by rw [← HP.out]; simp [readP, hO]
              have hE : e0 = 0 := by rw [← HE.out]; simp [readE, hO]
              subst hA hP hE
              clear hO hk9 hq
              go_wp2_with (go_at_call 75; refine (number_any limit s _ _ HX.out).mono ?_; rintro e w' ⟨rfl, rfl⟩)
              go_ret3
              exact ⟨rfl, rfl⟩
            · have hA : a = 0 := by rw [← HA.out, readA, if_neg (fun h => hq h.2), HX.out, if_neg (fun h => hx0 h.2)]
              have hO : readOk limit s.data.toList k = false := by
                have h9 : (s.data.toList == noneL) = false := by simpa using hq
                simp [readOk, ← hk9, HX.out, hx0, h9]
              have hP : p = k := by rw [← HP.out]; simp [readP, hO]
              have hE : e0 = 22 := by rw [← HE.out]; simp [readE, hO]
              subst hA hP hE
              clear hO hk9 hq
              go_wp2_with (go_at_call 75; refine (number_any limit s _ _ HX.out).mono ?_; rintro e w' ⟨rfl, rfl⟩)
              go_ret3
              exact ⟨by rw [hks2]; rfl, rfl⟩
  · have hne : (c != 0) = true := by simpa using h0
    rw [if_neg h0] at ha hp he
    subst ha hp he
    clear hc h0
    go_enter Tryd.func52, Tryd.ntmps52
    go_wp2_with fail
    refine (check_any limit none 0 [] _ (by simp [maxLen]) (.inl rfl)).mono ?_
    rintro e w1 ⟨rfl, rfl⟩
    rw [HC.out]
    go_wp2
    go_ret3
    exact ⟨rfl, rfl⟩
end Go.Proofs.YtccmgbbpihaapaaDoor
