/-
  THE BITS LAYER: the walk of BitsThere.
-/
import Derived.Test.YtdaijibkafepcaaDoorBitsLaws
namespace Go.Proofs.YtdaijibkafepcaaDoor
open Go.RowKit
set_option linter.unusedVariables false

theorem move_bit (s : Nat) (by_ : Int) (hs : s < 18446744073709551616) (i : Int) : hasB (moveN s by_ 64) i = (decide (0 ≤ i) && (decide (i < 64) && (decide (i - by_ < 64) && hasB s (i - by_)))) := by
  have h := moveN_to s by_ 64 (Nat.le_refl _) hs
  unfold hasB
  by_cases h0 : 0 ≤ i
  · obtain ⟨j, rfl⟩ : ∃ j : Nat, i = j := ⟨i.toNat, by omega⟩
    rw [Int.toNat_natCast, h j]
    by_cases h1 : j < 64
    · simp [h1, hasB]
    · simp [h1]; omega
  · simp [h0]
theorem there_bit (s : Nat) (by_ : Int) (hs : s < 18446744073709551616) (hb : -64 ≤ by_) (hb2 : by_ ≤ 64) (i : Nat) (hi : i < 64) : hasB (moveN (moveN s by_ 64) (-by_) 64) i = (hasB s i && (decide (0 ≤ (i : Int) + by_) && decide ((i : Int) + by_ < 64))) := by
  rw [move_bit _ _ (moveN_lt s by_ 64 (Nat.le_refl _)), move_bit s by_ hs]
  have e : (i : Int) - -by_ = (i : Int) + by_ := by omega
  have e2 : (i : Int) + by_ - by_ = (i : Int) := by omega
  rw [e, e2]
  have h1 : decide ((0 : Int) ≤ (i : Int)) = true := by simp
  have h2 : decide ((i : Int) < 64) = true := by simp; omega
  rw [h1, h2]
  cases hasB s i <;> cases decide (0 ≤ (i : Int) + by_) <;> cases decide ((i : Int) + by_ < 64) <;> rfl
set_option maxRecDepth 100000 in
set_option maxHeartbeats 1000000 in
theorem bitsThere_walk (a by_ : Int) (w : World) (h1 : (Lit.int .u64 a).wf = true) (h2 : (Lit.int .i64 by_).wf = true) (ht : Tabs w) :
    Calls Tryd.prog 8 #[.int .u64 a, .int .i64 by_] w fun e w' => e = .returned (.bool true) ∧ Below w.heap.size w w' := by
  obtain ⟨s, rfl, hs⟩ := u64_nat h1
  have HT := Lib.hid ht
  clear h1 h2 ht
  by_cases hok : moveOk by_ 64 = true
  · obtain ⟨r, hr⟩ : ∃ r, moveN s by_ 64 = r := ⟨_, rfl⟩
    obtain ⟨q, hq⟩ : ∃ q, moveN r (-by_) 64 = q := ⟨_, rfl⟩
    have HR : Hid (moveV s by_ 64 = r) := by show _ = _; rw [moveV, if_pos hok]; exact hr
    have HE : Hid (moveE by_ 64 = 0) := by show _ = _; rw [moveE, if_pos hok]
    have hr64 : r < 18446744073709551616 := by rw [← hr]; exact moveN_lt s by_ 64 (Nat.le_refl _)
    have hq64 : q < 18446744073709551616 := by rw [← hq]; exact moveN_lt r (-by_) 64 (Nat.le_refl _)
    simp only [moveOk, Bool.and_eq_true, decide_eq_true_eq] at hok
    obtain ⟨_, _, b1, b2⟩ := hok
    have hok2 : moveOk (-by_) 64 = true := by simp [moveOk]; omega
    have HR2 : Hid (moveV r (-by_) 64 = q) := by show _ = _; rw [moveV, if_pos hok2]; exact hq
    have HE2 : Hid (moveE (-by_) 64 = 0) := by show _ = _; rw [moveE, if_pos hok2]
    have HB : Hid (∀ i : Nat, i < 64 → hasB q i = (hasB s i && (decide (0 ≤ (i : Int) + by_) && decide ((i : Int) + by_ < 64)))) := fun i hi => by
      rw [← hq, ← hr]; exact there_bit s by_ hs b1 b2 i hi
    clear hok2 hr hq
    go_enter Tryd.func8, Tryd.ntmps8
    go_wp2_with fail
    refine (moveA_is s by_ 64 hs r 0 HR.out HE.out _).mono ?_
    rintro e w1 ⟨rfl, rfl⟩
    go_wp2_with fail
    refine (moveA_is r (-by_) 64 hr64 q 0 HR2.out HE2.out _).mono ?_
    rintro e w1 ⟨rfl, rfl⟩
    go_wp2_with fail
    go_loopw [9] (fun i wr => ∃ k : Nat, k ≤ 64 ∧ i = .int .i64 k ∧ w = wr) (fun i _ => 64 - (intOf i).toNat)
    case atStart => exact ⟨0, Nat.zero_le _, rfl, rfl⟩
    case round =>
      obtain ⟨k, hk, rfl, rfl⟩ := hrel
      by_cases hlt : k < 64
      · have HK := Lib.hid (HB.out k hlt)
        cases hsb : hasB s k
        · have HS := Lib.hid hsb
          have HQ : Hid (hasB q k = false) := by show _ = _; rw [HK.out, hsb]; rfl
          clear hsb
          go_wp2_with fail
          refine (hasA_is q k false HQ.out hq64 _).mono ?_
          rintro e w1 ⟨rfl, rfl⟩
          go_wp2_with fail
          refine (hasR_is s k false HS.out hs _).mono ?_
          rintro e w1 ⟨rfl, rfl⟩
          go_wp2
          go_roundw
          case rel => exact ⟨k + 1, by omega, by go_num, by trivial⟩
          case measure => simp [intOf]; omega
        · have HS := Lib.hid hsb
          by_cases h0 : 0 ≤ (k : Int) + by_
          · by_cases h6 : (k : Int) + by_ < 64
            · have HQ : Hid (hasB q k = true) := by show _ = _; rw [HK.out, hsb]; simp [h0, h6]
              clear hsb
              go_wp2_with fail
              refine (hasA_is q k true HQ.out hq64 _).mono ?_
              rintro e w1 ⟨rfl, rfl⟩
              go_wp2_with fail
              refine (hasR_is s k true HS.out hs _).mono ?_
              rintro e w1 ⟨rfl, rfl⟩
              go_wp2
              go_roundw
              case rel => exact ⟨k + 1, by omega, by go_num, by trivial⟩
              case measure => simp [intOf]; omega
            · have HQ : Hid (hasB q k = false) := by show _ = _; rw [HK.out, hsb]; simp [h6]
              clear hsb
              go_wp2_with fail
              refine (hasA_is q k false HQ.out hq64 _).mono ?_
              rintro e w1 ⟨rfl, rfl⟩
              go_wp2_with fail
              refine (hasR_is s k true HS.out hs _).mono ?_
              rintro e w1 ⟨rfl, rfl⟩
              go_wp2
              go_roundw
              case rel => exact ⟨k + 1, by omega, by go_num, by trivial⟩
              case measure => simp [intOf]; omega
          · have HQ : Hid (hasB q k = false) := by show _ = _; rw [HK.out, hsb]; simp [h0]
            clear hsb
            go_wp2_with fail
            refine (hasA_is q k false HQ.out hq64 _).mono ?_
            rintro e w1 ⟨rfl, rfl⟩
            go_wp2_with fail
            refine (hasR_is s k true HS.out hs _).mono ?_
            rintro e w1 ⟨rfl, rfl⟩
            go_wp2
            go_roundw
            case rel => exact ⟨k + 1, by omega, by go_num, by trivial⟩
            case measure => simp [intOf]; omega
      · go_wp2_with fail
        refine (awake_any _ HT.out).mono ?_
        rintro e w2 ⟨rfl, hb2⟩
        go_wp2
        go_ret
        exact ⟨rfl, hb2⟩
  · have HR : Hid (moveV s by_ 64 = 0) := by show _ = _; rw [moveV, if_neg hok]
    have HE : Hid (moveE by_ 64 = 10) := by show _ = _; rw [moveE, if_neg hok]
    clear hok
    go_enter Tryd.func8, Tryd.ntmps8
    go_wp2_with fail
    refine (moveA_is s by_ 64 hs 0 10 HR.out HE.out _).mono ?_
    rintro e w1 ⟨rfl, rfl⟩
    go_wp2_with fail
    refine (awake_any _ HT.out).mono ?_
    rintro e w2 ⟨rfl, hb2⟩
    go_wp2
    go_ret
    exact ⟨rfl, hb2⟩
end Go.Proofs.YtdaijibkafepcaaDoor
