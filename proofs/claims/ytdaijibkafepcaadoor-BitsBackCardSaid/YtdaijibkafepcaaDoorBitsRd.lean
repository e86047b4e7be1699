/-
  THE BITS LAYER: the reader of a set's text: its methods.
-/
import Derived.Test.YtdaijibkafepcaaDoorBitsOf
namespace Go.Proofs.YtdaijibkafepcaaDoor
open Go.RowKit
set_option linter.unusedVariables false

/-- The reader's block. -/
def RdAt (w : World) (B : Nat) (st last now : Int) (set : Nat) : Prop := w.heap[B]? = some (.cells #[.int .i64 st, .int .i64 last, .int .i64 now, .int .u64 (set : Int)] 90 (0, 0))
theorem rd_cells {w : World} {B : Nat} {st last now : Int} {set : Nat} (h : RdAt w B st last now set) :
    w.cell? ⟨B, 0, none⟩ = some (.int .i64 st) ∧ w.cell? ⟨B, 1, none⟩ = some (.int .i64 last) ∧ w.cell? ⟨B, 2, none⟩ = some (.int .i64 now) ∧ w.cell? ⟨B, 3, none⟩ = some (.int .u64 (set : Int)) ∧ (∀ j, w.frozen? ⟨B, j, none⟩ = false) := by
  unfold RdAt at h
  exact ⟨by simp [World.cell?, h], by simp [World.cell?, h], by simp [World.cell?, h], by simp [World.cell?, h], fun j => by simp [World.frozen?, h]⟩
structure RdPost (w w' : World) (B : Nat) (st last now : Int) (set : Nat) : Prop where
  at_ : RdAt w' B st last now set
  rest : ∀ j, j ≠ B → w'.heap[j]? = w.heap[j]?
  below : Below B w w'
theorem rd_refl {w : World} {B : Nat} {st last now : Int} {set : Nat} (h : RdAt w B st last now set) : RdPost w w B st last now set := ⟨h, fun _ _ => rfl, Below.refl _ _⟩
theorem rd_drew {w w' : World} {B : Nat} {st last now : Int} {set : Nat} (h : RdPost w w' B st last now set) (m : Nat) : RdPost w (w'.drewN m) B st last now set := ⟨h.at_, h.rest, below_drewN h.below m⟩
theorem rd_trans {w w1 w2 : World} {B : Nat} {st last now st2 last2 now2 : Int} {set set2 : Nat} (h : RdPost w w1 B st last now set) (k : RdPost w1 w2 B st2 last2 now2 set2) : RdPost w w2 B st2 last2 now2 set2 :=
  ⟨k.at_, fun j hj => (k.rest j hj).trans (h.rest j hj), h.below.trans k.below⟩
theorem rd_set {w w' : World} {B : Nat} {st last now st2 last2 now2 : Int} {set set2 : Nat} (h : RdPost w w' B st last now set) (i : Nat) (v : Value)
    (hv : (#[.int .i64 st, .int .i64 last, .int .i64 now, .int .u64 (set : Int)] : Array Value).setIfInBounds i v = #[.int .i64 st2, .int .i64 last2, .int .i64 now2, .int .u64 (set2 : Int)]) :
    RdPost w (w'.setCell ⟨B, i, none⟩ v) B st2 last2 now2 set2 := by
  refine ⟨?_, fun j hj => ?_, h.below.setCell (p := ⟨B, i, none⟩) (Nat.le_refl _) _⟩
  · have := h.at_
    unfold RdAt at this ⊢
    rw [← hv]
    exact heap_setCell_same w' B i _ _ _ this
  · rw [Below.heap_setCell _ _ _ _ hj]; exact h.rest j hj

def closeOk (last now : Int) : Bool := decide (last < now) && decide (now < 64)
theorem fits_is (B : Nat) (st last now : Int) (set : Nat) (n : Int) (w : World) (hr : RdAt w B st last now set) (r : Bool) (h : closeOk last n = r) :
    Calls Tryd.prog 89 #[.pointer (some ⟨B, 0, none⟩), .int .i64 n] w fun e w' => e = .returned (.bool r) ∧ w = w' := by
  obtain ⟨c0, c1, c2, c3, _⟩ := rd_cells hr
  subst h
  clear hr
  by_cases h1 : last < n
  · by_cases h2 : n < 64
    · have H : Hid (closeOk last n = true) := by show _ = _; simp [closeOk, h1, h2]
      rw [H.out]
      go_enter Tryd.func89, Tryd.ntmps89
      go_wp2
      go_ret
      exact ⟨rfl, rfl⟩
    · have H : Hid (closeOk last n = false) := by show _ = _; simp [closeOk, h1, h2]
      rw [H.out]
      go_enter Tryd.func89, Tryd.ntmps89
      go_wp2
      go_ret
      exact ⟨rfl, rfl⟩
  · have H : Hid (closeOk last n = false) := by show _ = _; simp [closeOk, h1]
    rw [H.out]
    go_enter Tryd.func89, Tryd.ntmps89
    go_wp2
    go_ret
    exact ⟨rfl, rfl⟩
def growsB (last n : Int) : Bool := closeOk last n || (decide (0 < n) && (List.range 10).any fun d : Nat => closeOk last (10 * n + (d : Int)))
set_option maxRecDepth 100000 in
set_option maxHeartbeats 1000000 in
theorem grows_is (B : Nat) (st last now : Int) (set : Nat) (n : Int) (w : World) (hr : RdAt w B st last now set) (hn0 : 0 ≤ n) (hn1 : n ≤ 1000000) (r : Bool) (h : growsB last n = r) :
    Calls Tryd.prog 90 #[.pointer (some ⟨B, 0, none⟩), .int .i64 n] w fun e w' => e = .returned (.bool r) ∧ w = w' := by
  have HR := Lib.hid hr; have H := Lib.hid h
  clear hr h
  cases hc : closeOk last n
  · have HC := Lib.hid hc
    by_cases h0 : 0 < n
    · have HG : Hid ((List.range 10).any (fun d : Nat => closeOk last (10 * n + (d : Int))) = r) := by show _ = _; rw [← H.out, growsB, hc]; simp [h0]
      clear hc
      go_enter Tryd.func90, Tryd.ntmps90
      go_wp2_with fail
      refine (fits_is B st last now set n _ HR.out false HC.out).mono ?_
      rintro e w1 ⟨rfl, rfl⟩
      go_wp2_with fail
      go_loop [9] (fun i => ∃ k : Nat, k ≤ 10 ∧ i = .int .i64 k ∧ Hid (∀ j : Nat, j < k → closeOk last (10 * n + (j : Int)) = false)) (fun i => 10 - (intOf i).toNat)
      case atStart => exact ⟨0, Nat.zero_le _, rfl, fun j hj => by omega⟩
      case round =>
        obtain ⟨k, hk, rfl, HB⟩ := hrel
        by_cases hlt : k < 10
        · cases hf : closeOk last (10 * n + (k : Int))
          · have HN : Hid (∀ j : Nat, j < k + 1 → closeOk last (10 * n + (j : Int)) = false) := fun j hj => by
              by_cases e : j = k
              · subst e; exact hf
              · exact HB.out j (by omega)
            have HF := Lib.hid hf
            clear hf
            go_wp2_with fail
            refine (fits_is B st last now set _ _ HR.out false (by exact HF.out)).mono ?_
            rintro e w1 ⟨rfl, rfl⟩
            go_wp2
            go_round
            case rel => exact ⟨k + 1, by omega, by go_num, HN⟩
            case measure => simp [intOf]; omega
          · have HX : Hid (r = true) := by
              show _ = _
              rw [← HG.out, List.any_eq_true]
              exact ⟨k, List.mem_range.2 hlt, hf⟩
            have HF := Lib.hid hf
            clear hf
            go_wp2_with fail
            refine (fits_is B st last now set _ _ HR.out true (by exact HF.out)).mono ?_
            rintro e w1 ⟨rfl, rfl⟩
            go_wp2
            go_ret
            exact ⟨rbool HX.out.symm, rfl⟩
        · have HX : Hid (r = false) := by
            show _ = _
            rw [← HG.out, List.any_eq_false]
            intro j hj
            rw [HB.out j (by have := List.mem_range.1 hj; omega)]; simp
          go_wp2
          go_ret
          exact ⟨rbool HX.out.symm, rfl⟩
    · have HX : Hid (r = false) := by show _ = _; rw [← H.out, growsB, hc]; simp [h0]
      obtain rfl : n = 0 := by omega
      clear hc
      go_enter Tryd.func90, Tryd.ntmps90
      go_wp2_with fail
      refine (fits_is B st last now set 0 _ HR.out false HC.out).mono ?_
      rintro e w1 ⟨rfl, rfl⟩
      go_wp2_with fail
      go_loop [9] (fun i => ∃ k : Nat, k ≤ 10 ∧ i = .int .i64 k) (fun i => 10 - (intOf i).toNat)
      case atStart => exact ⟨0, Nat.zero_le _, rfl⟩
      case round =>
        obtain ⟨k, hk, rfl⟩ := hrel
        by_cases hlt : k < 10
        · go_wp2
          go_round
          case rel => exact ⟨k + 1, by omega, by go_num⟩
          case measure => simp [intOf]; omega
        · go_wp2
          go_ret
          exact ⟨rbool HX.out.symm, rfl⟩
  · have HX : Hid (r = true) := by show _ = _; rw [← H.out, growsB, hc]; rfl
    have HC := Lib.hid hc
    clear hc
    go_enter Tryd.func90, Tryd.ntmps90
    go_wp2_with fail
    refine (fits_is B st last now set n _ HR.out true HC.out).mono ?_
    rintro e w1 ⟨rfl, rfl⟩
    go_wp2
    go_ret
    exact ⟨rbool HX.out.symm, rfl⟩

theorem close_no (B : Nat) (st last now : Int) (set : Nat) (w : World) (hr : RdAt w B st last now set) (h : closeOk last now = false) :
    Calls Tryd.prog 84 #[.pointer (some ⟨B, 0, none⟩)] w fun e w' => e = .returned (.bool false) ∧ w = w' := by
  obtain ⟨c0, c1, c2, c3, cf⟩ := rd_cells hr
  have HR := Lib.hid hr; have HC := Lib.hid h
  clear hr h
  go_enter Tryd.func84, Tryd.ntmps84
  go_wp2_with fail
  refine (fits_is B st last now set now _ HR.out false HC.out).mono ?_
  rintro e w1 ⟨rfl, rfl⟩
  go_wp2
  go_ret
  exact ⟨rfl, rfl⟩
set_option maxRecDepth 100000 in
set_option maxHeartbeats 1000000 in
theorem close_yes (B : Nat) (st last now : Int) (set : Nat) (w : World) (hr : RdAt w B st last now set) (h : closeOk last now = true) (hn : 0 ≤ now) (hset : set < 18446744073709551616) :
    Calls Tryd.prog 84 #[.pointer (some ⟨B, 0, none⟩)] w fun e w' => e = .returned (.bool true) ∧ RdPost w w' B st now now (set ||| 2 ^ now.toNat) := by
  obtain ⟨c0, c1, c2, c3, cf⟩ := rd_cells hr
  have f1 := cf 1; have f3 := cf 3
  have HR := Lib.hid hr; have HC := Lib.hid h
  simp only [closeOk, Bool.and_eq_true, decide_eq_true_eq] at h
  obtain ⟨_, h64⟩ := h
  have hpw : 2 ^ now.toNat ≤ 9223372036854775808 := pow_lt64 (by omega)
  have hsh : IntKind.u64.wrap ((2 : Int) ^ now.toNat) = ((2 ^ now.toNat : Nat) : Int) := by
    rw [IntKind.wrap_u64]
    have e : ((2 : Int) ^ now.toNat) = ((2 ^ now.toNat : Nat) : Int) := by simp
    rw [e]
    generalize 2 ^ now.toNat = q at *
    omega
  have hor : bits BinOp.or IntKind.u64 (set : Int) (IntKind.u64.wrap ((2 : Int) ^ now.toNat)) = ((set ||| 2 ^ now.toNat : Nat) : Int) := by rw [hsh]; exact u64_or_nat set _ hset (by omega)
  obtain ⟨q, hq⟩ : ∃ q : Nat, set ||| 2 ^ now.toNat = q := ⟨_, rfl⟩
  rw [hq] at hor
  rw [hq]
  have hmin : min (IntKind.u64.wrap now).toNat 64 = now.toNat := by
    rw [IntKind.wrap_u64]; omega
  have hor2 : bits BinOp.or IntKind.u64 (set : Int) (IntKind.u64.wrap ((2 : Int) ^ min (IntKind.u64.wrap now).toNat 64)) = (q : Int) := by rw [hmin]; exact hor
  clear hr hsh hpw hq cf hmin
  go_enter Tryd.func84, Tryd.ntmps84
  go_wp2_with fail
  refine (fits_is B st last now set now _ HR.out true HC.out).mono ?_
  rintro e w1 ⟨rfl, rfl⟩
  go_wp2_with fail
  go_region_with (fail)
  all_goals
    have P1 := rd_set (st2 := st) (last2 := last) (now2 := now) (set2 := q) (rd_refl HR.out) 3 (.int .u64 q) rfl
    have P2 : RdPost w (w.setCell ⟨B, 3, none⟩ (.int .u64 q)).drew B st last now q := ⟨P1.at_, P1.rest, P1.below.drew⟩
    obtain ⟨d0, d1, d2, d3, df⟩ := rd_cells P2.at_
    have e1 := df 1
    have HP := Lib.hid P2
    clear P1 P2 df c0 c1 c2 c3 f1 f3
    go_wp2
    go_ret
    exact ⟨rfl, rd_set HP.out 1 (.int .i64 now) rfl⟩
end Go.Proofs.YtdaijibkafepcaaDoor
