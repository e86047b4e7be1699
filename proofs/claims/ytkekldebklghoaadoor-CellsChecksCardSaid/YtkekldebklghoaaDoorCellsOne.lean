/-
  THE CELLS LAYER: One: each variable is what it was; the program's unit, the reference's loop.
-/
import Derived.Test.YtkekldebklghoaaDoorCellsThen2
namespace Go.Proofs.YtkekldebklghoaaDoor
open Go.RowKit
set_option linter.unusedVariables false

def oneAt (k : Nat) : Cl := ⟨2 ^ k, 0, 0⟩
def unitC (n : Nat) : List Cl := (List.range n).map oneAt
def unitR (d : Int) : List Cl := if dimC d = 0 then unitC d.toNat else []
theorem unit_length (n : Nat) : (unitC n).length = n := by simp [unitC]
theorem unit_at {n k : Nat} (hk : k < n) : (unitC n)[k]? = some (oneAt k) := by
  simp [unitC, List.getElem?_range hk]
theorem unit_snoc {n k : Nat} (hk : k < n) : (unitC n).take (k + 1) = (unitC n).take k ++ [oneAt k] := by
  obtain ⟨h, e⟩ := List.getElem?_eq_some_iff.1 (unit_at hk)
  rw [List.take_succ_eq_append_getElem h, e]
theorem pow_u64 {k : Nat} (hk : k < 64) : IntKind.u64.wrap (2 ^ k : Int) = ((2 ^ k : Nat) : Int) := by
  have h : 2 ^ k < 18446744073709551616 := Nat.lt_of_lt_of_le (Nat.pow_lt_pow_right (by decide) hk) (by decide)
  have e : (2 ^ k : Int) = ((2 ^ k : Nat) : Int) := by simp
  rw [e]
  generalize 2 ^ k = q at h
  simp [IntKind.wrap, IntKind.signed, IntKind.bits]
  omega

/-- What a call hands back, still its own. -/
def CellsRetO (cs : List Cl) (err : Int) (w : World) (e : Ending) (w' : World) : Prop :=
  ∃ v, e = .returned (.tuple #[v, .int .i64 err]) ∧ w'.ownsRow w.heap.size 51 3 v cs.length (flat cs) ∧ Below w.heap.size w w'
theorem CellsRetO.ret {cs : List Cl} {err : Int} {w : World} {e : Ending} {w' : World} (h : CellsRetO cs err w e w') : CellsRet cs err w e w' := by
  obtain ⟨v, rfl, ho, hb⟩ := h
  exact cellsRet_own ho hb err

set_option maxRecDepth 100000 in
set_option maxHeartbeats 2000000 in
theorem oneRef_own (d : Int) (w : World) (c : Int) (hc : dimC d = c) :
    Calls Tryd.prog 28 #[.int .i64 d] w (CellsRetO (unitR d) c w) := by
  have HC := Lib.hid hc
  by_cases h0 : c = 0
  · subst h0
    have hd : 0 ≤ d ∧ d ≤ 64 := by
      by_cases hd : d < 0 ∨ 64 < d
      · simp [dimC, hd] at hc
      · omega
    obtain ⟨n, rfl⟩ : ∃ n : Nat, d = n := ⟨d.toNat, by omega⟩
    have hn : n ≤ 64 := by omega
    have HR := Lib.hid (show unitR n = unitC n by simp [unitR, hc])
    have HN := Lib.hid (unit_length n)
    obtain ⟨i0, hi, hz0, hz1, hz2⟩ := info_parts infoC
    clear hc hd
    go_enter Tryd.func28, Tryd.ntmps28
    go_wp2_with (go_at_call 52; refine (dim_is _ _ 0 HC.out).mono ?_; rintro e w' ⟨rfl, rfl⟩)
    go_loopw [5, 6] (fun l i wr => ∃ k : Nat, k ≤ n ∧ i = .int .i64 k ∧ Hid (wr.ownsRow w.heap.size 51 3 l k (flat ((unitC n).take k))) ∧ Below w.heap.size w wr) (fun _ i _ => n - (intOf i).toNat)
    case atStart => exact ⟨0, Nat.zero_le _, rfl, World.ownsRow_nil _ w.heap.size _ 3, Below.refl _ _⟩
    case round =>
      obtain ⟨k, hk, rfl, HO, hb⟩ := hrel
      by_cases hlt : k < n
      · have HZ := Lib.hid (unit_snoc hlt)
        have HW := Lib.hid (pow_u64 (k := k) (by omega))
        have g1 : k < 64 := by omega
        have g2 : (k : Int) < 64 := by omega
        have hown := HO
        go_wp2_with (first | (at_builtin; go_loud (refine wpList_append_own _ rfl (.tmp 17) (.tmp 22) 22 rfl w.heap.size 51 i0 _ 3 24 Tryd.underlying22 hi hz0 hz1 hz2 rfl (by decide) u5 k (flat ((unitC n).take k)) rfl (hown.out.alloc _) ⟨wr.heap.size, 0, none⟩ 1 1 [.int .u64 (IntKind.u64.wrap (2 ^ k)), .int .i64 0, .int .i64 0] rfl rfl (World.news_of_block (cs := #[.int .u64 (IntKind.u64.wrap (2 ^ k)), .int .i64 0, .int .i64 0]) (t := 51) (fr := (0, 0)) (heap_alloc_new wr _)) (by simp [Value.oneCell']) (by unfold maxLen; omega) (by omega) (by have := hb.size; simp; omega) ?_; intro v' w5 hown1 hgrow hnil; have hB4 : Below w.heap.size w w5 := (hb.alloc hb.size _).grown hgrow (by have := hb.size; simp; omega) (fun j e => (hown.out.lt j e).1))))
        have HO2 : Hid (w5.ownsRow w.heap.size 51 3 v' (k + 1) (flat ((unitC n).take (k + 1)))) := by rw [HZ.out, flat_snoc]; rw [HW.out] at hown1; exact hown1
        clear hown1
        go_wp2
        go_roundw
        case rel => exact ⟨k + 1, by omega, by go_num, HO2, hB4⟩
        case measure => simp [intOf]; omega
      · obtain rfl : n = k := by omega
        have HE : Hid (wr.ownsRow w.heap.size 51 3 u5 n (flat (unitR n))) := by
          have := HO.out
          rw [List.take_of_length_le (by rw [HN.out]; exact Nat.le_refl _)] at this
          rw [HR.out]; exact this
        go_wp2
        go_ret2
        exact ⟨_, rfl, by rw [HR.out, HN.out, ← HR.out]; exact HE.out, hb⟩
  · have HR := Lib.hid (show unitR d = [] by simp [unitR, hc, h0])
    have hne : (c != 0) = true := by simpa using h0
    clear hc h0
    go_enter Tryd.func28, Tryd.ntmps28
    go_wp2_with (go_at_call 52; refine (dim_is _ _ c HC.out).mono ?_; rintro e w' ⟨rfl, rfl⟩)
    go_ret2
    rw [HR.out]
    exact ⟨_, rfl, World.ownsRow_nil _ _ _ 3, Below.refl _ _⟩
theorem oneRef_any (d : Int) (w : World) (c : Int) (hc : dimC d = c) :
    Calls Tryd.prog 28 #[.int .i64 d] w (CellsRet (unitR d) c w) := (oneRef_own d w c hc).mono fun _ _ h => h.ret
end Go.Proofs.YtkekldebklghoaaDoor
