/-
  THE CELLS LAYER: unit and One of the program; one assignment: with of the program, put of the reference.
-/
import Derived.Test.YtkekldebklghoaaDoorCellsOne
namespace Go.Proofs.YtkekldebklghoaaDoor
open Go.RowKit
set_option linter.unusedVariables false

theorem flat_set1 : ∀ (cs : List Cl) (i : Nat) (f f' : Nat), cs[i]? = some ⟨f, 0, 0⟩ → (flat cs).set (i * 3) (.int .u64 (f' : Int)) = flat (cs.set i ⟨f', 0, 0⟩)
  | [], i, f, f', h => by simp at h
  | x :: r, 0, f, f', h => by
    simp at h; subst h
    simp [flat_cons, vals]
  | x :: r, i + 1, f, f', h => by
    have ih := flat_set1 r i f f' (by simpa using h)
    have e0 : (i + 1) * 3 = i * 3 + 3 := by omega
    rw [e0, flat_cons, List.set_cons_succ, flat_cons, ← ih]
    simp [vals]
theorem own_store1 {w : World} {base g n cap k : Nat} {E : Nat} {cs : List Cl} {f : Nat} (h : w.ownsRow base E 3 (.slice (some ⟨g, 0, none⟩) n cap) n (flat cs)) (hk : cs[k]? = some ⟨f, 0, 0⟩) (f' : Nat) :
    (w.setCell ⟨g, k * 3, none⟩ (.int .u64 (f' : Int))).ownsRow base E 3 (.slice (some ⟨g, 0, none⟩) n cap) n (flat (cs.set k ⟨f', 0, 0⟩)) := by
  rw [← flat_set1 cs k f f' hk]
  exact (h.stored (k * 3) _).1

set_option maxRecDepth 100000 in
set_option maxHeartbeats 2000000 in
theorem unit_any (n : Nat) (w : World) (hn : n ≤ 64) : Calls Tryd.prog 62 #[.int .i64 n] w (CellsRet1 (unitC n) w) := by
  obtain ⟨i0, hi, hz0, hz1, hz2⟩ := info_parts infoC
  have HN := Lib.hid (unit_length n)
  go_enter Tryd.func62, Tryd.ntmps62
  go_wp2_with (at_make; refine wpList_make_full _ rfl (.tmp 5) (.tmp 5) 22 rfl w.heap.size 51 i0 _ 3 Tryd.underlying22 hi hz0 hz1 .i64 .i64 (n : Int) (n : Int) n rfl rfl rfl rfl (by rw [hz2]; omega) (by unfold maxLen; omega) (Nat.le_refl _) ?_; intro w2 hown2 hgrow2)
  have HO1 : Hid (w2.ownsRow w.heap.size 51 3 (.slice (some ⟨w.heap.size, 0, none⟩) n n) n (flat ((unitC n).take 0 ++ List.replicate (n - 0) z0))) := by
    rw [List.take_zero, List.nil_append, Nat.sub_zero, ← made_flat]; exact hown2
  have hb2 : Below w.heap.size w w2 := (Below.refl _ _).grown hgrow2 (Nat.le_refl _) (fun j e => by cases e)
  clear hown2
  go_wp2_with fail
  go_loopw [8] (fun i wr => ∃ k : Nat, k ≤ n ∧ i = .int .i64 k ∧ Hid (wr.ownsRow w.heap.size 51 3 (.slice (some ⟨w.heap.size, 0, none⟩) n n) n (flat ((unitC n).take k ++ List.replicate (n - k) z0))) ∧ Below w.heap.size w wr) (fun i _ => n - (intOf i).toNat)
  case atStart => exact ⟨0, Nat.zero_le _, rfl, HO1, hb2⟩
  case round =>
    obtain ⟨k, hk, rfl, HO, hb⟩ := hrel
    by_cases hlt : k < n
    · have HZ := Lib.hid (fill_step (full := unitC n) (n := n) (k := k) HN.out (unit_at hlt))
      have HA := Lib.hid (fill_at (full := unitC n) (n := n) HN.out hlt)
      have HW := Lib.hid (pow_u64 (k := k) (by omega))
      have f3 := flat_at HA.out
      have e0 := (HO.out.cellAt (k * 3) (by omega)).trans f3.1
      have q0 := HO.out.frozenAt (k * 3)
      clear f3
      have g0 : (0 : Int) ≤ (k : Int) := by omega
      have g1 : k < 64 := by omega
      have g2 : (k : Int) < 64 := by omega
      have g3 : (k : Int) < (n : Int) := by omega
      have HS := Lib.hid (own_store1 HO.out HA.out (2 ^ k))
      rw [show (⟨2 ^ k, 0, 0⟩ : Cl) = oneAt k from rfl, HZ.out, ← HW.out] at HS
      have HB : Hid (Below w.heap.size w (wr.setCell ⟨w.heap.size, k * 3, none⟩ (.int .u64 (IntKind.u64.wrap (2 ^ k))))) := hb.setCell (p := ⟨w.heap.size, k * 3, none⟩) (Nat.le_refl _) _
      go_wp2
      go_roundw
      case rel => exact ⟨k + 1, by omega, by go_num, HS, HB.out⟩
      case measure => simp [intOf]; omega
    · obtain rfl : n = k := by omega
      have HE : Hid (wr.ownsRow w.heap.size 51 3 (.slice (some ⟨w.heap.size, 0, none⟩) n n) n (flat (unitC n))) := by
        have := HO.out
        rw [List.take_of_length_le (by rw [HN.out]; exact Nat.le_refl _), Nat.sub_self, List.replicate_zero, List.append_nil] at this
        exact this
      go_wp2
      go_ret
      exact ⟨_, rfl, by rw [HN.out]; exact HE.out, hb⟩

theorem cellsRet_of1 {cs : List Cl} {w w1 w2 : World} {v : Value} (hb1 : Below w.heap.size w w1) (hown : w2.ownsRow w1.heap.size 51 3 v cs.length (flat cs)) (hb2 : Below w1.heap.size w1 w2) (err : Int) : CellsRet cs err w (.returned (.tuple #[v, .int .i64 err])) w2 := by
  obtain ⟨_, a2, cap2, rfl, hr2, hf2⟩ := crow_of_own hown
  exact ⟨a2, cap2, rfl, hr2, fun ad e => ⟨Nat.le_trans hb1.size (hf2 ad e).1, (hf2 ad e).2.2⟩, hb1.trans (hb2.mono hb1.size)⟩

theorem dim_nat {d : Int} (h : dimC d = 0) : ∃ n : Nat, d = n ∧ n ≤ 64 := by
  by_cases hd : d < 0 ∨ 64 < d
  · simp [dimC, hd] at h
  · exact ⟨d.toNat, by omega, by omega⟩

set_option maxHeartbeats 2000000 in
theorem one_any (d : Int) (w : World) (c : Int) (hc : dimC d = c) :
    Calls Tryd.prog 27 #[.int .i64 d] w (CellsRet (unitR d) c w) := by
  have HC := Lib.hid hc
  by_cases h0 : c = 0
  · subst h0
    obtain ⟨n, rfl, hn⟩ := dim_nat hc
    have HR := Lib.hid (show unitR n = unitC n by simp [unitR, hc])
    clear hc
    go_enter Tryd.func27, Tryd.ntmps27
    go_wp2_with (go_at_call 50; refine (checkDim_is _ _ 0 HC.out).mono ?_; rintro e w' ⟨rfl, rfl⟩)
    refine (unit_any n _ hn).mono ?_
    rintro e w2 ⟨v, rfl, hown, hb2⟩
    have HO := Lib.hid hown
    clear hown
    go_wp2
    go_ret2
    rw [HR.out]
    exact cellsRet_of1 (Below.refl _ _) HO.out hb2 0
  · have HR := Lib.hid (show unitR d = [] by simp [unitR, hc, h0])
    have hne : (c != 0) = true := by simpa using h0
    clear hc h0
    go_enter Tryd.func27, Tryd.ntmps27
    go_wp2_with (go_at_call 50; refine (checkDim_is _ _ c HC.out).mono ?_; rintro e w' ⟨rfl, rfl⟩)
    go_ret2
    rw [HR.out]
    exact cellsRet_nil c (Below.refl _ _)

/-- One assignment: the row, and the error. -/
def putE (d i : Int) : Int := if dimC d ≠ 0 then dimC d else if i < 0 ∨ d ≤ i then 5 else 0
def putR (d i : Int) (c : Cl) : List Cl := if putE d i = 0 then (unitC d.toNat).set i.toNat c else []

set_option maxRecDepth 100000 in
set_option maxHeartbeats 2000000 in
theorem with_any (d i : Int) (c : Cl) (w : World) (e : Int) (he : putE d i = e) (r : List Cl) (hr : putR d i c = r) :
    Calls Tryd.prog 63 #[.int .i64 d, .int .i64 i, c.val] w (CellsRet r e w) := by
  by_cases hd : dimC d = 0
  · obtain ⟨n, rfl, hn⟩ := dim_nat hd
    have HD := Lib.hid hd
    by_cases hi : i < 0 ∨ (n : Int) ≤ i
    · obtain rfl : 5 = e := by rw [← he]; simp [putE, hd, hi]
      obtain rfl : [] = r := by rw [← hr]; simp [putR, he]
      clear hd he hr
      rcases Int.lt_or_le i 0 with hi0 | hi0
      · clear hi
        go_enter Tryd.func63, Tryd.ntmps63
        go_wp2_with (go_at_call 50; refine (checkDim_is _ _ 0 HD.out).mono ?_; rintro e w' ⟨rfl, rfl⟩)
        go_ret2
        exact cellsRet_nil 5 ((Below.refl _ _).alloc (Nat.le_refl _) _)
      · have hi1 : (n : Int) ≤ i := by omega
        clear hi
        go_enter Tryd.func63, Tryd.ntmps63
        go_wp2_with (go_at_call 50; refine (checkDim_is _ _ 0 HD.out).mono ?_; rintro e w' ⟨rfl, rfl⟩)
        go_ret2
        exact cellsRet_nil 5 ((Below.refl _ _).alloc (Nat.le_refl _) _)
    · obtain ⟨k, rfl⟩ : ∃ k : Nat, i = k := ⟨i.toNat, by omega⟩
      have hk : k < n := by omega
      obtain rfl : 0 = e := by rw [← he]; simp [putE, hd]; omega
      have HR : Hid (r = (unitC n).set k c) := by show _ = _; rw [← hr]; simp [putR, he]
      have HN := Lib.hid (unit_length n)
      have g0 : (0 : Int) ≤ (k : Int) := by omega
      have g3 : (k : Int) < (n : Int) := by omega
      clear hd he hr hi
      go_enter Tryd.func63, Tryd.ntmps63
      go_wp2_with (go_at_call 50; refine (checkDim_is _ _ 0 HD.out).mono ?_; rintro e w' ⟨rfl, rfl⟩)
      refine (unit_any n _ hn).mono ?_
      rintro e w2 ⟨v, rfl, hown, hb2⟩
      rw [HN.out] at hown
      obtain ⟨g, capg, hv, hbg, hgl⟩ := hown.form (show 0 < n by omega)
      subst hv
      have HO := Lib.hid hown
      obtain ⟨f0, f1, f2⟩ := flat_at (unit_at hk)
      have d0 := (hown.cellAt (k * 3) (by omega)).trans f0
      have d1 := (hown.cellAt (k * 3 + 1) (by omega)).trans f1
      have d2 := (hown.cellAt (k * 3 + 2) (by omega)).trans f2
      have q0 := hown.frozenAt (k * 3); have q1 := hown.frozenAt (k * 3 + 1); have q2 := hown.frozenAt (k * 3 + 2)
      have hsz : w.heap.size ≤ g := by simp at hbg; omega
      have HS := Lib.hid (own_store3 hown (by rw [HN.out]; exact hk) c)
      rw [← HR.out] at HS
      have hB2 : Below w.heap.size w w2 := ((Below.refl _ _).alloc (Nat.le_refl _) _).trans (hb2.mono (by simp))
      have HB := Lib.hid (((hB2.setCell (p := ⟨g, k * 3, none⟩) hsz (.int .u64 (c.f : Int))).setCell (p := ⟨g, k * 3 + 1, none⟩) hsz (.int .i64 c.k)).setCell (p := ⟨g, k * 3 + 2, none⟩) hsz (.int .i64 c.v))
      have hc0 : w2.heap[w.heap.size]? = some (.cells #[.int .u64 (c.f : Int), .int .i64 c.k, .int .i64 c.v] 51 (0, 0)) := by
        rw [hb2.block w.heap.size (by simp), heap_alloc_new]
      obtain ⟨c0, c1, c2, _⟩ := three_cells hc0
      clear hown f0 f1 f2
      go_wp2
      go_ret2
      obtain ⟨hl, a2, cap2, hv2, hr2, hf2⟩ := crow_of_own HS.out
      cases hv2
      exact ⟨some ⟨g, 0, none⟩, capg, by rw [← hl]; rfl, hr2, fun ad e => ⟨by cases e; exact hsz, (hf2 ad e).2.2⟩, HB.out⟩
  · have HD := Lib.hid (show dimC d = e by rw [← he]; simp [putE, hd])
    have h0 : e ≠ 0 := by rw [← HD.out]; exact hd
    have hne : (e != 0) = true := by simpa using h0
    obtain rfl : [] = r := by rw [← hr]; simp [putR, he, h0]
    clear hd he h0 hr
    go_enter Tryd.func63, Tryd.ntmps63
    go_wp2_with (go_at_call 50; refine (checkDim_is _ _ e HD.out).mono ?_; rintro e w' ⟨rfl, rfl⟩)
    go_ret2
    exact cellsRet_nil e ((Below.refl _ _).alloc (Nat.le_refl _) _)

set_option maxRecDepth 100000 in
set_option maxHeartbeats 2000000 in
theorem put_any (d i : Int) (c : Cl) (w : World) (e : Int) (he : putE d i = e) (r : List Cl) (hr : putR d i c = r) :
    Calls Tryd.prog 64 #[.int .i64 d, .int .i64 i, c.val] w (CellsRet r e w) := by
  by_cases hd : dimC d = 0
  · obtain ⟨n, rfl, hn⟩ := dim_nat hd
    have HD := Lib.hid hd
    have HU := Lib.hid (show unitR n = unitC n by simp [unitR, hd])
    by_cases hi : i < 0 ∨ (n : Int) ≤ i
    · obtain rfl : 5 = e := by rw [← he]; simp [putE, hd, hi]
      obtain rfl : [] = r := by rw [← hr]; simp [putR, he]
      clear hd he hr
      rcases Int.lt_or_le i 0 with hi0 | hi0
      · clear hi
        go_enter Tryd.func64, Tryd.ntmps64
        go_wp2_with fail
        refine (oneRef_own _ _ 0 HD.out).mono ?_
        rintro e w2 ⟨v, rfl, hown, hb2⟩
        have HO := Lib.hid hown
        clear hown
        go_wp2
        go_ret2
        exact cellsRet_nil 5 (((Below.refl _ _).alloc (Nat.le_refl _) _).trans (hb2.mono (by simp)))
      · have hi1 : (n : Int) ≤ i := by omega
        clear hi
        go_enter Tryd.func64, Tryd.ntmps64
        go_wp2_with fail
        refine (oneRef_own _ _ 0 HD.out).mono ?_
        rintro e w2 ⟨v, rfl, hown, hb2⟩
        have HO := Lib.hid hown
        clear hown
        go_wp2
        go_ret2
        exact cellsRet_nil 5 (((Below.refl _ _).alloc (Nat.le_refl _) _).trans (hb2.mono (by simp)))
    · obtain ⟨k, rfl⟩ : ∃ k : Nat, i = k := ⟨i.toNat, by omega⟩
      have hk : k < n := by omega
      obtain rfl : 0 = e := by rw [← he]; simp [putE, hd]; omega
      have HR : Hid (r = (unitC n).set k c) := by show _ = _; rw [← hr]; simp [putR, he]
      have HN := Lib.hid (unit_length n)
      have g0 : (0 : Int) ≤ (k : Int) := by omega
      have g3 : (k : Int) < (n : Int) := by omega
      clear hd he hr hi
      go_enter Tryd.func64, Tryd.ntmps64
      go_wp2_with fail
      refine (oneRef_own _ _ 0 HD.out).mono ?_
      rintro e w2 ⟨v, rfl, hown, hb2⟩
      rw [HU.out, HN.out] at hown
      obtain ⟨g, capg, hv, hbg, hgl⟩ := hown.form (show 0 < n by omega)
      subst hv
      have HO := Lib.hid hown
      obtain ⟨f0, f1, f2⟩ := flat_at (unit_at hk)
      have d0 := (hown.cellAt (k * 3) (by omega)).trans f0
      have d1 := (hown.cellAt (k * 3 + 1) (by omega)).trans f1
      have d2 := (hown.cellAt (k * 3 + 2) (by omega)).trans f2
      have q0 := hown.frozenAt (k * 3); have q1 := hown.frozenAt (k * 3 + 1); have q2 := hown.frozenAt (k * 3 + 2)
      have hsz : w.heap.size ≤ g := by simp at hbg; omega
      have HS := Lib.hid (own_store3 hown (by rw [HN.out]; exact hk) c)
      rw [← HR.out] at HS
      have hB2 : Below w.heap.size w w2 := ((Below.refl _ _).alloc (Nat.le_refl _) _).trans (hb2.mono (by simp))
      have HB := Lib.hid (((hB2.setCell (p := ⟨g, k * 3, none⟩) hsz (.int .u64 (c.f : Int))).setCell (p := ⟨g, k * 3 + 1, none⟩) hsz (.int .i64 c.k)).setCell (p := ⟨g, k * 3 + 2, none⟩) hsz (.int .i64 c.v))
      have hc0 : w2.heap[w.heap.size]? = some (.cells #[.int .u64 (c.f : Int), .int .i64 c.k, .int .i64 c.v] 51 (0, 0)) := by
        rw [hb2.block w.heap.size (by simp), heap_alloc_new]
      obtain ⟨c0, c1, c2, _⟩ := three_cells hc0
      clear hown f0 f1 f2
      go_wp2
      go_ret2
      obtain ⟨hl, a2, cap2, hv2, hr2, hf2⟩ := crow_of_own HS.out
      cases hv2
      exact ⟨some ⟨g, 0, none⟩, capg, by rw [← hl]; rfl, hr2, fun ad e => ⟨by cases e; exact hsz, (hf2 ad e).2.2⟩, HB.out⟩
  · have HD := Lib.hid (show dimC d = e by rw [← he]; simp [putE, hd])
    have h0 : e ≠ 0 := by rw [← HD.out]; exact hd
    have hne : (e != 0) = true := by simpa using h0
    obtain rfl : [] = r := by rw [← hr]; simp [putR, he, h0]
    clear hd he h0 hr
    go_enter Tryd.func64, Tryd.ntmps64
    go_wp2_with fail
    refine (oneRef_own _ _ e HD.out).mono ?_
    rintro x w2 ⟨v, rfl, hown, hb2⟩
    have HO := Lib.hid hown
    clear hown
    go_wp2
    go_ret2
    exact cellsRet_nil e (((Below.refl _ _).alloc (Nat.le_refl _) _).trans (hb2.mono (by simp)))
end Go.Proofs.YtkekldebklghoaaDoor
