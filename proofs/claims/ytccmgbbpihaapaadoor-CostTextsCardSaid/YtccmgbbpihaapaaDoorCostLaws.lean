/-
  THE COST LAYER: AtMost, Height and the reference's; two; and the statements CostLeasts, CostChecks, CostSemiring, CostOrder as walks.
-/
import Derived.Test.YtccmgbbpihaapaaDoorCostSmall
namespace Go.Proofs.YtccmgbbpihaapaaDoor
open Go.RowKit
set_option linter.unusedVariables false

theorem rbi {b d : Bool} {k : IntKind} {a c : Int} (h : b = d) (h2 : a = c) : Ending.returned (.tuple #[.bool b, .int k a]) = .returned (.tuple #[.bool d, .int k c]) := by rw [h, h2]

theorem ckA (limit a b : Int) (n : Nat) (W : World) (T : Nat) (h : n = W.heap.size) (c : Int) (hc : chk limit [a, b] = c) :
    Calls Tryd.prog 65 #[.int .i64 limit, .slice (some ⟨n, 0, none⟩) 2 2] (W.alloc (.cells #[.int .i64 a, .int .i64 b] T)) fun e w' => e = .returned (.int .i64 c) ∧ (W.alloc (.cells #[.int .i64 a, .int .i64 b] T)) = w' := by
  subst hc
  exact checkAll_any limit _ 2 [a, b] _ (by simp [maxLen]) (row_two _ _ _ _ _ h)
theorem ckR (limit a b : Int) (n : Nat) (W : World) (T : Nat) (h : n = W.heap.size) (c : Int) (hc : chk limit [a, b] = c) :
    Calls Tryd.prog 48 #[.int .i64 limit, .slice (some ⟨n, 0, none⟩) 2 2] (W.alloc (.cells #[.int .i64 a, .int .i64 b] T)) fun e w' => e = .returned (.int .i64 c) ∧ (W.alloc (.cells #[.int .i64 a, .int .i64 b] T)) = w' := by
  subst hc
  exact check_any limit _ 2 [a, b] _ (by simp [maxLen]) (row_two _ _ _ _ _ h)

theorem atMost_any (limit a b : Int) (w : World) : Calls Tryd.prog 43 #[.int .i64 limit, .int .i64 a, .int .i64 b] w fun e w' => e = .returned (.tuple #[.bool (atMostR limit a b), .int .i64 (chk limit [a, b])]) ∧ Below w.heap.size w w' := by
  by_cases hc : chk limit [a, b] = 0
  · have H := Lib.hid hc
    have H1 := Lib.hid (show (lesser a b == a) = atMostR limit a b by simp [atMostR, hc, atMost])
    clear hc
    go_enter Tryd.func43, Tryd.ntmps43
    go_wp2_with fail
    refine (ckA limit a b _ _ _ (by simp) 0 H.out).mono ?_
    rintro e w1 ⟨rfl, rfl⟩
    go_wp2_with fail
    refine (lesser_any a b _).mono ?_
    rintro e w1 ⟨rfl, rfl⟩
    go_wp2
    go_ret2
    exact ⟨rbi H1.out H.out.symm, (Below.refl _ _).alloc (Nat.le_refl _) _⟩
  · have H1 := Lib.hid (show atMostR limit a b = false by simp [atMostR, hc])
    have hne : (chk limit [a, b] != 0) = true := by simpa using hc
    obtain ⟨c, hcc⟩ : ∃ c, c = chk limit [a, b] := ⟨_, rfl⟩
    rw [← hcc] at hne
    have HC := Lib.hid hcc
    clear hc hcc
    go_enter Tryd.func43, Tryd.ntmps43
    go_wp2_with fail
    refine (ckA limit a b _ _ _ (by simp) c HC.out.symm).mono ?_
    rintro e w1 ⟨rfl, rfl⟩
    go_wp2
    go_ret2
    exact ⟨rbi H1.out.symm HC.out, (Below.refl _ _).alloc (Nat.le_refl _) _⟩

theorem atMostRef_any (limit a b : Int) (w : World) : Calls Tryd.prog 44 #[.int .i64 limit, .int .i64 a, .int .i64 b] w fun e w' => e = .returned (.tuple #[.bool (atMostR limit a b), .int .i64 (chk limit [a, b])]) ∧ Below w.heap.size w w' := by
  by_cases hc : chk limit [a, b] = 0
  · have H := Lib.hid hc
    have H1 := Lib.hid (show (lesser a b == a) = atMostR limit a b by simp [atMostR, hc, atMost])
    clear hc
    go_enter Tryd.func44, Tryd.ntmps44
    go_wp2_with fail
    refine (ckR limit a b _ _ _ (by simp) 0 H.out).mono ?_
    rintro e w1 ⟨rfl, rfl⟩
    go_wp2_with fail
    refine (two_any a b _).mono ?_
    rintro e w1 ⟨rfl, rfl⟩
    go_wp2
    go_ret2
    exact ⟨rbi H1.out H.out.symm, (Below.refl _ _).alloc (Nat.le_refl _) _⟩
  · have H1 := Lib.hid (show atMostR limit a b = false by simp [atMostR, hc])
    have hne : (chk limit [a, b] != 0) = true := by simpa using hc
    obtain ⟨c, hcc⟩ : ∃ c, c = chk limit [a, b] := ⟨_, rfl⟩
    rw [← hcc] at hne
    have HC := Lib.hid hcc
    clear hc hcc
    go_enter Tryd.func44, Tryd.ntmps44
    go_wp2_with fail
    refine (ckR limit a b _ _ _ (by simp) c HC.out.symm).mono ?_
    rintro e w1 ⟨rfl, rfl⟩
    go_wp2
    go_ret2
    exact ⟨rbi H1.out.symm HC.out, (Below.refl _ _).alloc (Nat.le_refl _) _⟩

theorem chk_nil_zero {limit : Int} (h : chk limit [] = 0) : 0 ≤ limit ∧ limit ≤ 1048576 := ⟨(chk_zero h).1, (chk_zero h).2.1⟩

theorem height_any (limit : Int) (w : World) : Calls Tryd.prog 45 #[.int .i64 limit] w fun e w' => e = .returned (.tuple #[.int .i64 (heightR limit), .int .i64 (chk limit [])]) ∧ w = w' := by
  by_cases hc : chk limit [] = 0
  · obtain ⟨h1, h2⟩ := chk_nil_zero hc
    have H := Lib.hid hc
    have H1 := Lib.hid (show heightR limit = limit + 1 by simp [heightR, hc])
    clear hc
    go_enter Tryd.func45, Tryd.ntmps45
    go_wp2_with fail
    refine (checkAll_any limit _ 0 [] _ (by simp) (.inl rfl)).mono ?_
    rintro e w1 ⟨rfl, rfl⟩
    rw [H.out]
    go_wp2
    go_ret2
    exact ⟨rtwo H1.out.symm H.out.symm, rfl⟩
  · have H1 := Lib.hid (show heightR limit = 0 by simp [heightR, hc])
    have hne : (chk limit [] != 0) = true := by simpa using hc
    obtain ⟨c, hcc⟩ : ∃ c, c = chk limit [] := ⟨_, rfl⟩
    rw [← hcc] at hne
    have HC := Lib.hid hcc
    clear hc hcc
    go_enter Tryd.func45, Tryd.ntmps45
    go_wp2_with fail
    refine (checkAll_any limit _ 0 [] _ (by simp) (.inl rfl)).mono ?_
    rintro e w1 ⟨rfl, rfl⟩
    rw [← HC.out]
    go_wp2
    go_ret2
    exact ⟨rtwo H1.out.symm HC.out, rfl⟩
theorem heightRef_any (limit : Int) (w : World) : Calls Tryd.prog 46 #[.int .i64 limit] w fun e w' => e = .returned (.tuple #[.int .i64 (heightR limit), .int .i64 (chk limit [])]) ∧ w = w' := by
  by_cases hc : chk limit [] = 0
  · obtain ⟨h1, h2⟩ := chk_nil_zero hc
    have H := Lib.hid hc
    have H1 := Lib.hid (show heightR limit = limit + 1 by simp [heightR, hc])
    clear hc
    go_enter Tryd.func46, Tryd.ntmps46
    go_wp2_with fail
    refine (check_any limit _ 0 [] _ (by simp) (.inl rfl)).mono ?_
    rintro e w1 ⟨rfl, rfl⟩
    rw [H.out]
    go_wp2
    go_ret2
    exact ⟨rtwo H1.out.symm H.out.symm, rfl⟩
  · have H1 := Lib.hid (show heightR limit = 0 by simp [heightR, hc])
    have hne : (chk limit [] != 0) = true := by simpa using hc
    obtain ⟨c, hcc⟩ : ∃ c, c = chk limit [] := ⟨_, rfl⟩
    rw [← hcc] at hne
    have HC := Lib.hid hcc
    clear hc hcc
    go_enter Tryd.func46, Tryd.ntmps46
    go_wp2_with fail
    refine (check_any limit _ 0 [] _ (by simp) (.inl rfl)).mono ?_
    rintro e w1 ⟨rfl, rfl⟩
    rw [← HC.out]
    go_wp2
    go_ret2
    exact ⟨rtwo H1.out.symm HC.out, rfl⟩

def IsNums (w : World) (a : Option Addr) (len cap : Nat) (zs : List Int) : Prop := len ≤ cap ∧ cap ≤ maxLen ∧ zs.length = len ∧ Row w a zs
theorem isNums_nil (w : World) : ∃ zs, IsNums w none 0 0 zs := ⟨[], Nat.le_refl _, by simp [maxLen], rfl, .inl rfl⟩
theorem isNums_of {w : World} {x : Addr} {len cap : Nat} {zs : List Int} (hl : len ≤ cap) (hm : cap ≤ maxLen) (hz : zs.length = cap) (hc : ∀ i, i < zs.length → w.cell? (x.add i) = some (.int .i64 (zs.getD i 0))) : ∃ ys, IsNums w (some x) len cap ys := by
  refine ⟨zs.take len, hl, hm, by rw [List.length_take]; omega, ?_⟩
  by_cases h0 : len = 0
  · exact .inl (by simp [h0])
  · obtain ⟨b, off, spot⟩ := x
    have hspot : spot = none := by simpa [Addr.add] using World.cell?_spot (hc 0 (by omega))
    subst hspot
    refine .inr ⟨b, off, rfl, fun i hi => ?_⟩
    simp only [List.length_take] at hi
    have := hc i (by omega)
    have e : (zs.take len).getD i 0 = zs.getD i 0 := by simp [List.getD, show i < len by omega]
    rw [e, ← this]; simp only [Addr.add]; split <;> simp_all
theorem Row.take {w : World} {a : Option Addr} {zs : List Int} (h : Row w a zs) (n : Nat) : Row w a (zs.take n) := by
  rcases h with h | ⟨b, off, rfl, hc⟩
  · exact .inl (by simp [h])
  · refine .inr ⟨b, off, rfl, fun i hi => ?_⟩
    simp only [List.length_take] at hi
    have := hc i (by omega)
    rw [this]
    simp [List.getD, show i < n by omega]

/-- CostLeasts returns true. -/
theorem costLeasts_walk (limit : Int) (a : Option Addr) (len cap : Nat) (zs : List Int) (w : World) (wl : (Lit.int .i64 limit).wf = true) (hn : IsNums w a len cap zs) :
    Calls Tryd.prog 9 #[.int .i64 limit, .slice a len cap] w fun e w' => e = .returned (.bool true) ∧ Below w.heap.size w w' := by
  obtain ⟨h1, h2, h3, h4⟩ := hn
  obtain ⟨ys, hys⟩ : ∃ ys, ys = zs.take 1000 := ⟨_, rfl⟩
  have hl : min len 1000 = ys.length := by rw [hys, List.length_take, h3]; omega
  have hrow : Row w a ys := by rw [hys]; exact h4.take _
  have HL := Lib.hid hl
  have HR := Lib.hid hrow
  have HM : Hid (ys.length ≤ maxLen) := by show _ ≤ _; omega
  clear hys hl hrow h4 h3
  obtain ⟨x, hx⟩ : ∃ x, x = leastR limit ys := ⟨_, rfl⟩
  obtain ⟨y, hy⟩ : ∃ x, x = sumR limit ys := ⟨_, rfl⟩
  obtain ⟨c, hc⟩ : ∃ x, x = chk limit ys := ⟨_, rfl⟩
  have HX := Lib.hid hx; have HY := Lib.hid hy; have HC := Lib.hid hc
  clear hx hy hc
  go_enter Tryd.func9, Tryd.ntmps9
  go_wp2_with fail
  refine (few_any _ _ _ _ h2 h1).mono ?_
  rintro e w1 ⟨rfl, rfl⟩
  rw [HL.out]
  go_wp2_with fail
  refine (least_any _ _ _ ys _ HM.out HR.out).mono ?_
  rintro e w1 ⟨rfl, rfl⟩
  rw [← HX.out, ← HC.out]
  go_wp2_with fail
  refine (leastRef_any _ _ _ ys _ HM.out HR.out).mono ?_
  rintro e w1 ⟨rfl, rfl⟩
  rw [← HX.out, ← HC.out]
  go_wp2_with fail
  refine (sum_any _ _ _ ys _ HM.out HR.out).mono ?_
  rintro e w1 ⟨rfl, rfl⟩
  rw [← HY.out, ← HC.out]
  go_wp2_with fail
  refine (sumRef_any _ _ _ ys _ HM.out HR.out).mono ?_
  rintro e w1 ⟨rfl, rfl⟩
  rw [← HY.out, ← HC.out]
  go_wp2_with (go_at_call 42; refine (awake_any _).mono ?_; rintro e w1 ⟨rfl, hb⟩)
  go_ret
  exact ⟨rfl, hb⟩
end Go.Proofs.YtccmgbbpihaapaaDoor
