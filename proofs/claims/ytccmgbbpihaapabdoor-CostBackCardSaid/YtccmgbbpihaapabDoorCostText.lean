/-
  THE COST LAYER: the text of a cost, of the program and of the reference.
-/
import Derived.Test.YtccmgbbpihaapabDoorCostLaws2
import Derived.Test.YtccmgbbpihaapabDoorTabs
import Derived.Test.YtccmgbbpihaapabDoorShelf
namespace Go.Proofs.YtccmgbbpihaapabDoor
open Go.RowKit
set_option linter.unusedVariables false

theorem grow_below (w : World) (k : Nat) (os : Array Obj) : Below w.heap.size w (Go.Sort.grow (w.drewN k) os) := by
  refine ⟨rfl, rfl, rfl, by simp [Go.Sort.grow, World.drewN], fun i hi => ?_⟩
  show (w.heap ++ os)[i]? = w.heap[i]?
  rw [Array.getElem?_append_left hi]
theorem itoa_calls (n : Int) (h0 : -9223372036854775808 ≤ n) (h1 : n ≤ 9223372036854775807) (w : World) (ht : Tabs w) :
    Calls Tryd.prog 10 #[.int .i64 n] w fun e w' => e = .returned (.string ⟨(Lib.itoa n).toArray⟩) ∧ Below w.heap.size w w' :=
  (Tryd.strconv_Itoa n h0 h1 w ht.pow).mono fun e w' ⟨he, k, os, hw⟩ => ⟨he, by rw [hw]; exact grow_below w k os⟩

def noneB : ByteArray := ⟨#[110, 111, 110, 101]⟩
def txtC (limit c : Int) : ByteArray := if chk limit [c] = 0 then (if c = -1 then noneB else ⟨(Lib.itoa c).toArray⟩) else ⟨#[]⟩
theorem rsi {s t : ByteArray} {k : IntKind} {a b : Int} (h : s = t) (h2 : a = b) : Ending.returned (.tuple #[.string s, .int k a]) = .returned (.tuple #[.string t, .int k b]) := by rw [h, h2]
theorem ck1A (limit a : Int) (n : Nat) (W : World) (T : Nat) (h : n = W.heap.size) (c : Int) (hc : chk limit [a] = c) :
    Calls Tryd.prog 9 #[.int .i64 limit, .slice (some ⟨n, 0, none⟩) 1 1] (W.alloc (.cells #[.int .i64 a] T)) fun e w' => e = .returned (.int .i64 c) ∧ (W.alloc (.cells #[.int .i64 a] T)) = w' := by
  subst hc
  exact checkAll_any limit _ 1 [a] _ (by simp [maxLen]) (row_one _ _ _ _ h)
theorem ok1 {limit c : Int} (h : chk limit [c] = 0) : -1 ≤ c ∧ c ≤ 1048576 := by
  have := chk_zero h
  simp [okc] at this; omega

theorem text_any (limit c : Int) (w : World) (ht : Tabs w) (t : ByteArray) (x : Int) (htx : txtC limit c = t) (hx : chk limit [c] = x) :
    Calls Tryd.prog 5 #[.int .i64 limit, .int .i64 c] w fun e w' => e = .returned (.tuple #[.string t, .int .i64 x]) ∧ Below w.heap.size w w' := by
  have HX := Lib.hid hx
  by_cases h0 : x = 0
  · obtain ⟨g1, g2⟩ := ok1 (hx.trans h0)
    have HT := Lib.hid ht
    by_cases h1 : c = -1
    · have H1 := Lib.hid (show txtC limit c = noneB by rw [txtC, if_pos (hx.trans h0)]; simp [h1])
      have H2 := Lib.hid htx
      have hc : (c == -1) = true := by simp [h1]
      clear htx hx ht h1
      subst h0
      go_enter Tryd.func5, Tryd.ntmps5
      go_wp2_with fail
      refine (ck1A limit c _ _ _ (by simp) 0 HX.out).mono ?_
      rintro e w1 ⟨rfl, rfl⟩
      go_wp2
      go_ret2
      exact ⟨rsi (H1.out.symm.trans H2.out) rfl, (Below.refl _ _).alloc (Nat.le_refl _) _⟩
    · have H1 := Lib.hid (show txtC limit c = ⟨(Lib.itoa c).toArray⟩ by rw [txtC, if_pos (hx.trans h0)]; simp [h1])
      have H2 := Lib.hid htx
      have hc : (c == -1) = false := by simp [h1]
      clear htx hx ht h1
      subst h0
      go_enter Tryd.func5, Tryd.ntmps5
      go_wp2_with fail
      refine (ck1A limit c _ _ _ (by simp) 0 HX.out).mono ?_
      rintro e w1 ⟨rfl, rfl⟩
      go_wp2_with fail
      refine (itoa_calls c (by omega) (by omega) _ (HT.out.below ((Below.refl _ _).alloc (Nat.le_refl _) _))).mono ?_
      rintro e w2 ⟨rfl, hb2⟩
      go_wp2
      go_ret2
      exact ⟨rsi (H1.out.symm.trans H2.out) rfl, ((Below.refl _ _).alloc (Nat.le_refl _) _).trans (hb2.mono (by simp))⟩
  · have H1 := Lib.hid (show txtC limit c = ⟨#[]⟩ by simp [txtC, hx, h0])
    have H2 := Lib.hid htx
    have hne : (x != 0) = true := by simpa using h0
    clear htx hx ht h0
    go_enter Tryd.func5, Tryd.ntmps5
    go_wp2_with fail
    refine (ck1A limit c _ _ _ (by simp) x HX.out).mono ?_
    rintro e w1 ⟨rfl, rfl⟩
    go_wp2
    go_ret2
    exact ⟨rsi (H1.out.symm.trans H2.out) rfl, (Below.refl _ _).alloc (Nat.le_refl _) _⟩
end Go.Proofs.YtccmgbbpihaapabDoor
