/-
  THE CELLS LAYER: the text of a cell that is one number; awake.
-/
import Derived.Test.YtkekldebklghoaaDoorCellsText
namespace Go.Proofs.YtkekldebklghoaaDoor
open Go.RowKit
set_option linter.unusedVariables false

theorem grow_below (w : World) (k : Nat) (os : Array Obj) : Below w.heap.size w (Go.Sort.grow (w.drewN k) os) := by
  refine ⟨rfl, rfl, rfl, by simp [Go.Sort.grow, World.drewN], fun i hi => ?_⟩
  show (w.heap ++ os)[i]? = w.heap[i]?
  rw [Array.getElem?_append_left hi]
theorem formatInt_calls (n : Int) (h0 : -9223372036854775808 ≤ n) (h1 : n ≤ 9223372036854775807) (w : World) (ht : Tabs w) :
    Calls Tryd.prog 75 #[.int .i64 n, .int .i64 10] w fun e w' => e = .returned (.string ⟨(Lib.itoa n).toArray⟩) ∧ Below w.heap.size w w' :=
  (Tryd.strconv_FormatInt_10 n h0 h1 w ht.pow).mono fun e w' ⟨he, k, os, hw⟩ => ⟨he, by rw [hw]; exact grow_below w k os⟩

def threeB : ByteArray := ⟨#[51]⟩
def threeC : Cl := ⟨0, 1, 3⟩
theorem itoa3 : (⟨(Lib.itoa 3).toArray⟩ : ByteArray) = threeB := by kernel_rfl

set_option maxRecDepth 100000 in
set_option maxHeartbeats 2000000 in
theorem cellText_three (w : World) (ht : Tabs w) : Calls Tryd.prog 47 #[threeC.val] w fun e w' => e = .returned (.string threeB) ∧ Below w.heap.size w w' := by
  obtain ⟨i0, hi, hz0, hz1, hz2⟩ := info_parts infoS
  have HT := Lib.hid ht
  have HI := Lib.hid itoa3
  clear ht
  unfold threeC
  go_enter Tryd.func47, Tryd.ntmps47
  go_wp2_with fail
  go_loopw [3, 4] (fun l i wr => i = .int .u64 0 ∧ l = .slice none 0 0 ∧ w.alloc (.cells #[.int .u64 0, .int .i64 1, .int .i64 3] 51) = wr) (fun _ i _ => 0)
  case atStart => exact ⟨rfl, rfl, rfl⟩
  case round =>
    obtain ⟨rfl, rfl, rfl⟩ := hrel
    go_wp2_with (first | (go_at_call 75; go_loud (refine (formatInt_calls 3 (by decide) (by decide) _ (HT.out.below ((Below.refl _ _).alloc (Nat.le_refl _) _))).mono ?_; rintro e w3 ⟨rfl, hb3⟩; rw [HI.out]; have hB3 : Below w.heap.size w w3 := ((Below.refl _ _).alloc (Nat.le_refl _) _).trans (hb3.mono (by simp)))) | (at_builtin; go_loud (refine wpList_append_own _ rfl (.tmp 24) (.tmp 28) 64 rfl w.heap.size 9 i0 _ 1 16 Tryd.underlying64 hi hz0 hz1 hz2 rfl (by decide) (.slice none 0 0) 0 [] rfl (World.ownsRow_nil _ _ _ _) ⟨w3.heap.size, 0, none⟩ 1 1 [.string threeB] rfl rfl (World.news_of_block (cs := #[.string threeB]) (t := 9) (fr := (0, 0)) (heap_alloc_new w3 _)) (by simp [Value.oneCell']) (by unfold maxLen; omega) (by omega) (by have := hB3.size; simp; omega) ?_; intro v' w5 hown1 hgrow hnil; have hB4 : Below w.heap.size w w5 := (hB3.alloc hB3.size _).grown hgrow (by have := hB3.size; simp; omega) (fun j e => by cases e); obtain ⟨g, capg, hv, hbg, hgl⟩ := hown1.form (by decide : 0 < 0 + 1); subst hv)))
    have hcap : 1 ≤ capg := by
      rcases hown1.2 with ⟨h, _⟩ | ⟨g', cap', cur, hv, hg, hh, h2, _⟩
      · cases h
      · cases hv; omega
    have HO5 := Lib.hid hown1
    have hJ := Tryd.strings_Join g 0 capg [threeB] ⟨#[124]⟩ w5 (fun j x hj => by
      have hjl := (List.getElem?_eq_some_iff.1 hj).1
      have h2 := HO5.out.cellAt j (by simp at hjl ⊢; omega)
      rw [Nat.zero_add, h2]
      match j with
      | 0 => simp at hj; subst hj; simp
      | j + 1 => simp at hjl) hgl (by decide) (by simpa using hcap) (by decide)
    have HJ := Lib.hid hJ
    clear hown1 hJ
    go_wp2_with fail
    refine HJ.out.mono ?_
    rintro e w6 ⟨rfl, hb6⟩
    go_wp2
    go_ret
    exact ⟨by rfl, hB4.trans (hb6.mono hB4.size)⟩

theorem below_len {w w' : World} {a : Nat} (h : Below a w w') (ha : a = w.heap.size) : Below w.heap.size w w' := ha ▸ h
def r33 : List Cl := [threeC, threeC]
def rA : List Cl := [threeC, ⟨2, 0, 0⟩]
def rB : List Cl := [⟨1, 0, 0⟩, ⟨1, 0, 0⟩]
theorem bA : Bits rA := by intro c h; simp [rA, threeC] at h; rcases h with rfl | rfl <;> decide
theorem bB : Bits rB := by intro c h; simp [rB] at h; subst h; decide
theorem b33 : Bits r33 := by intro c h; simp [r33, threeC] at h; subst h; decide
theorem eA0 : putE 2 0 = 0 := by decide
theorem eA : putR 2 0 ⟨0, 1, 3⟩ = rA := by rfl
theorem eB0 : copyE 2 1 0 = 0 := by decide
theorem eB : copyR 2 1 0 = rB := by rfl
theorem eC0 : chk2C 2 rA rB = 0 := by decide
theorem eC : thenR 2 rA rB = r33 := by rfl
theorem eD0 : chkC 2 r33 = 0 := by decide
def text33 : ByteArray := ⟨#[51, 44, 51]⟩
theorem eD : textC (fun _ => threeB) r33 = text33 := by rfl

set_option maxRecDepth 100000 in
set_option maxHeartbeats 2000000 in
theorem awake_any (w : World) (ht : Tabs w) : Calls Tryd.prog 20 #[] w fun e w' => e = .returned (.bool true) ∧ Below w.heap.size w w' := by
  have HT := Lib.hid ht
  clear ht
  go_enter Tryd.func20, Tryd.ntmps20
  go_wp2_with fail
  refine (set_any 2 0 3 _ 0 eA0 rA eA).mono ?_
  rintro e w1 ⟨a1, c1, rfl, hr1, hf1, hb1⟩
  have HR1 := Lib.hid hr1
  clear hr1 hf1
  go_wp2_with fail
  refine (copy_any 2 1 0 _ (by decide) 0 eB0 rB eB).mono ?_
  rintro e w2 ⟨a2, c2, rfl, hr2, hf2, hb2⟩
  have HR2 := Lib.hid hr2
  clear hr2 hf2
  have hB2 := hb1.trans (hb2.mono hb1.size)
  go_wp2_with fail
  refine (then_any 2 a1 a2 c1 c2 rA rB _ (HT.out.below hB2) (by decide) (by decide) (HR1.out.below hb2) HR2.out bA bB 0 eC0).mono ?_
  rw [eC]
  rintro e w3 ⟨a3, c3, rfl, hr3, hf3, hb3⟩
  have HR3 := Lib.hid hr3
  clear hr3 hf3
  have hB3 := hB2.trans (hb3.mono hB2.size)
  go_wp2_with fail
  refine (text_of (fun _ => threeB) 2 a3 c3 r33 _ (HT.out.below hB3) (by decide) HR3.out b33 eD0 (fun i x w hx ht => by
    have hx3 : x = threeC := by
      match i with
      | 0 => simpa [r33] using hx.symm
      | 1 => simpa [r33] using hx.symm
      | i + 2 => simp [r33] at hx
    rw [hx3]; exact cellText_three w ht) (by decide) text33 eD).mono ?_
  rintro e w4 ⟨rfl, hb4⟩
  have hB4 := hB3.trans (hb4.mono hB3.size)
  unfold text33
  go_wp2
  go_ret
  exact ⟨by rfl, hB4⟩
end Go.Proofs.YtkekldebklghoaaDoor
