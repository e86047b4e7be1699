/-
  THE COST LAYER: the statement CostRow as a walk.
-/
import Derived.Test.YtccmgbbpihaapaaDoorCostOrder
import Derived.Deep.RegionHeld3
import Derived.RegionTactic
import Derived.Deep.QuietTactic
import Derived.BigQuiet
namespace Go.Proofs.YtccmgbbpihaapaaDoor
open Go.RowKit
set_option linter.unusedVariables false

theorem Below.drewN {B : Nat} {a w : World} (h : Below B a w) (n : Nat) : Below B a (w.drewN n) := h.trans ⟨rfl, rfl, rfl, Nat.le_refl _, fun _ _ => rfl⟩
/-- How far up a cost lies: what is none lies above all. -/
def rank (l c : Int) : Int := if c = -1 then l + 1 else c
def RowInv (l : Int) (zs : List Int) (k : Nat) : Prop := (k : Int) - 1 ≤ l + 1 ∧ (k = 1 ∨ (In l (zs.getD (k - 1) 0) ∧ rank l (zs.getD (k - 1) 0) + ((k : Int) - 1) ≤ l + 1))
theorem rowInv_step {l : Int} {zs : List Int} {k : Nat} {z y : Int} (hk : 1 ≤ k) (h : RowInv l zs k) (hz : z = zs.getD k 0) (hy : y = zs.getD (k - 1) 0) (hc : chk l [z, y] = 0) (hm : atMostR l z y = true) (hne : z ≠ y) : RowInv l zs (k + 1) := by
  have hi := chk2_iff.1 hc
  have hm2 : atMost z y = true := by simpa [atMostR, hc] using hm
  rw [atMost_iff] at hm2
  unfold RowInv at *
  have e : k + 1 - 1 = k := by omega
  rw [e, ← hz]
  rw [← hy] at h
  have hr : rank l z < rank l y ∧ 0 ≤ rank l z ∧ rank l y ≤ l + 1 := by unfold rank; split <;> split <;> omega
  refine ⟨?_, .inr ⟨by unfold In; omega, ?_⟩⟩
  · rcases h.2 with h2 | h2 <;> omega
  · rcases h.2 with h2 | h2 <;> omega

set_option maxRecDepth 100000 in
set_option maxHeartbeats 4000000 in
theorem costRow_walk (limit : Int) (a : Option Addr) (len cap : Nat) (ys : List Int) (w : World) (wl : (Lit.int .i64 limit).wf = true) (hn : IsNums w a len cap ys) :
    Calls Tryd.prog 14 #[.int .i64 limit, .slice a len cap] w fun e w' => e = .returned (.bool true) ∧ Below w.heap.size w w' := by
  clear wl
  obtain ⟨h1, h2, h3, h4⟩ := hn
  obtain ⟨zs, hzs⟩ : ∃ zs, zs = ys.take 1000 := ⟨_, rfl⟩
  have hl : min len 1000 = zs.length := by rw [hzs, List.length_take, h3]; omega
  have hrow : Row w a zs := by rw [hzs]; exact h4.take _
  have HL := Lib.hid hl
  have HR := Lib.hid hrow
  have hM : zs.length ≤ 9223372036854775807 := by have := h2; unfold maxLen at this; omega
  clear hzs hl hrow h4 h3
  by_cases hc0 : chk limit [] = 0
  · obtain ⟨g1, g2⟩ := chk_nil_zero hc0
    have HC := Lib.hid hc0
    have HH := Lib.hid (show heightR limit = limit + 1 by simp [heightR, hc0])
    clear hc0
    go_enter Tryd.func14, Tryd.ntmps14
    go_wp2_with fail
    refine (awake_any _).mono ?_
    rintro e w1 ⟨rfl, b1⟩
    go_wp2_with fail
    refine (height_is _ _ (limit + 1) 0 HH.out HC.out).mono ?_
    rintro e w2 ⟨rfl, rfl⟩
    go_wp2_with fail
    refine (few_any _ _ _ _ h2 h1).mono ?_
    rintro e w2 ⟨rfl, rfl⟩
    rw [HL.out]
    go_wp2_with fail
    go_loopw [7, 8] (fun m i wr => ∃ k : Nat, 1 ≤ k ∧ (k ≤ zs.length ∨ k = 1) ∧ i = .int .i64 k ∧ m = .int .i64 ((k : Int) - 1) ∧ (k : Int) - 1 ≤ limit + 1 ∧ Hid (RowInv limit zs k) ∧ Below w.heap.size w wr) (fun _ i _ => zs.length - (intOf i).toNat)
    case atStart => exact ⟨1, by omega, .inr rfl, rfl, rfl, by omega, ⟨by omega, .inl rfl⟩, b1⟩
    case round =>
      obtain ⟨k, hk1, hk2, rfl, rfl, hk3, HI, hb⟩ := hrel
      by_cases hlt : k < zs.length
      · rcases HR.out.below hb with h | ⟨b, off, rfl, hc⟩
        · subst h; simp at hlt
        have hck := hc k hlt
        have hcj := hc (k - 1) (by omega)
        obtain ⟨z, hz⟩ : ∃ z, z = zs.getD k 0 := ⟨_, rfl⟩
        obtain ⟨y, hy⟩ : ∃ y, y = zs.getD (k - 1) 0 := ⟨_, rfl⟩
        rw [← hz] at hck
        rw [← hy] at hcj
        have HZ := Lib.hid hz; have HY := Lib.hid hy
        have hblt : b < w.heap.size := by
          rcases HR.out with h | ⟨b', off', e, hc'⟩
          · subst h; simp at hlt
          · cases e; exact cell_lt (hc' k hlt)
        clear hz hy hc
        obtain ⟨m, hm⟩ : ∃ x, atMostR limit z y = x := ⟨_, rfl⟩
        obtain ⟨c, hc⟩ : ∃ x, chk limit [z, y] = x := ⟨_, rfl⟩
        have HM := Lib.hid hm; have HC2 := Lib.hid hc
        have hcase : (c != 0) = true ∨ ((c != 0) = false ∧ m = false) ∨ ((c != 0) = false ∧ m = true ∧ (z == y) = true) ∨ ((c != 0) = false ∧ m = true ∧ (z == y) = false ∧ Hid (RowInv limit zs (k + 1))) := by
          by_cases e1 : c = 0
          · cases m
            · simp [e1]
            · by_cases e2 : z = y
              · simp [e1, e2]
              · right; right; right; simp [e1, e2]; exact rowInv_step hk1 HI.out HZ.out HY.out (hc.trans e1) hm e2
          · simp [e1]
        clear hm hc
        have hkm : ((k : Int) - 1).toNat = k - 1 := by omega
        have g0 : (0 : Int) ≤ (k : Int) := by omega
        have g1' : (1 : Int) ≤ (k : Int) := by omega
        have g1 : (0 : Int) ≤ (k : Int) - 1 := by omega
        have g2 : (k : Int) - 1 < (zs.length : Int) := by omega
        have g3 : (k : Int) < (zs.length : Int) := by omega
        have hw1 : IntKind.i64.wrap ((k : Int) - 1) = (k : Int) - 1 := IntWalk.i64_in _ (by omega)
        rcases hcase with t1 | ⟨t1, rfl⟩ | ⟨t1, rfl, t2⟩ | ⟨t1, rfl, t2, HI2⟩
        · go_wp2_with fail
          go_region_held3 (fun w' => w'.cell? ⟨b, off + k, none⟩ = some (.int .i64 z) ∧ w'.cell? ⟨b, off + (k - 1), none⟩ = some (.int .i64 y)) (first | exact ⟨hck, hcj⟩ | exact ⟨ck3, cj3⟩ | fail) (first | (go_at_call 43; refine (atMost_is _ _ _ _ _ c HM.out HC2.out).mono ?_; rintro e w3 ⟨rfl, hb3⟩; have ck3 := (hb3.cell (p := ⟨b, off + k, none⟩) (Nat.lt_of_lt_of_le hblt hb.size)).trans hck; have cj3 := (hb3.cell (p := ⟨b, off + (k - 1), none⟩) (Nat.lt_of_lt_of_le hblt hb.size)).trans hcj) | fail)
          go_wp2
          go_quiet (fail)
          go_wp2
          go_ret
          exact ⟨rfl, Below.drewN (Below.next hb.drew hb3) _⟩
        · go_wp2_with fail
          go_region_held3 (fun w' => w'.cell? ⟨b, off + k, none⟩ = some (.int .i64 z) ∧ w'.cell? ⟨b, off + (k - 1), none⟩ = some (.int .i64 y)) (first | exact ⟨hck, hcj⟩ | exact ⟨ck3, cj3⟩ | fail) (first | (go_at_call 43; refine (atMost_is _ _ _ _ _ c HM.out HC2.out).mono ?_; rintro e w3 ⟨rfl, hb3⟩; have ck3 := (hb3.cell (p := ⟨b, off + k, none⟩) (Nat.lt_of_lt_of_le hblt hb.size)).trans hck; have cj3 := (hb3.cell (p := ⟨b, off + (k - 1), none⟩) (Nat.lt_of_lt_of_le hblt hb.size)).trans hcj) | fail)
          go_wp2
          go_quiet (fail)
          go_wp2
          go_ret
          exact ⟨rfl, Below.drewN (Below.next hb.drew hb3) _⟩
        · go_wp2_with fail
          go_region_held3 (fun w' => w'.cell? ⟨b, off + k, none⟩ = some (.int .i64 z) ∧ w'.cell? ⟨b, off + (k - 1), none⟩ = some (.int .i64 y)) (first | exact ⟨hck, hcj⟩ | exact ⟨ck3, cj3⟩ | fail) (first | (go_at_call 43; refine (atMost_is _ _ _ _ _ c HM.out HC2.out).mono ?_; rintro e w3 ⟨rfl, hb3⟩; have ck3 := (hb3.cell (p := ⟨b, off + k, none⟩) (Nat.lt_of_lt_of_le hblt hb.size)).trans hck; have cj3 := (hb3.cell (p := ⟨b, off + (k - 1), none⟩) (Nat.lt_of_lt_of_le hblt hb.size)).trans hcj) | fail)
          go_wp2
          go_quiet (fail)
          go_wp2
          go_ret
          exact ⟨rfl, Below.drewN (Below.next hb.drew hb3) _⟩
        · go_wp2_with fail
          go_region_held3 (fun w' => w'.cell? ⟨b, off + k, none⟩ = some (.int .i64 z) ∧ w'.cell? ⟨b, off + (k - 1), none⟩ = some (.int .i64 y)) (first | exact ⟨hck, hcj⟩ | exact ⟨ck3, cj3⟩ | fail) (first | (go_at_call 43; refine (atMost_is _ _ _ _ _ c HM.out HC2.out).mono ?_; rintro e w3 ⟨rfl, hb3⟩; have ck3 := (hb3.cell (p := ⟨b, off + k, none⟩) (Nat.lt_of_lt_of_le hblt hb.size)).trans hck; have cj3 := (hb3.cell (p := ⟨b, off + (k - 1), none⟩) (Nat.lt_of_lt_of_le hblt hb.size)).trans hcj) | fail)
          go_wp2
          go_quiet (fail)
          go_wp2
          go_roundw
          case rel => exact ⟨k + 1, by omega, by omega, by go_num, by go_num, by have := HI2.out.1; omega, HI2, Below.drewN (Below.next hb.drew hb3) _⟩
          case measure => simp [intOf]; omega
      · go_wp2
        go_ret
        exact ⟨rfl, hb⟩
  · obtain ⟨c, hcc⟩ : ∃ c, chk limit [] = c := ⟨_, rfl⟩
    have hne : (c != 0) = true := by rw [← hcc]; simpa using hc0
    have HC := Lib.hid hcc
    have HH := Lib.hid (show heightR limit = 0 by simp [heightR, hc0])
    clear hc0 hcc
    go_enter Tryd.func14, Tryd.ntmps14
    go_wp2_with fail
    refine (awake_any _).mono ?_
    rintro e w1 ⟨rfl, b1⟩
    go_wp2_with fail
    refine (height_is _ _ 0 c HH.out HC.out).mono ?_
    rintro e w2 ⟨rfl, rfl⟩
    go_wp2
    go_ret
    exact ⟨rfl, b1⟩
end Go.Proofs.YtccmgbbpihaapaaDoor
