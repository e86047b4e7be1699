/-
  THE COST LAYER: Least and Sum of the program and of the reference; the short lists that are made in place.
-/
import Derived.Test.YtccmgbbpihaapabDoorCostLoops
namespace Go.Proofs.YtccmgbbpihaapabDoor
open Go.RowKit
set_option linter.unusedVariables false

def leastOf (zs : List Int) : Int := zs.foldl lesser (-1)
def sumOf (limit : Int) (zs : List Int) : Int := zs.foldl (added limit) 0
def leastR (limit : Int) (zs : List Int) : Int := if chk limit zs = 0 then leastOf zs else 0
def sumR (limit : Int) (zs : List Int) : Int := if chk limit zs = 0 then sumOf limit zs else 0

theorem chk_zero {limit : Int} {zs : List Int} (h : chk limit zs = 0) : 0 ≤ limit ∧ limit ≤ 1048576 ∧ zs.all (okc limit) = true := by
  unfold chk at h
  split at h
  · omega
  · cases hz : zs.all (okc limit) <;> rw [hz] at h <;> simp at h
    exact ⟨by omega, by omega, rfl⟩
theorem take_snoc {zs : List Int} {k : Nat} {z : Int} (hk : k < zs.length) (hz : z = zs.getD k 0) : zs.take (k + 1) = zs.take k ++ [z] := by
  rw [List.take_succ_eq_append_getElem hk]
  have : zs.getD k 0 = zs[k] := by simp [List.getD, hk]
  rw [hz, this]
theorem fold_snoc {f : Int → Int → Int} {s : Int} {zs : List Int} {k : Nat} {z : Int} (hk : k < zs.length) (hz : z = zs.getD k 0) : (zs.take (k + 1)).foldl f s = f ((zs.take k).foldl f s) z := by
  rw [take_snoc hk hz, List.foldl_append]; rfl
theorem okc_get {limit : Int} {zs : List Int} {k : Nat} {z : Int} (h : zs.all (okc limit) = true) (hk : k < zs.length) (hz : z = zs.getD k 0) : -1 ≤ z ∧ z ≤ limit := by
  have e : zs.getD k 0 = zs[k] := by simp [List.getD, hk]
  rw [List.all_eq_true] at h
  have := h z (by rw [hz, e]; exact List.getElem_mem hk)
  simp [okc] at this; exact this
theorem added_ok {l a b : Int} (hl : 0 ≤ l) (ha : -1 ≤ a) (ha2 : a ≤ l) (hb : -1 ≤ b) (hb2 : b ≤ l) : -1 ≤ added l a b ∧ added l a b ≤ l := by
  unfold added; split <;> omega
theorem fold_bound {limit : Int} (hl : 0 ≤ limit) : ∀ (zs : List Int) (s : Int), -1 ≤ s → s ≤ limit → zs.all (okc limit) = true → -1 ≤ zs.foldl (added limit) s ∧ zs.foldl (added limit) s ≤ limit := by
  intro zs
  induction zs with
  | nil => intro s h1 h2 _; exact ⟨h1, h2⟩
  | cons z r ih =>
    intro s h1 h2 h
    simp only [List.all_cons, Bool.and_eq_true] at h
    obtain ⟨hz, hr⟩ := h
    simp [okc] at hz
    have := added_ok hl h1 h2 hz.1 hz.2
    exact ih _ this.1 this.2 hr
theorem all_take {p : Int → Bool} {zs : List Int} (k : Nat) (h : zs.all p = true) : (zs.take k).all p = true := by
  rw [List.all_eq_true] at h ⊢
  intro x hx; exact h x (List.mem_of_mem_take hx)

theorem rtwo {k k2 : IntKind} {a b c d : Int} (h : a = b) (h2 : c = d) : Ending.returned (.tuple #[.int k a, .int k2 c]) = .returned (.tuple #[.int k b, .int k2 d]) := by rw [h, h2]
theorem lesser_ok {a b l : Int} (ha : -1 ≤ a) (ha2 : a ≤ 1048576) (hb : -1 ≤ b) (hb2 : b ≤ l) (hl : l ≤ 1048576) : -1 ≤ lesser a b ∧ lesser a b ≤ 1048576 := by
  unfold lesser; split
  · omega
  · split <;> omega

set_option maxHeartbeats 400000 in
theorem least_any (limit : Int) (a : Option Addr) (cap : Nat) (zs : List Int) (w : World) (hm : zs.length ≤ maxLen) (hrow : Row w a zs) :
    Calls Tryd.prog 7 #[.int .i64 limit, .slice a zs.length cap] w fun e w' => e = .returned (.tuple #[.int .i64 (leastR limit zs), .int .i64 (chk limit zs)]) ∧ w = w' := by
  have HM := Lib.hid hm
  unfold maxLen at hm
  by_cases hc0 : chk limit zs = 0
  · obtain ⟨hl0, hl1, hall⟩ := chk_zero hc0
    have e1 : leastR limit zs = leastOf zs := by simp [leastR, hc0]
    have H1 := Lib.hid e1
    have H0 := Lib.hid hc0
    have HALL := Lib.hid hall
    have HROW := Lib.hid hrow
    clear e1 hc0 hall hrow
    go_enter Tryd.func7, Tryd.ntmps7
    go_wp2_with (go_at_call 9; refine (checkAll_any _ _ _ _ _ HM.out HROW.out).mono ?_; rintro e w' ⟨rfl, rfl⟩; rw [H0.out])
    go_loop [7, 18] (fun m i => ∃ k : Nat, k ≤ zs.length ∧ i = .int .i64 k ∧ ∃ s : Int, m = .int .i64 s ∧ -1 ≤ s ∧ s ≤ 1048576 ∧ Hid (s = (zs.take k).foldl lesser (-1))) (fun _ i => zs.length - (intOf i).toNat)
    case atStart => exact ⟨0, Nat.zero_le _, rfl, _, rfl, by omega, by omega, by simp [Hid]⟩
    case round =>
      obtain ⟨k, hk, rfl, s, rfl, hs1, hs2, HS⟩ := hrel
      by_cases hlt : k < zs.length
      · rcases HROW.out with h | ⟨b, off, rfl, hc⟩
        · subst h; simp at hlt
        have hck := hc k hlt
        obtain ⟨z, hz⟩ : ∃ z, z = zs.getD k 0 := ⟨_, rfl⟩
        rw [← hz] at hck
        obtain ⟨hz1, hz2⟩ := okc_get HALL.out hlt hz
        have hs' : -1 ≤ lesser s z ∧ lesser s z ≤ 1048576 := lesser_ok hs1 hs2 hz1 hz2 hl1
        have HZ := Lib.hid hz; clear hz hc HROW
        go_wp2_with (go_at_call 14; refine (lesser_any _ _ _).mono ?_; rintro e w' ⟨rfl, rfl⟩)
        go_round
        case rel => exact ⟨k + 1, by omega, by go_num, _, rfl, hs'.1, hs'.2, by rw [HS.out]; exact (fold_snoc hlt HZ.out).symm⟩
        case measure => simp [intOf]; omega
      · have HE : Hid (s = leastR limit zs) := by rw [H1.out, HS.out, List.take_of_length_le (by omega)]; rfl
        have HROW2 := HROW
        clear HROW
        go_wp2
        go_ret2
        exact ⟨rtwo HE.out H0.out.symm, rfl⟩
  · have e1 : leastR limit zs = 0 := by simp [leastR, hc0]
    have H1 := Lib.hid e1
    have HROW := Lib.hid hrow
    have hne : (chk limit zs != 0) = true := by simpa using hc0
    obtain ⟨c, hcc⟩ : ∃ c, c = chk limit zs := ⟨_, rfl⟩
    rw [← hcc] at hne
    have HC := Lib.hid hcc
    clear e1 hc0 hrow hcc
    go_enter Tryd.func7, Tryd.ntmps7
    go_wp2_with (go_at_call 9; refine (checkAll_any _ _ _ _ _ HM.out HROW.out).mono ?_; rintro e w' ⟨rfl, rfl⟩; rw [← HC.out])
    go_ret2
    exact ⟨rtwo H1.out.symm HC.out, rfl⟩

set_option maxHeartbeats 400000 in
theorem sum_any (limit : Int) (a : Option Addr) (cap : Nat) (zs : List Int) (w : World) (hm : zs.length ≤ maxLen) (hrow : Row w a zs) :
    Calls Tryd.prog 8 #[.int .i64 limit, .slice a zs.length cap] w fun e w' => e = .returned (.tuple #[.int .i64 (sumR limit zs), .int .i64 (chk limit zs)]) ∧ w = w' := by
  have HM := Lib.hid hm
  unfold maxLen at hm
  by_cases hc0 : chk limit zs = 0
  · obtain ⟨hl0, hl1, hall⟩ := chk_zero hc0
    have e1 : sumR limit zs = sumOf limit zs := by simp [sumR, hc0]
    have H1 := Lib.hid e1
    have H0 := Lib.hid hc0
    have HALL := Lib.hid hall
    have HROW := Lib.hid hrow
    clear e1 hc0 hall hrow
    go_enter Tryd.func8, Tryd.ntmps8
    go_wp2_with (go_at_call 9; refine (checkAll_any _ _ _ _ _ HM.out HROW.out).mono ?_; rintro e w' ⟨rfl, rfl⟩; rw [H0.out])
    go_loop [7, 18] (fun m i => ∃ k : Nat, k ≤ zs.length ∧ i = .int .i64 k ∧ ∃ s : Int, m = .int .i64 s ∧ -1 ≤ s ∧ s ≤ limit ∧ Hid (s = (zs.take k).foldl (added limit) 0)) (fun _ i => zs.length - (intOf i).toNat)
    case atStart => exact ⟨0, Nat.zero_le _, rfl, _, rfl, by omega, by omega, by simp [Hid]⟩
    case round =>
      obtain ⟨k, hk, rfl, s, rfl, hs1, hs2, HS⟩ := hrel
      by_cases hlt : k < zs.length
      · rcases HROW.out with h | ⟨b, off, rfl, hc⟩
        · subst h; simp at hlt
        have hck := hc k hlt
        obtain ⟨z, hz⟩ : ∃ z, z = zs.getD k 0 := ⟨_, rfl⟩
        rw [← hz] at hck
        obtain ⟨hz1, hz2⟩ := okc_get HALL.out hlt hz
        have hs' : -1 ≤ added limit s z ∧ added limit s z ≤ limit := added_ok hl0 hs1 hs2 hz1 hz2
        have HZ := Lib.hid hz; clear hz hc HROW
        go_wp2_with (go_at_call 15; refine (added_any _ _ _ _ ⟨by omega, by omega⟩).mono ?_; rintro e w' ⟨rfl, rfl⟩)
        go_round
        case rel => exact ⟨k + 1, by omega, by go_num, _, rfl, hs'.1, hs'.2, by rw [HS.out]; exact (fold_snoc hlt HZ.out).symm⟩
        case measure => simp [intOf]; omega
      · have HE : Hid (s = sumR limit zs) := by rw [H1.out, HS.out, List.take_of_length_le (by omega)]; rfl
        have HROW2 := HROW
        clear HROW
        go_wp2
        go_ret2
        exact ⟨rtwo HE.out H0.out.symm, rfl⟩
  · have e1 : sumR limit zs = 0 := by simp [sumR, hc0]
    have H1 := Lib.hid e1
    have HROW := Lib.hid hrow
    have hne : (chk limit zs != 0) = true := by simpa using hc0
    obtain ⟨c, hcc⟩ : ∃ c, c = chk limit zs := ⟨_, rfl⟩
    rw [← hcc] at hne
    have HC := Lib.hid hcc
    clear e1 hc0 hrow hcc
    go_enter Tryd.func8, Tryd.ntmps8
    go_wp2_with (go_at_call 9; refine (checkAll_any _ _ _ _ _ HM.out HROW.out).mono ?_; rintro e w' ⟨rfl, rfl⟩; rw [← HC.out])
    go_ret2
    exact ⟨rtwo H1.out.symm HC.out, rfl⟩

end Go.Proofs.YtccmgbbpihaapabDoor
