/-
  THE COST LAYER: the loops: checkAll and the reference's Check: what the checks answer; Least, Sum and the reference's Least, Sum.
-/
import Derived.Test.YtccmgbbpihaapabDoorCostBase
namespace Go.Proofs.YtccmgbbpihaapabDoor
open Go.RowKit
set_option linter.unusedVariables false

theorem take_all_succ {p : Int → Bool} {zs : List Int} {k : Nat} {z : Int} (hk : k < zs.length) (hz : z = zs.getD k 0) (h : (zs.take k).all p = true) (hp : p z = true) : (zs.take (k + 1)).all p = true := by
  rw [List.take_succ_eq_append_getElem hk, List.all_append, h]
  have : zs.getD k 0 = zs[k] := by simp [List.getD, hk]
  rw [this] at hz
  simp [← hz, hp]
theorem all_false {p : Int → Bool} {zs : List Int} {k : Nat} {z : Int} (hk : k < zs.length) (hz : z = zs.getD k 0) (hp : p z = false) : zs.all p = false := by
  have : zs.getD k 0 = zs[k] := by simp [List.getD, hk]
  rw [this] at hz
  rw [List.all_eq_false]
  exact ⟨zs[k], List.getElem_mem hk, by rw [← hz, hp]; simp⟩
theorem chk_bad {limit : Int} {zs : List Int} {k : Nat} {z : Int} (h0 : 0 ≤ limit) (h1 : limit ≤ 1048576) (hk : k < zs.length) (hz : z = zs.getD k 0) (hp : okc limit z = false) : chk limit zs = 21 := by
  unfold chk; rw [if_neg (by omega), all_false hk hz hp]; rfl
theorem chk_good {limit : Int} {zs : List Int} {k : Nat} (h0 : 0 ≤ limit) (h1 : limit ≤ 1048576) (hk : zs.length ≤ k) (h : (zs.take k).all (okc limit) = true) : chk limit zs = 0 := by
  rw [List.take_of_length_le hk] at h
  unfold chk; rw [if_neg (by omega), h]; rfl
theorem okc_lo {l z : Int} (h : z < -1) : okc l z = false := by simp [okc]; omega
theorem okc_hi {l z : Int} (h : l < z) : okc l z = false := by simp [okc]; omega
theorem okc_in {l z : Int} (h : -1 ≤ z) (h2 : z ≤ l) : okc l z = true := by simp [okc]; omega

set_option maxHeartbeats 400000 in
theorem checkAll_any (limit : Int) (a : Option Addr) (cap : Nat) (zs : List Int) (w : World) (hm : zs.length ≤ maxLen) (hrow : Row w a zs) :
    Calls Tryd.prog 9 #[.int .i64 limit, .slice a zs.length cap] w fun e w' => e = .returned (.int .i64 (chk limit zs)) ∧ w = w' := by
  unfold maxLen at hm
  by_cases h0 : limit < 0
  · have e1 : chk limit zs = 20 := by simp [chk, h0]
    have H := Lib.hid e1; clear e1
    go_enter Tryd.func9, Tryd.ntmps9
    go_wp2
    go_ret
    exact ⟨rint H.out.symm, rfl⟩
  by_cases h1 : 1048576 < limit
  · have e1 : chk limit zs = 20 := by simp [chk, h1]
    have H := Lib.hid e1; clear e1
    go_enter Tryd.func9, Tryd.ntmps9
    go_wp2
    go_ret
    exact ⟨rint H.out.symm, rfl⟩
  have h0' : 0 ≤ limit := by omega
  have h1' : limit ≤ 1048576 := by omega
  clear h0 h1
  go_enter Tryd.func9, Tryd.ntmps9
  go_wp2
  go_loop [15] (fun i => ∃ k : Nat, k ≤ zs.length ∧ i = .int .i64 k ∧ Hid ((zs.take k).all (okc limit) = true)) (fun i => zs.length - (intOf i).toNat)
  case atStart => exact ⟨0, Nat.zero_le _, rfl, by simp [Hid]⟩
  case round =>
    obtain ⟨k, hk, rfl, HA⟩ := hrel
    by_cases hlt : k < zs.length
    · rcases hrow with h | ⟨b, off, rfl, hc⟩
      · subst h; simp at hlt
      have hck := hc k hlt
      obtain ⟨z, hz⟩ : ∃ z, z = zs.getD k 0 := ⟨_, rfl⟩
      rw [← hz] at hck
      have HZ := Lib.hid hz; clear hz hc
      by_cases h2 : z < -1
      · have H := Lib.hid (chk_bad h0' h1' hlt HZ.out (okc_lo h2))
        go_wp2
        go_ret
        exact ⟨rint H.out.symm, rfl⟩
      by_cases h3 : limit < z
      · have H := Lib.hid (chk_bad h0' h1' hlt HZ.out (okc_hi h3))
        go_wp2
        go_ret
        exact ⟨rint H.out.symm, rfl⟩
      have H := Lib.hid (take_all_succ hlt HZ.out HA.out (okc_in (by omega) (by omega)))
      have h2' : -1 ≤ z := by omega
      have h3' : z ≤ limit := by omega
      clear h2 h3
      go_wp2
      go_round
      case rel => exact ⟨k + 1, by omega, by go_num, H⟩
      case measure => simp [intOf]; omega
    · have H := Lib.hid (chk_good h0' h1' (by omega) HA.out)
      go_wp2
      go_ret
      exact ⟨rint H.out.symm, rfl⟩

end Go.Proofs.YtccmgbbpihaapabDoor
