/-
  THE COST LAYER: the program's reader: what it takes.
-/
import Derived.Test.YtccmgbbpihaapabDoorCostRd
namespace Go.Proofs.YtccmgbbpihaapabDoor
open Go.RowKit
set_option linter.unusedVariables false

set_option maxRecDepth 100000 in
set_option maxHeartbeats 2000000 in
theorem digit_yes (B : Nat) (limit st c le d : Int) (w : World) (hr : RdAt w B limit st c le) (hc0 : 0 ≤ c) (hc1 : c ≤ 1048576) (hd0 : 0 ≤ d) (hd1 : d ≤ 9) (h2 : ¬ st = 2) (h3 : ¬ (st = 1 ∧ c = 0)) (h4 : ¬ limit < 10 * c + d) :
    Calls Tryd.prog 11 #[.pointer (some ⟨B, 0, none⟩), .int .i64 d] w fun e w' => e = .returned (.bool true) ∧ RdPost w w' B limit 1 (10 * c + d) le := by
  obtain ⟨c0, c1, c2, c3, cf⟩ := rd_cells hr
  have f1 := cf 1; have f2 := cf 2
  have HR := Lib.hid hr
  clear hr cf
  have e1 : (st == 2) = false := by simp [h2]
  have hw1 : IntKind.i64.wrap (10 * c) = 10 * c := by simp [IntKind.wrap, IntKind.signed, IntKind.bits]; omega
  have hw2 : IntKind.i64.wrap (10 * c + d) = 10 * c + d := by simp [IntKind.wrap, IntKind.signed, IntKind.bits]; omega
  by_cases h5 : st = 1
  · have e2 : (st == 1) = true := by simp [h5]
    have e3 : (c == 0) = false := by simp; intro h; exact h3 ⟨h5, h⟩
    clear h2 h3 h5
    go_enter Tryd.func11, Tryd.ntmps11
    go_wp2
    go_quiet (fail)
    go_wp2
    go_ret
    exact ⟨rfl, rd_set (rd_set (rd_drew HR.out _) 1 1 rfl) 2 _ rfl⟩
  · have e2 : (st == 1) = false := by simp [h5]
    clear h2 h3 h5
    go_enter Tryd.func11, Tryd.ntmps11
    go_wp2
    go_quiet (fail)
    go_wp2
    go_ret
    exact ⟨rfl, rd_set (rd_set (rd_drew HR.out _) 1 1 rfl) 2 _ rfl⟩

def noneAt : Nat → Int
  | 0 => 110
  | 1 => 111
  | 2 => 110
  | _ => 101
theorem ch0 : wrap32 ((({ data := #[110, 111, 110, 101] } : ByteArray)[0]'(by decide)).toNat : Int) = 110 := by kernel_rfl
theorem ch1 : wrap32 ((({ data := #[110, 111, 110, 101] } : ByteArray)[1]'(by decide)).toNat : Int) = 111 := by kernel_rfl
theorem ch2 : wrap32 ((({ data := #[110, 111, 110, 101] } : ByteArray)[2]'(by decide)).toNat : Int) = 110 := by kernel_rfl
theorem ch3 : wrap32 ((({ data := #[110, 111, 110, 101] } : ByteArray)[3]'(by decide)).toNat : Int) = 101 := by kernel_rfl
set_option maxRecDepth 100000 in
set_option maxHeartbeats 2000000 in
theorem letter_yes (B : Nat) (limit st c : Int) (e : Nat) (r : Int) (w : World) (hr : RdAt w B limit st c e) (he : e < 4) (h1 : ¬ st = 1) (hm : noneAt e = r) :
    Calls Tryd.prog 12 #[.pointer (some ⟨B, 0, none⟩), .int .i32 r] w fun x w' => x = .returned (.bool true) ∧ RdPost w w' B limit 2 c ((e + 1 : Nat) : Int) := by
  obtain ⟨c0, c1, c2, c3, cf⟩ := rd_cells hr
  have f1 := cf 1; have f3 := cf 3
  have HR := Lib.hid hr
  clear hr cf
  have e1 : (st == 1) = false := by simp [h1]
  clear h1
  subst hm
  rcases (by omega : e = 0 ∨ e = 1 ∨ e = 2 ∨ e = 3) with rfl | rfl | rfl | rfl
  all_goals
    simp only [noneAt] at *
    have hcmp0 : (wrap32 ((({ data := #[110, 111, 110, 101] } : ByteArray)[0]'(by decide)).toNat : Int) != 110) = false := by rw [ch0]; rfl
    have hcmp1 : (wrap32 ((({ data := #[110, 111, 110, 101] } : ByteArray)[1]'(by decide)).toNat : Int) != 111) = false := by rw [ch1]; rfl
    have hcmp2 : (wrap32 ((({ data := #[110, 111, 110, 101] } : ByteArray)[2]'(by decide)).toNat : Int) != 110) = false := by rw [ch2]; rfl
    have hcmp3 : (wrap32 ((({ data := #[110, 111, 110, 101] } : ByteArray)[3]'(by decide)).toNat : Int) != 101) = false := by rw [ch3]; rfl
    go_enter Tryd.func12, Tryd.ntmps12
    go_wp2
    go_ret
    exact ⟨rfl, rd_set (rd_set ⟨HR.out, fun _ _ => rfl, Below.refl _ _⟩ 1 2 rfl) 3 _ rfl⟩

set_option maxRecDepth 100000 in
set_option maxHeartbeats 2000000 in
theorem letter_no (B : Nat) (limit st c : Int) (e : Nat) (r : Int) (w : World) (hr : RdAt w B limit st c e) (he : e ≤ 4) (hno : st = 1 ∨ e = 4 ∨ noneAt e ≠ r) :
    Calls Tryd.prog 12 #[.pointer (some ⟨B, 0, none⟩), .int .i32 r] w fun x w' => x = .returned (.bool false) ∧ RdPost w w' B limit st c e := by
  obtain ⟨c0, c1, c2, c3, cf⟩ := rd_cells hr
  have HR := Lib.hid hr
  clear hr cf
  by_cases h1 : st = 1
  · have e1 : (st == 1) = true := by simp [h1]
    clear hno h1
    go_enter Tryd.func12, Tryd.ntmps12
    go_wp2
    go_ret
    exact ⟨rfl, ⟨HR.out, fun _ _ => rfl, Below.refl _ _⟩⟩
  have e1 : (st == 1) = false := by simp [h1]
  by_cases h4 : e = 4
  · subst h4
    clear hno h1
    go_enter Tryd.func12, Tryd.ntmps12
    go_wp2
    go_ret
    exact ⟨rfl, ⟨HR.out, fun _ _ => rfl, Below.refl _ _⟩⟩
  have hm : noneAt e ≠ r := by
    rcases hno with h | h | h
    · exact absurd h h1
    · exact absurd h h4
    · exact h
  clear hno h1
  rcases (by omega : e = 0 ∨ e = 1 ∨ e = 2 ∨ e = 3) with rfl | rfl | rfl | rfl
  all_goals
    simp only [noneAt] at *
    first
    | have hcmp : (wrap32 ((({ data := #[110, 111, 110, 101] } : ByteArray)[0]'(by decide)).toNat : Int) != r) = true := by rw [ch0]; simpa using hm
    | have hcmp9 : True := trivial
    first
    | have hcmp1 : (wrap32 ((({ data := #[110, 111, 110, 101] } : ByteArray)[1]'(by decide)).toNat : Int) != r) = true := by rw [ch1]; simpa using hm
    | have hcmp8 : True := trivial
    first
    | have hcmp2 : (wrap32 ((({ data := #[110, 111, 110, 101] } : ByteArray)[2]'(by decide)).toNat : Int) != r) = true := by rw [ch2]; simpa using hm
    | have hcmp7 : True := trivial
    first
    | have hcmp3 : (wrap32 ((({ data := #[110, 111, 110, 101] } : ByteArray)[3]'(by decide)).toNat : Int) != r) = true := by rw [ch3]; simpa using hm
    | have hcmp6 : True := trivial
    go_enter Tryd.func12, Tryd.ntmps12
    go_wp2
    go_ret
    exact ⟨rfl, ⟨HR.out, fun _ _ => rfl, Below.refl _ _⟩⟩

theorem done_any (B : Nat) (limit st c : Int) (e : Nat) (w : World) (hr : RdAt w B limit st c e) :
    Calls Tryd.prog 13 #[.pointer (some ⟨B, 0, none⟩)] w fun x w' => x = .returned (.bool (decide (st = 1) || decide (e = 4))) ∧ RdPost w w' B limit st c e := by
  obtain ⟨c0, c1, c2, c3, cf⟩ := rd_cells hr
  have HR := Lib.hid hr
  clear hr cf
  by_cases h1 : st = 1
  · have e1 : (st == 1) = true := by simp [h1]
    have HX : Hid ((decide (st = 1) || decide (e = 4)) = true) := by show _ = _; simp [h1]
    clear h1
    go_enter Tryd.func13, Tryd.ntmps13
    go_wp2
    go_ret
    exact ⟨by rw [HX.out]; rfl, ⟨HR.out, fun _ _ => rfl, Below.refl _ _⟩⟩
  · have e1 : (st == 1) = false := by simp [h1]
    by_cases h4 : e = 4
    · have e2 : ((e : Int) == 4) = true := by simp; omega
      have HX : Hid ((decide (st = 1) || decide (e = 4)) = true) := by show _ = _; simp [h4]
      clear h1 h4
      go_enter Tryd.func13, Tryd.ntmps13
      go_wp2
      go_ret
      exact ⟨by rw [HX.out]; rfl, ⟨HR.out, fun _ _ => rfl, Below.refl _ _⟩⟩
    · have e2 : ((e : Int) == 4) = false := by simp; omega
      have HX : Hid ((decide (st = 1) || decide (e = 4)) = false) := by show _ = _; simp [h1, h4]
      clear h1 h4
      go_enter Tryd.func13, Tryd.ntmps13
      go_wp2
      go_ret
      exact ⟨by rw [HX.out]; rfl, ⟨HR.out, fun _ _ => rfl, Below.refl _ _⟩⟩
end Go.Proofs.YtccmgbbpihaapabDoor
