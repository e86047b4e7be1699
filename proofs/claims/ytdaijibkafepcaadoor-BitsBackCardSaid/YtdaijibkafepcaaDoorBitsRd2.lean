/-
  THE BITS LAYER: the reader of a set's text: digit and take.
-/
import Derived.Test.YtdaijibkafepcaaDoorBitsRd
namespace Go.Proofs.YtdaijibkafepcaaDoor
open Go.RowKit
set_option linter.unusedVariables false

theorem rbt {a b : Bool} (h : a = b) : Ending.returned (.bool a) = .returned (.bool b) := by rw [h]

set_option maxRecDepth 100000 in
set_option maxHeartbeats 1000000 in
theorem digit_first1 (B : Nat) (last now : Int) (set : Nat) (d : Int) (w : World) (hr : RdAt w B 1 last now set) (hd0 : 0 ≤ d) (hd1 : d ≤ 9) (r : Bool) (h : growsB last d = r) :
    Calls Tryd.prog 85 #[.pointer (some ⟨B, 0, none⟩), .int .i64 d] w fun e w' => e = .returned (.bool r) ∧ RdPost w w' B 3 last d set := by
  obtain ⟨c0, c1, c2, c3, cf⟩ := rd_cells hr
  have f0 := cf 0; have f1 := cf 1; have f2 := cf 2; have f3 := cf 3
  have HR := Lib.hid hr
  clear hr cf
  have H := Lib.hid h
  clear h
  have P1 := Lib.hid (rd_set (st2 := 3) (last2 := last) (now2 := d) (set2 := set) (rd_set (st2 := 1) (last2 := last) (now2 := d) (set2 := set) (rd_refl HR.out) 2 (.int .i64 d) rfl) 0 (.int .i64 3) rfl)
  obtain ⟨d0, d1, d2, d3, df⟩ := rd_cells P1.out.at_
  clear df
  go_enter Tryd.func85, Tryd.ntmps85
  go_wp2_with fail
  refine (grows_is B 3 last d set d _ P1.out.at_ hd0 (by omega) r H.out).mono ?_
  rintro e w1 ⟨rfl, rfl⟩
  go_wp2
  go_ret
  exact ⟨rfl, P1.out⟩
set_option maxRecDepth 100000 in
set_option maxHeartbeats 1000000 in
theorem digit_first2 (B : Nat) (last now : Int) (set : Nat) (d : Int) (w : World) (hr : RdAt w B 2 last now set) (hd0 : 0 ≤ d) (hd1 : d ≤ 9) (r : Bool) (h : growsB last d = r) :
    Calls Tryd.prog 85 #[.pointer (some ⟨B, 0, none⟩), .int .i64 d] w fun e w' => e = .returned (.bool r) ∧ RdPost w w' B 3 last d set := by
  obtain ⟨c0, c1, c2, c3, cf⟩ := rd_cells hr
  have f0 := cf 0; have f1 := cf 1; have f2 := cf 2; have f3 := cf 3
  have HR := Lib.hid hr
  clear hr cf
  have H := Lib.hid h
  clear h
  have P1 := Lib.hid (rd_set (st2 := 3) (last2 := last) (now2 := d) (set2 := set) (rd_set (st2 := 2) (last2 := last) (now2 := d) (set2 := set) (rd_refl HR.out) 2 (.int .i64 d) rfl) 0 (.int .i64 3) rfl)
  obtain ⟨d0, d1, d2, d3, df⟩ := rd_cells P1.out.at_
  clear df
  go_enter Tryd.func85, Tryd.ntmps85
  go_wp2_with fail
  refine (grows_is B 3 last d set d _ P1.out.at_ hd0 (by omega) r H.out).mono ?_
  rintro e w1 ⟨rfl, rfl⟩
  go_wp2
  go_ret
  exact ⟨rfl, P1.out⟩
set_option maxRecDepth 100000 in
set_option maxHeartbeats 1000000 in
theorem digit_more (B : Nat) (last now : Int) (set : Nat) (d : Int) (w : World) (hr : RdAt w B 3 last now set) (hd0 : 0 ≤ d) (hd1 : d ≤ 9) (hn0 : 0 < now) (hn1 : now ≤ 63) (r : Bool) (h : growsB last (10 * now + d) = r) :
    Calls Tryd.prog 85 #[.pointer (some ⟨B, 0, none⟩), .int .i64 d] w fun e w' => e = .returned (.bool r) ∧ RdPost w w' B 3 last (10 * now + d) set := by
  obtain ⟨c0, c1, c2, c3, cf⟩ := rd_cells hr
  have f0 := cf 0; have f1 := cf 1; have f2 := cf 2; have f3 := cf 3
  have HR := Lib.hid hr
  clear hr cf
  have H := Lib.hid h
  clear h
  have hne : (now == 0) = false := by simp; omega
  have P1 := Lib.hid (rd_set (st2 := 3) (last2 := last) (now2 := 10 * now + d) (set2 := set) (rd_set (st2 := 3) (last2 := last) (now2 := 10 * now + d) (set2 := set) (rd_refl HR.out) 2 (.int .i64 (10 * now + d)) rfl) 0 (.int .i64 3) rfl)
  obtain ⟨d0, d1, d2, d3, df⟩ := rd_cells P1.out.at_
  clear df
  go_enter Tryd.func85, Tryd.ntmps85
  go_wp2_with fail
  refine (grows_is B 3 last (10 * now + d) set (10 * now + d) _ P1.out.at_ (by omega) (by omega) r H.out).mono ?_
  rintro e w1 ⟨rfl, rfl⟩
  go_wp2
  go_ret
  exact ⟨rfl, P1.out⟩
set_option maxRecDepth 100000 in
set_option maxHeartbeats 1000000 in
theorem digit_no (B : Nat) (st last now : Int) (set : Nat) (d : Int) (w : World) (hr : RdAt w B st last now set) (hst : st = 0 ∨ st = 4 ∨ (st = 3 ∧ now = 0)) :
    Calls Tryd.prog 85 #[.pointer (some ⟨B, 0, none⟩), .int .i64 d] w fun e w' => e = .returned (.bool false) ∧ RdPost w w' B st last now set := by
  obtain ⟨c0, c1, c2, c3, cf⟩ := rd_cells hr
  have f0 := cf 0; have f1 := cf 1; have f2 := cf 2; have f3 := cf 3
  have HR := Lib.hid hr
  clear hr cf
  rcases hst with rfl | rfl | ⟨rfl, rfl⟩
  all_goals
    go_enter Tryd.func85, Tryd.ntmps85
    go_wp2
    go_ret
    exact ⟨rfl, rd_refl HR.out⟩
set_option maxRecDepth 100000 in
set_option maxHeartbeats 1000000 in
theorem take_open (B : Nat) (last now : Int) (set : Nat) (w : World) :
    RdAt w B 0 last now set → Calls Tryd.prog 66 #[.pointer (some ⟨B, 0, none⟩), .int .u8 123] w fun e w' => e = .returned (.bool true) ∧ RdPost w w' B 1 last now set := by
  intro hr
  obtain ⟨c0, c1, c2, c3, cf⟩ := rd_cells hr
  have f0 := cf 0; have f1 := cf 1; have f2 := cf 2; have f3 := cf 3
  have HR := Lib.hid hr
  clear hr cf
  go_enter Tryd.func66, Tryd.ntmps66
  go_wp2
  go_ret
  exact ⟨rfl, rd_set (rd_refl HR.out) 0 (.int .i64 1) rfl⟩
set_option maxRecDepth 100000 in
set_option maxHeartbeats 1000000 in
theorem take_open_no (B : Nat) (st last now : Int) (set : Nat) (hst : st = 1 ∨ st = 2 ∨ st = 3 ∨ st = 4) (w : World) :
    RdAt w B st last now set → Calls Tryd.prog 66 #[.pointer (some ⟨B, 0, none⟩), .int .u8 123] w fun e w' => e = .returned (.bool false) ∧ RdPost w w' B st last now set := by
  intro hr
  obtain ⟨c0, c1, c2, c3, cf⟩ := rd_cells hr
  have f0 := cf 0; have f1 := cf 1; have f2 := cf 2; have f3 := cf 3
  have HR := Lib.hid hr
  clear hr cf
  rcases hst with rfl | rfl | rfl | rfl
  all_goals
    go_enter Tryd.func66, Tryd.ntmps66
    go_wp2
    go_ret
    exact ⟨rfl, rd_refl HR.out⟩
set_option maxRecDepth 100000 in
set_option maxHeartbeats 1000000 in
theorem take_end (B : Nat) (last now : Int) (set : Nat) (w : World) :
    RdAt w B 1 last now set → Calls Tryd.prog 66 #[.pointer (some ⟨B, 0, none⟩), .int .u8 125] w fun e w' => e = .returned (.bool true) ∧ RdPost w w' B 4 last now set := by
  intro hr
  obtain ⟨c0, c1, c2, c3, cf⟩ := rd_cells hr
  have f0 := cf 0; have f1 := cf 1; have f2 := cf 2; have f3 := cf 3
  have HR := Lib.hid hr
  clear hr cf
  go_enter Tryd.func66, Tryd.ntmps66
  go_wp2
  go_ret
  exact ⟨rfl, rd_set (rd_refl HR.out) 0 (.int .i64 4) rfl⟩
set_option maxRecDepth 100000 in
set_option maxHeartbeats 1000000 in
theorem take_end_num (B : Nat) (last now : Int) (set : Nat) (hc : closeOk last now = true) (hn : 0 ≤ now) (hset : set < 18446744073709551616) (w : World) :
    RdAt w B 3 last now set → Calls Tryd.prog 66 #[.pointer (some ⟨B, 0, none⟩), .int .u8 125] w fun e w' => e = .returned (.bool true) ∧ RdPost w w' B 4 now now (set ||| 2 ^ now.toNat) := by
  intro hr
  obtain ⟨c0, c1, c2, c3, cf⟩ := rd_cells hr
  have f0 := cf 0; have f1 := cf 1; have f2 := cf 2; have f3 := cf 3
  have HR := Lib.hid hr
  clear hr cf
  have HC := Lib.hid hc
  clear hc
  go_enter Tryd.func66, Tryd.ntmps66
  go_wp2_with fail
  refine (close_yes B 3 last now set _ HR.out HC.out hn hset).mono ?_
  rintro e w1 ⟨rfl, post⟩
  have P := Lib.hid post
  obtain ⟨d0, d1, d2, d3, df⟩ := rd_cells post.at_
  have g0 := df 0
  clear post df c0 c1 c2 c3 f0 f1 f2 f3
  go_wp2
  go_ret
  exact ⟨rfl, rd_set P.out 0 (.int .i64 4) rfl⟩
set_option maxRecDepth 100000 in
set_option maxHeartbeats 1000000 in
theorem take_end_no (B : Nat) (st last now : Int) (set : Nat) (hst : st = 0 ∨ st = 2 ∨ st = 4) (w : World) :
    RdAt w B st last now set → Calls Tryd.prog 66 #[.pointer (some ⟨B, 0, none⟩), .int .u8 125] w fun e w' => e = .returned (.bool false) ∧ RdPost w w' B st last now set := by
  intro hr
  obtain ⟨c0, c1, c2, c3, cf⟩ := rd_cells hr
  have f0 := cf 0; have f1 := cf 1; have f2 := cf 2; have f3 := cf 3
  have HR := Lib.hid hr
  clear hr cf
  rcases hst with rfl | rfl | rfl
  all_goals
    go_enter Tryd.func66, Tryd.ntmps66
    go_wp2
    go_ret
    exact ⟨rfl, rd_refl HR.out⟩
set_option maxRecDepth 100000 in
set_option maxHeartbeats 1000000 in
theorem take_end_bad (B : Nat) (last now : Int) (set : Nat) (hc : closeOk last now = false) (w : World) :
    RdAt w B 3 last now set → Calls Tryd.prog 66 #[.pointer (some ⟨B, 0, none⟩), .int .u8 125] w fun e w' => e = .returned (.bool false) ∧ RdPost w w' B 3 last now set := by
  intro hr
  obtain ⟨c0, c1, c2, c3, cf⟩ := rd_cells hr
  have f0 := cf 0; have f1 := cf 1; have f2 := cf 2; have f3 := cf 3
  have HR := Lib.hid hr
  clear hr cf
  have HC := Lib.hid hc
  clear hc
  go_enter Tryd.func66, Tryd.ntmps66
  go_wp2_with fail
  refine (close_no B 3 last now set _ HR.out HC.out).mono ?_
  rintro e w1 ⟨rfl, rfl⟩
  go_wp2
  go_ret
  exact ⟨rfl, rd_refl HR.out⟩
set_option maxRecDepth 100000 in
set_option maxHeartbeats 1000000 in
theorem take_comma (B : Nat) (last now : Int) (set : Nat) (h63 : now < 63) (hc : closeOk last now = true) (hn : 0 ≤ now) (hset : set < 18446744073709551616) (w : World) :
    RdAt w B 3 last now set → Calls Tryd.prog 66 #[.pointer (some ⟨B, 0, none⟩), .int .u8 44] w fun e w' => e = .returned (.bool true) ∧ RdPost w w' B 2 now now (set ||| 2 ^ now.toNat) := by
  intro hr
  obtain ⟨c0, c1, c2, c3, cf⟩ := rd_cells hr
  have f0 := cf 0; have f1 := cf 1; have f2 := cf 2; have f3 := cf 3
  have HR := Lib.hid hr
  clear hr cf
  have HC := Lib.hid hc
  clear hc
  go_enter Tryd.func66, Tryd.ntmps66
  go_wp2_with fail
  refine (close_yes B 3 last now set _ HR.out HC.out hn hset).mono ?_
  rintro e w1 ⟨rfl, post⟩
  have P := Lib.hid post
  obtain ⟨d0, d1, d2, d3, df⟩ := rd_cells post.at_
  have g0 := df 0
  clear post df c0 c1 c2 c3 f0 f1 f2 f3
  go_wp2
  go_ret
  exact ⟨rfl, rd_set P.out 0 (.int .i64 2) rfl⟩
set_option maxRecDepth 100000 in
set_option maxHeartbeats 1000000 in
theorem take_comma_no (B : Nat) (st last now : Int) (set : Nat) (hst : st = 0 ∨ st = 1 ∨ st = 2 ∨ st = 4) (w : World) :
    RdAt w B st last now set → Calls Tryd.prog 66 #[.pointer (some ⟨B, 0, none⟩), .int .u8 44] w fun e w' => e = .returned (.bool false) ∧ RdPost w w' B st last now set := by
  intro hr
  obtain ⟨c0, c1, c2, c3, cf⟩ := rd_cells hr
  have f0 := cf 0; have f1 := cf 1; have f2 := cf 2; have f3 := cf 3
  have HR := Lib.hid hr
  clear hr cf
  rcases hst with rfl | rfl | rfl | rfl
  all_goals
    go_enter Tryd.func66, Tryd.ntmps66
    go_wp2
    go_ret
    exact ⟨rfl, rd_refl HR.out⟩
set_option maxRecDepth 100000 in
set_option maxHeartbeats 1000000 in
theorem take_comma_63 (B : Nat) (last now : Int) (set : Nat) (h63 : 63 ≤ now) (w : World) :
    RdAt w B 3 last now set → Calls Tryd.prog 66 #[.pointer (some ⟨B, 0, none⟩), .int .u8 44] w fun e w' => e = .returned (.bool false) ∧ RdPost w w' B 3 last now set := by
  intro hr
  obtain ⟨c0, c1, c2, c3, cf⟩ := rd_cells hr
  have f0 := cf 0; have f1 := cf 1; have f2 := cf 2; have f3 := cf 3
  have HR := Lib.hid hr
  clear hr cf
  go_enter Tryd.func66, Tryd.ntmps66
  go_wp2
  go_ret
  exact ⟨rfl, rd_refl HR.out⟩
set_option maxRecDepth 100000 in
set_option maxHeartbeats 1000000 in
theorem take_comma_bad (B : Nat) (last now : Int) (set : Nat) (h63 : now < 63) (hc : closeOk last now = false) (w : World) :
    RdAt w B 3 last now set → Calls Tryd.prog 66 #[.pointer (some ⟨B, 0, none⟩), .int .u8 44] w fun e w' => e = .returned (.bool false) ∧ RdPost w w' B 3 last now set := by
  intro hr
  obtain ⟨c0, c1, c2, c3, cf⟩ := rd_cells hr
  have f0 := cf 0; have f1 := cf 1; have f2 := cf 2; have f3 := cf 3
  have HR := Lib.hid hr
  clear hr cf
  have HC := Lib.hid hc
  clear hc
  go_enter Tryd.func66, Tryd.ntmps66
  go_wp2_with fail
  refine (close_no B 3 last now set _ HR.out HC.out).mono ?_
  rintro e w1 ⟨rfl, rfl⟩
  go_wp2
  go_ret
  exact ⟨rfl, rd_refl HR.out⟩
set_option maxRecDepth 100000 in
set_option maxHeartbeats 1000000 in
theorem take_other (B : Nat) (st last now : Int) (set : Nat) (c : Nat) (h1 : c ≠ 123) (h2 : c ≠ 125) (h3 : c ≠ 44) (h4 : c < 48 ∨ 57 < c) (h5 : c < 256) (w : World) :
    RdAt w B st last now set → Calls Tryd.prog 66 #[.pointer (some ⟨B, 0, none⟩), .int .u8 c] w fun e w' => e = .returned (.bool false) ∧ RdPost w w' B st last now set := by
  intro hr
  obtain ⟨c0, c1, c2, c3, cf⟩ := rd_cells hr
  have f0 := cf 0; have f1 := cf 1; have f2 := cf 2; have f3 := cf 3
  have HR := Lib.hid hr
  clear hr cf
  have n1 : ((c : Int) == 123) = false := by simp; omega
  have n2 : ((c : Int) == 125) = false := by simp; omega
  have n3 : ((c : Int) == 44) = false := by simp; omega
  rcases h4 with h4 | h4
  all_goals
    clear h1 h2 h3
    go_enter Tryd.func66, Tryd.ntmps66
    go_wp2
    go_ret
    exact ⟨rfl, rd_refl HR.out⟩
set_option maxRecDepth 100000 in
set_option maxHeartbeats 1000000 in
theorem take_first1 (B : Nat) (last now : Int) (set : Nat) (c : Nat) (h4 : 48 ≤ c) (h5 : c ≤ 57) (r : Bool) (h : growsB last ((c : Int) - 48) = r) (w : World) :
    RdAt w B 1 last now set → Calls Tryd.prog 66 #[.pointer (some ⟨B, 0, none⟩), .int .u8 c] w fun e w' => e = .returned (.bool r) ∧ RdPost w w' B 3 last ((c : Int) - 48) set := by
  intro hr
  obtain ⟨c0, c1, c2, c3, cf⟩ := rd_cells hr
  have f0 := cf 0; have f1 := cf 1; have f2 := cf 2; have f3 := cf 3
  have HR := Lib.hid hr
  clear hr cf
  have n1 : ((c : Int) == 123) = false := by simp; omega
  have n2 : ((c : Int) == 125) = false := by simp; omega
  have n3 : ((c : Int) == 44) = false := by simp; omega
  have H := Lib.hid h
  clear h
  go_enter Tryd.func66, Tryd.ntmps66
  go_wp2_with fail
  refine (digit_first1 B last now set ((c : Int) - 48) _ HR.out (by omega) (by omega) r H.out).mono ?_
  rintro e w1 ⟨rfl, post⟩
  go_wp2
  go_ret
  exact ⟨rfl, post⟩
set_option maxRecDepth 100000 in
set_option maxHeartbeats 1000000 in
theorem take_first2 (B : Nat) (last now : Int) (set : Nat) (c : Nat) (h4 : 48 ≤ c) (h5 : c ≤ 57) (r : Bool) (h : growsB last ((c : Int) - 48) = r) (w : World) :
    RdAt w B 2 last now set → Calls Tryd.prog 66 #[.pointer (some ⟨B, 0, none⟩), .int .u8 c] w fun e w' => e = .returned (.bool r) ∧ RdPost w w' B 3 last ((c : Int) - 48) set := by
  intro hr
  obtain ⟨c0, c1, c2, c3, cf⟩ := rd_cells hr
  have f0 := cf 0; have f1 := cf 1; have f2 := cf 2; have f3 := cf 3
  have HR := Lib.hid hr
  clear hr cf
  have n1 : ((c : Int) == 123) = false := by simp; omega
  have n2 : ((c : Int) == 125) = false := by simp; omega
  have n3 : ((c : Int) == 44) = false := by simp; omega
  have H := Lib.hid h
  clear h
  go_enter Tryd.func66, Tryd.ntmps66
  go_wp2_with fail
  refine (digit_first2 B last now set ((c : Int) - 48) _ HR.out (by omega) (by omega) r H.out).mono ?_
  rintro e w1 ⟨rfl, post⟩
  go_wp2
  go_ret
  exact ⟨rfl, post⟩
set_option maxRecDepth 100000 in
set_option maxHeartbeats 1000000 in
theorem take_more (B : Nat) (last now : Int) (set : Nat) (c : Nat) (h4 : 48 ≤ c) (h5 : c ≤ 57) (hn0 : 0 < now) (hn1 : now ≤ 63) (r : Bool) (h : growsB last (10 * now + ((c : Int) - 48)) = r) (w : World) :
    RdAt w B 3 last now set → Calls Tryd.prog 66 #[.pointer (some ⟨B, 0, none⟩), .int .u8 c] w fun e w' => e = .returned (.bool r) ∧ RdPost w w' B 3 last (10 * now + ((c : Int) - 48)) set := by
  intro hr
  obtain ⟨c0, c1, c2, c3, cf⟩ := rd_cells hr
  have f0 := cf 0; have f1 := cf 1; have f2 := cf 2; have f3 := cf 3
  have HR := Lib.hid hr
  clear hr cf
  have n1 : ((c : Int) == 123) = false := by simp; omega
  have n2 : ((c : Int) == 125) = false := by simp; omega
  have n3 : ((c : Int) == 44) = false := by simp; omega
  have H := Lib.hid h
  clear h
  go_enter Tryd.func66, Tryd.ntmps66
  go_wp2_with fail
  refine (digit_more B last now set ((c : Int) - 48) _ HR.out (by omega) (by omega) hn0 hn1 r H.out).mono ?_
  rintro e w1 ⟨rfl, post⟩
  go_wp2
  go_ret
  exact ⟨rfl, post⟩
set_option maxRecDepth 100000 in
set_option maxHeartbeats 1000000 in
theorem take_digit_no (B : Nat) (st last now : Int) (set : Nat) (c : Nat) (h4 : 48 ≤ c) (h5 : c ≤ 57) (hst : st = 0 ∨ st = 4 ∨ (st = 3 ∧ now = 0)) (w : World) :
    RdAt w B st last now set → Calls Tryd.prog 66 #[.pointer (some ⟨B, 0, none⟩), .int .u8 c] w fun e w' => e = .returned (.bool false) ∧ RdPost w w' B st last now set := by
  intro hr
  obtain ⟨c0, c1, c2, c3, cf⟩ := rd_cells hr
  have f0 := cf 0; have f1 := cf 1; have f2 := cf 2; have f3 := cf 3
  have HR := Lib.hid hr
  clear hr cf
  have n1 : ((c : Int) == 123) = false := by simp; omega
  have n2 : ((c : Int) == 125) = false := by simp; omega
  have n3 : ((c : Int) == 44) = false := by simp; omega
  have HS := Lib.hid hst
  clear hst
  go_enter Tryd.func66, Tryd.ntmps66
  go_wp2_with fail
  refine (digit_no B st last now set ((c : Int) - 48) _ HR.out HS.out).mono ?_
  rintro e w1 ⟨rfl, post⟩
  go_wp2
  go_ret
  exact ⟨rfl, post⟩
end Go.Proofs.YtdaijibkafepcaaDoor
