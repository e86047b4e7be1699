import Derived.Orders
import Derived.Below
import Derived.Deep.RegionHeld
import Derived.WalkKit
import Derived.KernelRfl
import Derived.Laws.Rows
import Derived.Laws.AppendOwn
import Derived.Laws.Strings
import Derived.Laws.Small
import Derived.Lib.Hide
import Derived.IntWalk
import Derived.Laws.Tables
import Derived.Laws.Concat
import Derived.Laws.MakeOwn
import Derived.Test.YtpkcaabbcoiiiaaProg
import Derived.Lib.TrailingZeros
import Derived.Test.YtpkcaabbcoiiiaaRows
import Derived.Lib.LaidTab
import Derived.Lib.ItoaNum
import Derived.Stop.LaidErr
import Derived.WalkSmall
import Derived.LaidMore
import Derived.Shelf.Spec.TrailingZeros
import Derived.Laws.BitsAllLaws
import Derived.Laws.Bits64
import Derived.Deep.QuietTactic
import Derived.BigQuiet
import Derived.RegionTactic
import Derived.BigRegion
import Derived.Deep.RegionHeld3
import Derived.ChangeAlike
import Derived.RangeFuncNested
import Derived.RangeFuncBound
import Derived.RangeFuncCalls
import Derived.RangeFuncLeaves
import Derived.Shelf.Abstract
import Derived.Shelf.RegionOpen
import Derived.OwnWalkIn
import Derived.TacticsInMore
import Derived.LoopNIn
import Derived.LoopIn
import Derived.Laws.Bits128
import Derived.Deep.AppendLies
import Derived.Maps.AppendAt
import Derived.Sort.Grow
import Derived.Ground.Names2Prog
import Derived.Shelf.Slices.Clone
import Derived.Lib.OthersKept
import Derived.Laws.IdiomStrings
import Derived.StillTailTactics
import Derived.Deep.RegionLaw
import Derived.Deep.DeepCutAuto
import Derived.Deep.CutRange
import Derived.Deep.RegionWith
import Derived.Laws.Bits64b
import Derived.Deep.DrawnRows
import Derived.Lib.SliceRun
import Derived.Test.YtpkcaabbcoiiiaaQoA
set_option maxRecDepth 100000
set_option maxHeartbeats 4000000
set_option linter.unusedVariables false
set_option linter.unusedVariables false
set_option linter.unusedSimpArgs false
set_option linter.unusedSectionVars false
set_option linter.unnecessarySimpa false
namespace Go.Proofs.Ytpkcaabbcoiiiaa
open Go Go.RowKit
theorem big_no {n : Int} (h : fullE n ≠ 0) : (if dimB n = true then (30 : Int) else 31) = 31 := by
 by_cases hd : dimB n = true
 ·exfalso; apply h
  simp only [dimB, Bool.and_eq_true, decide_eq_true_eq] at hd
  unfold fullE; rw [if_pos (by omega)]
 ·rw [if_neg hd]
theorem big_yes {n : Int} (h : ¬ fullE n ≠ 0) : dimB n = true ∧ n ≤ 64 := by
 have h' : fullE n = 0 := by omega
 unfold fullE at h'
 split at h'
 ·rename_i hn
  refine ⟨?_, by omega⟩
  simp only [dimB, Bool.and_eq_true, decide_eq_true_eq]; omega
 ·omega
theorem big_ne {n : Int} : (if dimB n = true then (30 : Int) else 31) ≠ 0 := by
 split <;> omega
theorem dimB_le {n : Int} (h : dimB n = true) : n ≤ 64 := by
 simp only [dimB, Bool.and_eq_true, decide_eq_true_eq] at h; omega
theorem shapedA_big (n : Int) (a : Option Addr) (len cap gen : Nat) (w : World) (hl : 100 < len) :
  Calls Try.prog 114 #[.int .i64 n, .agg #[.int .u64 (gen : Int), .slice a len cap]] w (fun e w' => e = .returned (.int .i64 (if dimB n = true then 30 else 31)) ∧ Below w.heap.size w w') := by
 refine enterF (args := [.int .i64 n, .agg #[.int .u64 (gen : Int), .slice a len cap]]) Try.func114 rfl Try.ntmps114 rfl ?_
 have hS := St.start w
 refine seqF (regF ?_)
 refine op_box (cs := [_, _]) hS rfl rfl rfl ?_
 clear hS; intro B1 W1 hS
 refine op_assign rfl rfl ?_
 refine endF (XF.thenN ?_)
 refine seqF (regF ?_)
 refine op_move rfl rfl ?_
 refine op_call (vs := [_]) hS goes_122 rfl (fullA_is n _ _ rfl rfl _) rfl ?_
 rintro e W2 ⟨rfl, rfl⟩
 refine ⟨_, rfl, Below.refl _ _, fun hS' => ?_⟩
 clear hS; have hS := hS'; clear hS'
 refine op_move rfl rfl ?_
 iterate 2 refine op_extract rfl rfl rfl ?_
 iterate 2 refine op_assign rfl rfl ?_
 refine endF (XF.thenN ?_)
 refine seqF ?_
 refine seqF (regF ?_)
 refine op_move rfl rfl ?_
 refine op_neq rfl rfl rfl ?_
 refine endF (XF.thenN ?_)
 refine condF rfl (fun hc => ?_) (fun hc => ?_)
 ·have hc15 := of_decide_eq_true hc; clear hc
  refine seqF (regF ?_)
  refine op_assign rfl rfl ?_
  refine endF (XF.thenN ?_)
  refine retF ?_
  refine XF.thenR ?_
  refine XF.res (res1 Try.results114 rfl) ?_
  exact ⟨by rw [big_no hc15], hS.below⟩
 ·have hc15 := of_decide_eq_false hc; clear hc
  obtain ⟨hd, hd2⟩ := big_yes hc15
  refine skipF ?_
  refine XF.thenN ?_
  refine seqF ?_
  refine seqF (regF ?_)
  refine op_field (o' := 1) fa_41_1 rfl rfl rfl ?_
  refine op_load Try.isAgg39 rfl (cell_own (hS.at_ 0 rfl) rfl) rfl ?_
  refine op_len Try.underlying39 rfl rfl ?_
  refine op_move rfl rfl ?_
  refine op_neq rfl rfl rfl ?_
  refine op_move rfl rfl ?_
  refine op_cases (d := 21) rfl (fun hc => ?_) (fun hc => absurd (of_decide_eq_false hc) (by omega))
  have hc := of_decide_eq_true hc
  iterate 5 refine op_notF (d := 21) rfl rfl rfl rfl ?_
  refine op_pickT rfl rfl rfl ?_
  refine endF (XF.thenN ?_)
  refine condT rfl ?_
  refine seqF (regF ?_)
  refine op_assign rfl rfl ?_
  refine endF (XF.thenN ?_)
  refine retF ?_
  refine XF.thenR ?_
  refine XF.res (res1 Try.results114 rfl) ?_
  exact ⟨by rw [if_pos hd], hS.below⟩
theorem checkA_big (n : Int) (a : Option Addr) (len cap gen : Nat) (w : World) (hl : 100 < len) :
  Calls Try.prog 108 #[.int .i64 n, .agg #[.int .u64 (gen : Int), .slice a len cap]] w (fun e w' => e = .returned (.int .i64 (if dimB n = true then 30 else 31)) ∧ Below w.heap.size w w') := by
 refine enterF (args := [.int .i64 n, .agg #[.int .u64 (gen : Int), .slice a len cap]]) Try.func108 rfl Try.ntmps108 rfl ?_
 have hS := St.start w
 refine seqF (regF ?_)
 refine op_box (cs := [_, _]) hS rfl rfl rfl ?_
 clear hS; intro B1 W1 hS
 refine op_assign rfl rfl ?_
 refine endF (XF.thenN ?_)
 refine seqF ?_
 refine seqF (regF ?_)
 refine op_move rfl rfl ?_
 refine op_loadA (vs := [_, _]) Try.isAgg41 Try.sizeOf41 rfl (CellsAt.own (j := 0) (m := 2) (hS.at_ 0 rfl) rfl) rfl ?_
 refine op_call (vs := [_, _]) hS goes_114 rfl (shapedA_big n a len cap gen _ hl) rfl ?_
 rintro e W2 ⟨rfl, hb⟩
 refine ⟨_, rfl, hb, fun hS' => ?_⟩
 clear hS; have hS := hS'; clear hS' hb
 refine op_assign rfl rfl ?_
 refine endF (XF.thenN ?_)
 refine seqF (regF ?_)
 refine op_move rfl rfl ?_
 refine op_neq rfl rfl rfl ?_
 refine endF (XF.thenN ?_)
 refine condF rfl (fun hc => ?_) (fun hc => absurd (of_decide_eq_false hc) (by exact fun h => h big_ne))
 have hc := of_decide_eq_true hc
 refine seqF (regF ?_)
 refine op_move rfl rfl ?_
 refine op_assign rfl rfl ?_
 refine endF (XF.thenN ?_)
 refine retF ?_
 refine XF.thenR ?_
 refine XF.res (res1 Try.results108 rfl) ?_
 exact ⟨rfl, hS.below⟩
theorem shapeR_big (n : Int) (a : Option Addr) (len cap gen : Nat) (w : World) (hl : 100 < len) (hd : dimB n = true) :
  Calls Try.prog 104 #[.int .i64 n, .agg #[.int .u64 (gen : Int), .slice a len cap]] w (fun e w' => e = .returned (.bool false) ∧ Below w.heap.size w w') := by
 have hd2 := dimB_le hd
 refine enterF (args := [.int .i64 n, .agg #[.int .u64 (gen : Int), .slice a len cap]]) Try.func104 rfl Try.ntmps104 rfl ?_
 have hS := St.start w
 refine seqF (regF ?_)
 refine op_box (cs := [_, _]) hS rfl rfl rfl ?_
 clear hS; intro B1 W1 hS
 refine op_assign rfl rfl ?_
 refine endF (XF.thenN ?_)
 refine seqF ?_
 refine seqF (regF ?_)
 refine op_field (o' := 1) fa_41_1 rfl rfl rfl ?_
 refine op_load Try.isAgg39 rfl (cell_own (hS.at_ 0 rfl) rfl) rfl ?_
 refine op_len Try.underlying39 rfl rfl ?_
 refine op_move rfl rfl ?_
 refine op_neq rfl rfl rfl ?_
 refine op_move rfl rfl ?_
 refine op_cases (d := 11) rfl (fun hc => ?_) (fun hc => absurd (of_decide_eq_false hc) (by omega))
 have hc := of_decide_eq_true hc
 iterate 5 refine op_notF (d := 11) rfl rfl rfl rfl ?_
 refine op_pickT rfl rfl rfl ?_
 refine endF (XF.thenN ?_)
 refine condT rfl ?_
 refine seqF (regF ?_)
 refine op_assign rfl rfl ?_
 refine endF (XF.thenN ?_)
 refine retF ?_
 refine XF.thenR ?_
 refine XF.res (res1 Try.results104 rfl) ?_
 exact ⟨rfl, hS.below⟩
theorem checkR_big (n : Int) (a : Option Addr) (len cap gen : Nat) (w : World) (hl : 100 < len) :
  Calls Try.prog 90 #[.int .i64 n, .agg #[.int .u64 (gen : Int), .slice a len cap]] w (fun e w' => e = .returned (.int .i64 (if dimB n = true then 30 else 31)) ∧ Below w.heap.size w w') := by
 refine enterF (args := [.int .i64 n, .agg #[.int .u64 (gen : Int), .slice a len cap]]) Try.func90 rfl Try.ntmps90 rfl ?_
 have hS := St.start w
 refine seqF (regF ?_)
 refine op_box (cs := [_, _]) hS rfl rfl rfl ?_
 clear hS; intro B1 W1 hS
 refine op_assign rfl rfl ?_
 refine endF (XF.thenN ?_)
 refine seqF ?_
 refine seqF (regF ?_)
 refine op_move rfl rfl ?_
 refine op_call (vs := [_]) hS goes_88 rfl (dim_is n _ rfl _) rfl ?_
 rintro e W2 ⟨rfl, rfl⟩
 refine ⟨_, rfl, Below.refl _ _, fun hS' => ?_⟩
 clear hS; have hS := hS'; clear hS'
 refine op_not rfl rfl ?_
 refine endF (XF.thenN ?_)
 refine condF rfl (fun hc => ?_) (fun hc => ?_)
 ·have hc7 := hc; clear hc
  refine seqF (regF ?_)
  refine op_assign rfl rfl ?_
  refine endF (XF.thenN ?_)
  refine retF ?_
  refine XF.thenR ?_
  refine XF.res (res1 Try.results90 rfl) ?_
  exact ⟨by rw [if_neg (by simpa using hc7)], hS.below⟩
 ·have hc7 := hc; clear hc
  have hd : dimB n = true := by simpa using hc7
  refine skipF ?_
  refine XF.thenN ?_
  iterate 2 refine seqF ?_
  refine regB (m := 11) followsM hS (by kernel_rfl) (by kernel_rfl) rfl ?_
  refine bl_cons 1 rfl (isV _) (stab_isV _) (rgV (li := [(0, _)]) rfl (w_free rfl) ⟨g_fr (by kernel_rfl) rfl, trivial⟩ (fun w hw => rn_move rfl) (at_top rfl)) ?_
  refine bl_cons 2 rfl (isV _) (stab_isV _) (rgV (li := [(3, _)]) rfl (w_free rfl) ⟨g_fr (by kernel_rfl) rfl, trivial⟩ (fun w hw => rn_loadA (vs := [_, _]) Try.isAgg41 Try.sizeOf41 rfl (CellsAt.agree (below_agree hw 0) (Nat.zero_le _) (CellsAt.own (j := 0) (m := 2) (hS.at_ 0 rfl) rfl))) (at_top rfl)) ?_
  refine bl_cons 3 rfl (isV (.bool false)) (stab_isV _) (rg_call [isV _, isV _] rfl goes_104 (w_free rfl) ⟨p_tmp (g_dep 0 (by kernel_rfl) (at_dep rfl rfl rfl)), p_tmp (g_dep 1 (by kernel_rfl) (at_dep rfl rfl rfl)), trivial⟩ (fun vs w' hb hh => by have e := holds_isV (us := [_, _]) hh; subst e; exact (shapeR_big n a len cap gen _ hl hd).mono fun e w2 h => ⟨_, h.1, rfl, h.2⟩) (at_top rfl)) ?_
  refine bl_cons 4 rfl (isV (.bool true)) (stab_isV _) (rgVe (li := [(10, _)]) rfl (w_free rfl) ⟨g_dep 2 (by kernel_rfl) (at_dep rfl rfl rfl), trivial⟩ (fun w hw => rn_not rfl) (rfl) (at_top rfl)) ?_
  refine bl_cons 5 rfl (isV _) (stab_isV _) (rgV (li := [(11, _)]) rfl (w_free rfl) ⟨g_dep 3 (by kernel_rfl) (at_dep rfl rfl rfl), trivial⟩ (fun w hw => rn_move rfl) (at_top rfl)) ?_
  refine bl_cons 6 rfl (isV undef) (stab_isV _) (rg_no rfl (w_no 12 rfl (by kernel_rfl) (by kernel_rfl) (at_dep rfl rfl rfl) rfl) (at_top rfl)) ?_
  refine bl_cons 7 rfl (isV undef) (stab_isV _) (rg_no rfl (w_no 12 rfl (by kernel_rfl) (by kernel_rfl) (at_dep rfl rfl rfl) rfl) (at_top rfl)) ?_
  refine bl_cons 8 rfl (isV undef) (stab_isV _) (rg_no rfl (w_no 12 rfl (by kernel_rfl) (by kernel_rfl) (at_dep rfl rfl rfl) rfl) (at_top rfl)) ?_
  refine bl_cons 9 rfl (isV undef) (stab_isV _) (rg_no rfl (w_no 12 rfl (by kernel_rfl) (by kernel_rfl) (at_dep rfl rfl rfl) rfl) (at_top rfl)) ?_
  refine bl_cons 10 rfl (isV undef) (stab_isV _) (rg_no rfl (w_no 12 rfl (by kernel_rfl) (by kernel_rfl) (at_dep rfl rfl rfl) rfl) (at_top rfl)) ?_
  refine bl_cons 11 rfl (isV _) (stab_isV _) (rgV (li := [(12, _)]) rfl (w_free rfl) ⟨g_dep 4 (by kernel_rfl) (at_dep rfl rfl rfl), trivial⟩ (fun w hw => rn_pickT rfl rfl) (at_top rfl)) ?_
  refine bl_nil ?_
  intro W3 hbR hS'
  clear hS; have hS := hS'; clear hS'
  iterate 11 refine fin_v ?_
  refine fin_nil ?_
  refine XF.thenN ?_
  refine condT rfl ?_
  refine seqF (regF ?_)
  refine op_assign rfl rfl ?_
  refine endF (XF.thenN ?_)
  refine retF ?_
  refine XF.thenR ?_
  refine XF.res (res1 Try.results90 rfl) ?_
  exact ⟨by rw [if_pos hd], hS.below⟩
theorem checkE_big {n : Int} {gen : Nat} {rows : List Nat} (h : 100 < rows.length) : checkE n gen rows = (if dimB n = true then 30 else 31) := by
 unfold checkE
 by_cases hd : dimB n = true
 ·have h64 := dimB_le hd
  have e : shapeB n.toNat gen rows = false := by
   unfold shapeB
   rw [decide_eq_false (by omega)]; rfl
  rw [if_pos hd, if_pos hd, e]; rfl
 ·rw [if_neg hd, if_neg hd]
theorem checkA_any (n : Int) (a : Option Addr) (cap gen : Nat) (rows : List Nat) (w : World) {f : WF} (hf : f.At w) (r : Int) (hr : checkE n gen rows = r) (len : Nat) (hl : rows.length = len) (ha : f.ra = a := by rfl) (hg : f.g = gen := by rfl) (hrr : f.rows = rows := by rfl) :
  Calls Try.prog 108 #[.int .i64 n, .agg #[.int .u64 (gen : Int), .slice a len cap]] w fun e w' => e = .returned (.int .i64 r) ∧ Below w.heap.size w w' := by
 subst ha; subst hg; subst hrr
 by_cases h : f.rows.length ≤ 100
 ·exact checkA_is n _ cap _ _ w ⟨hf.rows, hf.g64, hf.r64, h⟩ r hr len hl
 ·rw [← hr, checkE_big (by omega)]
  exact checkA_big n _ len cap _ w (by omega)
theorem checkR_any (n : Int) (a : Option Addr) (cap gen : Nat) (rows : List Nat) (w : World) {f : WF} (hf : f.At w) (r : Int) (hr : checkE n gen rows = r) (len : Nat) (hl : rows.length = len) (ha : f.ra = a := by rfl) (hg : f.g = gen := by rfl) (hrr : f.rows = rows := by rfl) :
  Calls Try.prog 90 #[.int .i64 n, .agg #[.int .u64 (gen : Int), .slice a len cap]] w fun e w' => e = .returned (.int .i64 r) ∧ Below w.heap.size w w' := by
 subst ha; subst hg; subst hrr
 by_cases h : f.rows.length ≤ 100
 ·exact checkR_is n _ cap _ _ w ⟨hf.rows, hf.g64, hf.r64, h⟩ r hr len hl
 ·rw [← hr, checkE_big (by omega)]
  exact checkR_big n _ len cap _ w (by omega)
end Go.Proofs.Ytpkcaabbcoiiiaa
namespace Go.Proofs.Ytpkcaabbcoiiiaa
open Go.RowKit
theorem plainR_0 (f : WF) (r : Bool) (hr : onlyB false false false false f = r) (w : World) :
  Calls Try.prog 89 #[f.val, .bool false, .bool false, .bool false, .bool false] w fun e w' => e = .returned (.bool r) ∧ Below w.heap.size w w' := by
 obtain ⟨z, c, g, ra, rl, rc, rows, ca, cl, cc, cells, pa, pl, pc⟩ := f
 show Calls Try.prog 89 #[.agg #[.bool z, .int .i64 c, .int .u64 (g : Int), .slice ra rl rc, .slice ca cl cc, .slice pa pl pc], .bool false, .bool false, .bool false, .bool false] w _
 have hB := Lib.hid (sbox w #[.bool z, .int .i64 c, .int .u64 (g : Int), .slice ra rl rc, .slice ca cl cc, .slice pa pl pc] 45)
 obtain ⟨b1, h1⟩ : ∃ b, (c == 0) = b := ⟨_, rfl⟩
 obtain ⟨b2, h2⟩ : ∃ b, ((g : Int) == 0) = b := ⟨_, rfl⟩
 obtain ⟨b3, h3⟩ : ∃ b, ((rl : Int) == 0) = b := ⟨_, rfl⟩
 obtain ⟨b4, h4⟩ : ∃ b, ((cl : Int) == 0) = b := ⟨_, rfl⟩
 obtain ⟨b5, h5⟩ : ∃ b, ((pl : Int) == 0) = b := ⟨_, rfl⟩
 have HR : Hid (((false || b1) && ((false || (b2 && b3)) && ((false || b4) && (false || b5)))) = r) := by
  show _ = _
  rw [← hr, ← h1, ← h2, ← h3, ← h4, ← h5, nat_eq0, nat_eq0, nat_eq0, nat_eq0, int_eq0]; rfl
 clear hr
 cases b1
 ·go_enter Try.func89, Try.ntmps89
  go_wp2_with fail
  go_ret
  exact ⟨rbool (by rw [← HR.out]; simp), hB.out⟩
 cases b2
 ·go_enter Try.func89, Try.ntmps89
  go_wp2_with fail
  go_ret
  exact ⟨rbool (by rw [← HR.out]; simp), hB.out⟩
 cases b3
 ·go_enter Try.func89, Try.ntmps89
  go_wp2_with fail
  go_ret
  exact ⟨rbool (by rw [← HR.out]; simp), hB.out⟩
 cases b4
 ·go_enter Try.func89, Try.ntmps89
  go_wp2_with fail
  go_ret
  exact ⟨rbool (by rw [← HR.out]; simp), hB.out⟩
 cases b5
 ·go_enter Try.func89, Try.ntmps89
  go_wp2_with fail
  go_ret
  exact ⟨rbool (by rw [← HR.out]; simp), hB.out⟩
 go_enter Try.func89, Try.ntmps89
 go_wp2_with fail
 go_ret
 exact ⟨rbool (by rw [← HR.out]; simp), hB.out⟩
theorem plainR_1 (f : WF) (r : Bool) (hr : onlyB true false false false f = r) (w : World) :
  Calls Try.prog 89 #[f.val, .bool true, .bool false, .bool false, .bool false] w fun e w' => e = .returned (.bool r) ∧ Below w.heap.size w w' := by
 obtain ⟨z, c, g, ra, rl, rc, rows, ca, cl, cc, cells, pa, pl, pc⟩ := f
 show Calls Try.prog 89 #[.agg #[.bool z, .int .i64 c, .int .u64 (g : Int), .slice ra rl rc, .slice ca cl cc, .slice pa pl pc], .bool true, .bool false, .bool false, .bool false] w _
 have hB := Lib.hid (sbox w #[.bool z, .int .i64 c, .int .u64 (g : Int), .slice ra rl rc, .slice ca cl cc, .slice pa pl pc] 45)
 obtain ⟨b1, h1⟩ : ∃ b, (c == 0) = b := ⟨_, rfl⟩
 obtain ⟨b2, h2⟩ : ∃ b, ((g : Int) == 0) = b := ⟨_, rfl⟩
 obtain ⟨b3, h3⟩ : ∃ b, ((rl : Int) == 0) = b := ⟨_, rfl⟩
 obtain ⟨b4, h4⟩ : ∃ b, ((cl : Int) == 0) = b := ⟨_, rfl⟩
 obtain ⟨b5, h5⟩ : ∃ b, ((pl : Int) == 0) = b := ⟨_, rfl⟩
 have HR : Hid (((true || b1) && ((false || (b2 && b3)) && ((false || b4) && (false || b5)))) = r) := by
  show _ = _
  rw [← hr, ← h1, ← h2, ← h3, ← h4, ← h5, nat_eq0, nat_eq0, nat_eq0, nat_eq0, int_eq0]; rfl
 clear hr
 cases b2
 ·go_enter Try.func89, Try.ntmps89
  go_wp2_with fail
  go_ret
  exact ⟨rbool (by rw [← HR.out]; simp), hB.out⟩
 cases b3
 ·go_enter Try.func89, Try.ntmps89
  go_wp2_with fail
  go_ret
  exact ⟨rbool (by rw [← HR.out]; simp), hB.out⟩
 cases b4
 ·go_enter Try.func89, Try.ntmps89
  go_wp2_with fail
  go_ret
  exact ⟨rbool (by rw [← HR.out]; simp), hB.out⟩
 cases b5
 ·go_enter Try.func89, Try.ntmps89
  go_wp2_with fail
  go_ret
  exact ⟨rbool (by rw [← HR.out]; simp), hB.out⟩
 go_enter Try.func89, Try.ntmps89
 go_wp2_with fail
 go_ret
 exact ⟨rbool (by rw [← HR.out]; simp), hB.out⟩
theorem plainR_2 (f : WF) (r : Bool) (hr : onlyB false true false false f = r) (w : World) :
  Calls Try.prog 89 #[f.val, .bool false, .bool true, .bool false, .bool false] w fun e w' => e = .returned (.bool r) ∧ Below w.heap.size w w' := by
 obtain ⟨z, c, g, ra, rl, rc, rows, ca, cl, cc, cells, pa, pl, pc⟩ := f
 show Calls Try.prog 89 #[.agg #[.bool z, .int .i64 c, .int .u64 (g : Int), .slice ra rl rc, .slice ca cl cc, .slice pa pl pc], .bool false, .bool true, .bool false, .bool false] w _
 have hB := Lib.hid (sbox w #[.bool z, .int .i64 c, .int .u64 (g : Int), .slice ra rl rc, .slice ca cl cc, .slice pa pl pc] 45)
 obtain ⟨b1, h1⟩ : ∃ b, (c == 0) = b := ⟨_, rfl⟩
 obtain ⟨b2, h2⟩ : ∃ b, ((g : Int) == 0) = b := ⟨_, rfl⟩
 obtain ⟨b3, h3⟩ : ∃ b, ((rl : Int) == 0) = b := ⟨_, rfl⟩
 obtain ⟨b4, h4⟩ : ∃ b, ((cl : Int) == 0) = b := ⟨_, rfl⟩
 obtain ⟨b5, h5⟩ : ∃ b, ((pl : Int) == 0) = b := ⟨_, rfl⟩
 have HR : Hid (((false || b1) && ((true || (b2 && b3)) && ((false || b4) && (false || b5)))) = r) := by
  show _ = _
  rw [← hr, ← h1, ← h2, ← h3, ← h4, ← h5, nat_eq0, nat_eq0, nat_eq0, nat_eq0, int_eq0]; rfl
 clear hr
 cases b1
 ·go_enter Try.func89, Try.ntmps89
  go_wp2_with fail
  go_ret
  exact ⟨rbool (by rw [← HR.out]; simp), hB.out⟩
 cases b4
 ·go_enter Try.func89, Try.ntmps89
  go_wp2_with fail
  go_ret
  exact ⟨rbool (by rw [← HR.out]; simp), hB.out⟩
 cases b5
 ·go_enter Try.func89, Try.ntmps89
  go_wp2_with fail
  go_ret
  exact ⟨rbool (by rw [← HR.out]; simp), hB.out⟩
 go_enter Try.func89, Try.ntmps89
 go_wp2_with fail
 go_ret
 exact ⟨rbool (by rw [← HR.out]; simp), hB.out⟩
theorem plainR_3 (f : WF) (r : Bool) (hr : onlyB false false true false f = r) (w : World) :
  Calls Try.prog 89 #[f.val, .bool false, .bool false, .bool true, .bool false] w fun e w' => e = .returned (.bool r) ∧ Below w.heap.size w w' := by
 obtain ⟨z, c, g, ra, rl, rc, rows, ca, cl, cc, cells, pa, pl, pc⟩ := f
 show Calls Try.prog 89 #[.agg #[.bool z, .int .i64 c, .int .u64 (g : Int), .slice ra rl rc, .slice ca cl cc, .slice pa pl pc], .bool false, .bool false, .bool true, .bool false] w _
 have hB := Lib.hid (sbox w #[.bool z, .int .i64 c, .int .u64 (g : Int), .slice ra rl rc, .slice ca cl cc, .slice pa pl pc] 45)
 obtain ⟨b1, h1⟩ : ∃ b, (c == 0) = b := ⟨_, rfl⟩
 obtain ⟨b2, h2⟩ : ∃ b, ((g : Int) == 0) = b := ⟨_, rfl⟩
 obtain ⟨b3, h3⟩ : ∃ b, ((rl : Int) == 0) = b := ⟨_, rfl⟩
 obtain ⟨b4, h4⟩ : ∃ b, ((cl : Int) == 0) = b := ⟨_, rfl⟩
 obtain ⟨b5, h5⟩ : ∃ b, ((pl : Int) == 0) = b := ⟨_, rfl⟩
 have HR : Hid (((false || b1) && ((false || (b2 && b3)) && ((true || b4) && (false || b5)))) = r) := by
  show _ = _
  rw [← hr, ← h1, ← h2, ← h3, ← h4, ← h5, nat_eq0, nat_eq0, nat_eq0, nat_eq0, int_eq0]; rfl
 clear hr
 cases b1
 ·go_enter Try.func89, Try.ntmps89
  go_wp2_with fail
  go_ret
  exact ⟨rbool (by rw [← HR.out]; simp), hB.out⟩
 cases b2
 ·go_enter Try.func89, Try.ntmps89
  go_wp2_with fail
  go_ret
  exact ⟨rbool (by rw [← HR.out]; simp), hB.out⟩
 cases b3
 ·go_enter Try.func89, Try.ntmps89
  go_wp2_with fail
  go_ret
  exact ⟨rbool (by rw [← HR.out]; simp), hB.out⟩
 cases b5
 ·go_enter Try.func89, Try.ntmps89
  go_wp2_with fail
  go_ret
  exact ⟨rbool (by rw [← HR.out]; simp), hB.out⟩
 go_enter Try.func89, Try.ntmps89
 go_wp2_with fail
 go_ret
 exact ⟨rbool (by rw [← HR.out]; simp), hB.out⟩
theorem plainR_4 (f : WF) (r : Bool) (hr : onlyB false false false true f = r) (w : World) :
  Calls Try.prog 89 #[f.val, .bool false, .bool false, .bool false, .bool true] w fun e w' => e = .returned (.bool r) ∧ Below w.heap.size w w' := by
 obtain ⟨z, c, g, ra, rl, rc, rows, ca, cl, cc, cells, pa, pl, pc⟩ := f
 show Calls Try.prog 89 #[.agg #[.bool z, .int .i64 c, .int .u64 (g : Int), .slice ra rl rc, .slice ca cl cc, .slice pa pl pc], .bool false, .bool false, .bool false, .bool true] w _
 have hB := Lib.hid (sbox w #[.bool z, .int .i64 c, .int .u64 (g : Int), .slice ra rl rc, .slice ca cl cc, .slice pa pl pc] 45)
 obtain ⟨b1, h1⟩ : ∃ b, (c == 0) = b := ⟨_, rfl⟩
 obtain ⟨b2, h2⟩ : ∃ b, ((g : Int) == 0) = b := ⟨_, rfl⟩
 obtain ⟨b3, h3⟩ : ∃ b, ((rl : Int) == 0) = b := ⟨_, rfl⟩
 obtain ⟨b4, h4⟩ : ∃ b, ((cl : Int) == 0) = b := ⟨_, rfl⟩
 obtain ⟨b5, h5⟩ : ∃ b, ((pl : Int) == 0) = b := ⟨_, rfl⟩
 have HR : Hid (((false || b1) && ((false || (b2 && b3)) && ((false || b4) && (true || b5)))) = r) := by
  show _ = _
  rw [← hr, ← h1, ← h2, ← h3, ← h4, ← h5, nat_eq0, nat_eq0, nat_eq0, nat_eq0, int_eq0]; rfl
 clear hr
 cases b1
 ·go_enter Try.func89, Try.ntmps89
  go_wp2_with fail
  go_ret
  exact ⟨rbool (by rw [← HR.out]; simp), hB.out⟩
 cases b2
 ·go_enter Try.func89, Try.ntmps89
  go_wp2_with fail
  go_ret
  exact ⟨rbool (by rw [← HR.out]; simp), hB.out⟩
 cases b3
 ·go_enter Try.func89, Try.ntmps89
  go_wp2_with fail
  go_ret
  exact ⟨rbool (by rw [← HR.out]; simp), hB.out⟩
 cases b4
 ·go_enter Try.func89, Try.ntmps89
  go_wp2_with fail
  go_ret
  exact ⟨rbool (by rw [← HR.out]; simp), hB.out⟩
 go_enter Try.func89, Try.ntmps89
 go_wp2_with fail
 go_ret
 exact ⟨rbool (by rw [← HR.out]; simp), hB.out⟩
end Go.Proofs.Ytpkcaabbcoiiiaa
namespace Go.Proofs.Ytpkcaabbcoiiiaa
open Go.RowKit
theorem inside_ins {m s : Nat} (hm : m ≤ 64) (hs : s < 18446744073709551616) : insN m s = inside m s := by
 rw [Bool.eq_iff_iff, insN_iff hm hs, inside, beq_iff_eq, Nat.div_eq_zero_iff_lt (Nat.two_pow_pos m)]
set_option maxHeartbeats 2000000 in
theorem cellR_is (m : Nat) (hm : m ≤ 64) (f : Nat) (k v : Int) (hf : f < 18446744073709551616) (r : Bool) (hr : okAt m ⟨f, k, v⟩ = r) (w : World) :
  Calls Try.prog 91 #[.int .i64 m, .agg #[.int .u64 f, .int .i64 k, .int .i64 v]] w fun e w' => e = .returned (.bool r) ∧ Below w.heap.size w w' := by
 have hB := Lib.hid (sbox w #[.int .u64 f, .int .i64 k, .int .i64 v] 96)
 obtain ⟨i, hi⟩ : ∃ i, inside m f = i := ⟨_, rfl⟩
 have HI : Hid (insI m f = i) := by
  show _ = _
  have hd : dimB (m : Int) = true := by simp [dimB]; omega
  rw [insI, if_pos hd, Int.toNat_natCast, inside_ins hm hf, hi]
 have HR : Hid ((i && kindOk f k v) = r) := by show _ = _; rw [← hr, okAt, cellOk, hi]
 clear hr hi
 cases i
 ·have HR2 : Hid (false = r) := by show _ = _; rw [← HR.out]; rfl
  go_enter Try.func91, Try.ntmps91
  go_wp2_with fail
  refine (inside_is m f hf false HI.out _).mono ?_
  rintro e w1 ⟨rfl, rfl⟩
  go_wp2_with fail
  go_ret
  exact ⟨rbool HR2.out, hB.out⟩
 by_cases k0 : k = 0
 ·subst k0
  have HR2 : Hid ((v == 0) = r) := by show _ = _; rw [← HR.out]; simp [kindOk]
  go_enter Try.func91, Try.ntmps91
  go_wp2_with fail
  refine (inside_is m f hf true HI.out _).mono ?_
  rintro e w1 ⟨rfl, rfl⟩
  go_wp2_with fail
  go_ret
  exact ⟨rbool HR2.out, hB.out⟩
 by_cases k1 : k = 1
 ·subst k1
  have HR2 : Hid (true = r) := by show _ = _; rw [← HR.out]; simp [kindOk]
  clear k0
  go_enter Try.func91, Try.ntmps91
  go_wp2_with fail
  refine (inside_is m f hf true HI.out _).mono ?_
  rintro e w1 ⟨rfl, rfl⟩
  go_wp2_with fail
  go_ret
  exact ⟨rbool HR2.out, hB.out⟩
 by_cases k2 : k = 2
 ·subst k2
  clear k0 k1
  by_cases v0 : v = 0
  ·subst v0
   have HR2 : Hid (((f : Int) == 0) = r) := by show _ = _; rw [← HR.out, nat_eq0, Bool.eq_iff_iff]; simp [kindOk]
   go_enter Try.func91, Try.ntmps91
   go_wp2_with fail
   refine (inside_is m f hf true HI.out _).mono ?_
   rintro e w1 ⟨rfl, rfl⟩
   go_wp2_with fail
   go_ret
   exact ⟨rbool HR2.out, hB.out⟩
  ·have HR2 : Hid (false = r) := by show _ = _; rw [← HR.out]; simp [kindOk, v0]
   have hv : (v == 0) = false := by simp [v0]
   go_enter Try.func91, Try.ntmps91
   go_wp2_with fail
   refine (inside_is m f hf true HI.out _).mono ?_
   rintro e w1 ⟨rfl, rfl⟩
   go_wp2_with fail
   go_ret
   exact ⟨rbool HR2.out, hB.out⟩
 ·have HR2 : Hid (false = r) := by show _ = _; rw [← HR.out]; simp [kindOk, k0, k1, k2]
  have e0 : (k == 0) = false := by simp [k0]
  have e1 : (k == 1) = false := by simp [k1]
  have e2 : (k == 2) = false := by simp [k2]
  clear k0 k1 k2
  go_enter Try.func91, Try.ntmps91
  go_wp2_with fail
  refine (inside_is m f hf true HI.out _).mono ?_
  rintro e w1 ⟨rfl, rfl⟩
  go_wp2_with fail
  go_ret
  exact ⟨rbool HR2.out, hB.out⟩
theorem chkC_iff {n : Int} {cs : List Cl} (h : 0 ≤ n ∧ n ≤ 64) : (decide (chkC n cs = 0)) = (decide ((cs.length : Int) = n) && cs.all (okAt n.toNat)) := by
 rw [Bool.eq_iff_iff]
 unfold chkC
 rw [if_neg (by omega)]
 by_cases hl : (cs.length : Int) = n
 ·cases ha : cs.all (okAt n.toNat) <;> simp [hl]
 ·simp [hl]
theorem all_upto {α : Type} {l : List α} {p : α → Bool} {k : Nat} (h : ∀ (i : Nat) x, i < k → l[i]? = some x → p x = true) (hk : l.length ≤ k) : l.all p = true := by
 rw [List.all_eq_true]; intro x hx
 obtain ⟨i, hi⟩ := List.getElem?_of_mem hx
 exact h i x (by have := (List.getElem?_eq_some_iff.1 hi).1; omega) hi
end Go.Proofs.Ytpkcaabbcoiiiaa
namespace Go.Proofs.Ytpkcaabbcoiiiaa
open Go.RowKit
attribute [local go_sem ↓] Go.wp_at_zero Go.wp_at_succ
def pwAt (p : SV) : Option WV → Bool | some x => pwOk p.f.tag p.f.dim x.f | none => false
def pairOk (p q : SV) (g : WF) (qs : List WV) : Bool := bareB 5 g && (!g.z && (decide (qs.length = 2) && (pwAt p qs[0]? && pwAt q qs[1]?)))
theorem WIn.two {w : World} {d : Nat} {f : WF} {p q : WV} (h : WIn w (d + 1) (.mk f [p, q])) : f.pl = 2 ∧ ∃ b off, f.pa = some ⟨b, off, none⟩ ∧ b < w.heap.size ∧ W6 w b off p.f ∧ W6 w b (off + 6) q.f ∧ WIn w d p ∧ WIn w d q := by
 obtain ⟨_, h1, h2, h3⟩ := h
 refine ⟨h1.symm, ?_⟩
 rcases h2 with h2 | ⟨b, off, ha, hc⟩
 ·cases h2
 ·have c0 := hc 0 p rfl
  have c1 := hc 1 q rfl
  simp only [Nat.zero_mul, Nat.add_zero, Nat.one_mul] at c0 c1
  exact ⟨b, off, ha, cell_lt c0.1, c0, c1, h3 p (by simp), h3 q (by simp)⟩
theorem WIn.at_ {w : World} {d : Nat} {x : WV} (h : WIn w d x) : x.f.At w := by
 match d, x, h with
 | d + 1, .mk f ps, h => exact h.1
end Go.Proofs.Ytpkcaabbcoiiiaa
namespace Go.Proofs.Ytpkcaabbcoiiiaa
open Go.RowKit
attribute [local go_sem ↓] Go.wp_at_zero Go.wp_at_succ
theorem isA_plainY (t n : Int) (a : Option Addr) (l c0 : Nat) (f : WF) (hp : plainB t n l = true) (hs : 0 ≤ f.rl) (w : World) (hf : f.At w) (r : Bool) (hr : pwOk t n f = r) :
  Calls Try.prog 100 #[.agg #[.int .i64 t, .int .i64 n, .slice a l c0], f.val] w fun e w' => e = .returned (.bool r) ∧ Below w.heap.size w w' := by
 have HF0 := Lib.hid hf; have HS := Lib.hid hs
 obtain ⟨z, c, g, ra, rl, rc, rows, ca, cl, cc, cells, pa, pl, pc⟩ := f
 show Calls Try.prog 100 #[.agg #[.int .i64 t, .int .i64 n, .slice a l c0], .agg #[.bool z, .int .i64 c, .int .u64 (g : Int), .slice ra rl rc, .slice ca cl cc, .slice pa pl pc]] w _
 obtain ⟨bb, hbb⟩ : ∃ b, bareB t ⟨z, c, g, ra, rl, rc, rows, ca, cl, cc, cells, pa, pl, pc⟩ = b := ⟨_, rfl⟩
 have HBB := Lib.hid hbb
 have hB := Lib.hid (wbox w #[.int .i64 t, .int .i64 n, .slice a l c0] #[.bool z, .int .i64 c, .int .u64 (g : Int), .slice ra rl rc, .slice ca cl cc, .slice pa pl pc] 25 45)
 obtain ⟨t0, t1⟩ := two_boxes2 w #[.int .i64 t, .int .i64 n, .slice a l c0] #[.bool z, .int .i64 c, .int .u64 (g : Int), .slice ra rl rc, .slice ca cl cc, .slice pa pl pc] 25 45
 have T0 := Lib.hid t0; have T1 := Lib.hid t1
 obtain ⟨W0, hW0⟩ : ∃ W, (w.alloc (.cells #[.int .i64 t, .int .i64 n, .slice a l c0] 25)).alloc (.cells #[.bool z, .int .i64 c, .int .u64 (g : Int), .slice ra rl rc, .slice ca cl cc, .slice pa pl pc] 45) = W := ⟨_, rfl⟩
 rw [hW0] at hB T0 T1
 obtain ⟨x0, x1, x2⟩ := tri_cells T0.out
 obtain ⟨y0, y1, y2, y3, y4, y5⟩ := six_cells T1.out
 have ht := (plainB_tag hp).2
 clear hf hs t0 t1 hbb hp
 cases bb
 ·have HR : Hid (false = r) := by show _ = _; rw [← hr, pwOk, HBB.out]; rfl
  clear hr ht
  go_enter Try.func100, Try.ntmps100
  go_wp2_with fail
  refine (bare_is t n a l c0 ⟨z, c, g, ra, rl, rc, rows, ca, cl, cc, cells, pa, pl, pc⟩ false HBB.out _).mono ?_
  rintro e w1 ⟨rfl, hb1⟩
  go_wp2
  go_ret
  exact ⟨rbool HR.out, hB.out.trans (hb1.mono hB.out.size)⟩
 have HX : Hid (∀ W : World, Below W0.heap.size W0 W → Hid ((W.cell? ⟨w.heap.size, 0, none⟩ = some (.int .i64 t) ∧ W.cell? ⟨w.heap.size, 1, none⟩ = some (.int .i64 n) ∧ W.cell? ⟨w.heap.size, 2, none⟩ = some (.slice a l c0)) ∧ (W.cell? ⟨w.heap.size + 1, 0, none⟩ = some (.bool z) ∧ W.cell? ⟨w.heap.size + 1, 1, none⟩ = some (.int .i64 c) ∧ W.cell? ⟨w.heap.size + 1, 2, none⟩ = some (.int .u64 (g : Int)) ∧ W.cell? ⟨w.heap.size + 1, 3, none⟩ = some (.slice ra rl rc) ∧ W.cell? ⟨w.heap.size + 1, 4, none⟩ = some (.slice ca cl cc) ∧ W.cell? ⟨w.heap.size + 1, 5, none⟩ = some (.slice pa pl pc)))) := fun W h => ⟨tri_cells (heap_old T0.out h), six_cells (heap_old T1.out h)⟩
 have HR : Hid ((z || (if t = 2 then decide (0 ≤ c) && decide (c ≤ n) else if t = 3 then decide (checkE n g rows = 0) else if t = 4 then decide (chkC n cells = 0) else true)) = r) := by show _ = _; rw [← hr, pwOk, HBB.out]; rfl
 have he5 : (t == 5) = false := by simp; omega
 clear hr T0 T1
 cases z
 ·rcases ht with rfl | rfl | rfl | rfl
  ·have HR2 : Hid (true = r) := by show _ = _; rw [← HR.out]; simp
   go_enter Try.func100, Try.ntmps100
   go_wp2_with fail
   refine (bare_is _ n a l c0 ⟨false, c, g, ra, rl, rc, rows, ca, cl, cc, cells, pa, pl, pc⟩ true HBB.out _).mono ?_
   rintro e w1 ⟨rfl, hb1⟩
   obtain ⟨⟨p0, p1, p2⟩, q0, q1, q2, q3, q4, q5⟩ := (HX.out _ hb1).out
   go_wp2_with fail
   go_ret
   exact ⟨rbool HR2.out, hB.out.trans (hb1.mono hB.out.size)⟩
  ·by_cases hc0 : 0 ≤ c
   ·have HR2 : Hid (decide (c ≤ n) = r) := by show _ = _; rw [← HR.out]; simp [hc0]
    go_enter Try.func100, Try.ntmps100
    go_wp2_with fail
    refine (bare_is _ n a l c0 ⟨false, c, g, ra, rl, rc, rows, ca, cl, cc, cells, pa, pl, pc⟩ true HBB.out _).mono ?_
    rintro e w1 ⟨rfl, hb1⟩
    obtain ⟨⟨p0, p1, p2⟩, q0, q1, q2, q3, q4, q5⟩ := (HX.out _ hb1).out
    go_wp2_with fail
    go_ret
    exact ⟨rbool HR2.out, hB.out.trans (hb1.mono hB.out.size)⟩
   ·have HR3 : Hid (false = r) := by show _ = _; rw [← HR.out]; simp [hc0]
    go_enter Try.func100, Try.ntmps100
    go_wp2_with fail
    refine (bare_is _ n a l c0 ⟨false, c, g, ra, rl, rc, rows, ca, cl, cc, cells, pa, pl, pc⟩ true HBB.out _).mono ?_
    rintro e w1 ⟨rfl, hb1⟩
    obtain ⟨⟨p0, p1, p2⟩, q0, q1, q2, q3, q4, q5⟩ := (HX.out _ hb1).out
    go_wp2_with fail
    go_ret
    exact ⟨rbool HR3.out, hB.out.trans (hb1.mono hB.out.size)⟩
  ·obtain ⟨ck, hck⟩ : ∃ k, checkE n g rows = k := ⟨_, rfl⟩
   have HCK := Lib.hid hck
   have HR3 : Hid ((ck == 0) = r) := by show _ = _; rw [← HR.out, hck, int_eq0]; simp
   clear hck
   go_enter Try.func100, Try.ntmps100
   go_wp2_with fail
   refine (bare_is _ n a l c0 ⟨false, c, g, ra, rl, rc, rows, ca, cl, cc, cells, pa, pl, pc⟩ true HBB.out _).mono ?_
   rintro e w1 ⟨rfl, hb1⟩
   obtain ⟨⟨p0, p1, p2⟩, q0, q1, q2, q3, q4, q5⟩ := (HX.out _ hb1).out
   have hB1 := hB.out.trans (hb1.mono hB.out.size)
   go_wp2_with fail
   refine (checkA_any n ra rc g rows _ (HF0.out.below hB1) ck HCK.out rl HF0.out.rl).mono ?_
   rintro e w2 ⟨rfl, hb2⟩
   go_wp2_with fail
   go_ret
   exact ⟨rbool HR3.out, hB1.trans (hb2.mono hB1.size)⟩
  ·obtain ⟨ck, hck⟩ : ∃ k, chkC n cells = k := ⟨_, rfl⟩
   have HCK := Lib.hid hck
   have HR3 : Hid ((ck == 0) = r) := by show _ = _; rw [← HR.out, hck, int_eq0]; simp
   clear hck
   go_enter Try.func100, Try.ntmps100
   go_wp2_with fail
   refine (bare_is _ n a l c0 ⟨false, c, g, ra, rl, rc, rows, ca, cl, cc, cells, pa, pl, pc⟩ true HBB.out _).mono ?_
   rintro e w1 ⟨rfl, hb1⟩
   obtain ⟨⟨p0, p1, p2⟩, q0, q1, q2, q3, q4, q5⟩ := (HX.out _ hb1).out
   have hB1 := hB.out.trans (hb1.mono hB.out.size)
   go_wp2_with fail
   refine (check_is n ca cl cc cells _ ck HF0.out.cl (by rw [HF0.out.cl]; exact HF0.out.cmax) (HF0.out.below hB1).cells HF0.out.bits HCK.out).mono ?_
   rintro e w2 ⟨rfl, hb2⟩
   go_wp2_with fail
   go_ret
   exact ⟨rbool HR3.out, hB1.trans (hb2.mono hB1.size)⟩
 ·have HR2 : Hid (true = r) := by show _ = _; rw [← HR.out]; rfl
  clear HR ht
  go_enter Try.func100, Try.ntmps100
  go_wp2_with fail
  refine (bare_is _ n a l c0 ⟨true, c, g, ra, rl, rc, rows, ca, cl, cc, cells, pa, pl, pc⟩ true HBB.out _).mono ?_
  rintro e w1 ⟨rfl, hb1⟩
  obtain ⟨⟨p0, p1, p2⟩, q0, q1, q2, q3, q4, q5⟩ := (HX.out _ hb1).out
  go_wp2_with fail
  go_ret
  exact ⟨rbool HR2.out, hB.out.trans (hb1.mono hB.out.size)⟩
set_option maxHeartbeats 8000000 in
theorem isA_pairY (d : Nat) (sa : Option Addr) (sc : Nat) (p q : SV) (g : WF) (qs : List WV) (w : World) (hsp : SIn w (d + 1) (.mk ⟨5, 0, sa, 2, sc⟩ [p, q])) (hp : p.pl = true) (hq : q.pl = true) (e : Nat) (hw : WIn w (e + 1) (.mk g qs)) (hs : ∀ x ∈ qs, 0 ≤ x.f.rl) (r : Bool) (hr : pairOk p q g qs = r) :
  Calls Try.prog 100 #[.agg #[.int .i64 5, .int .i64 0, .slice sa 2 sc], g.val] w fun e w' => e = .returned (.bool r) ∧ Below w.heap.size w w' := by
 obtain ⟨_, b, off, ha, hb, hp3, hq3, _, _⟩ := hsp.two
 obtain rfl : sa = some ⟨b, off, none⟩ := ha
 obtain ⟨⟨pt, pn, pa, pl, pc⟩, pps⟩ := p
 obtain ⟨⟨qt, qn, qa, ql, qc⟩, qps⟩ := q
 have HP : Hid (plainB pt pn pl = true) := hp; have HQ : Hid (plainB qt qn ql = true) := hq; have HP3 := Lib.hid hp3; have HQ3 := Lib.hid hq3
 obtain ⟨gz, gc, gg, gra, grl, grc, grows, gca, gcl, gcc, gcells, gpa, gpl, gpc⟩ := g
 show Calls Try.prog 100 #[.agg #[.int .i64 5, .int .i64 0, .slice (some ⟨b, off, none⟩) 2 sc], .agg #[.bool gz, .int .i64 gc, .int .u64 (gg : Int), .slice gra grl grc, .slice gca gcl gcc, .slice gpa gpl gpc]] w _
 have hgl : qs.length = gpl := hw.2.1
 obtain ⟨bb, hbb⟩ : ∃ b, bareB 5 ⟨gz, gc, gg, gra, grl, grc, grows, gca, gcl, gcc, gcells, gpa, gpl, gpc⟩ = b := ⟨_, rfl⟩
 have HBB := Lib.hid hbb
 have hB := Lib.hid (wbox w #[.int .i64 5, .int .i64 0, .slice (some ⟨b, off, none⟩) 2 sc] #[.bool gz, .int .i64 gc, .int .u64 (gg : Int), .slice gra grl grc, .slice gca gcl gcc, .slice gpa gpl gpc] 25 45)
 obtain ⟨t0, t1⟩ := two_boxes2 w #[.int .i64 5, .int .i64 0, .slice (some ⟨b, off, none⟩) 2 sc] #[.bool gz, .int .i64 gc, .int .u64 (gg : Int), .slice gra grl grc, .slice gca gcl gcc, .slice gpa gpl gpc] 25 45
 have T0 := Lib.hid t0; have T1 := Lib.hid t1
 obtain ⟨W0, hW0⟩ : ∃ W, (w.alloc (.cells #[.int .i64 5, .int .i64 0, .slice (some ⟨b, off, none⟩) 2 sc] 25)).alloc (.cells #[.bool gz, .int .i64 gc, .int .u64 (gg : Int), .slice gra grl grc, .slice gca gcl gcc, .slice gpa gpl gpc] 45) = W := ⟨_, rfl⟩
 rw [hW0] at hB T0 T1
 obtain ⟨x0, x1, x2⟩ := tri_cells T0.out
 obtain ⟨y0, y1, y2, y3, y4, y5⟩ := six_cells T1.out
 have HR := Lib.hid hr
 cases bb
 ·have HF : Hid (false = r) := by show _ = _; rw [← HR.out, pairOk, HBB.out]; rfl
  clear hr hbb hsp hw hs hp hq hp3 hq3
  go_enter Try.func100, Try.ntmps100
  go_wp2_with fail
  refine (bare_is 5 0 _ 2 sc ⟨gz, gc, gg, gra, grl, grc, grows, gca, gcl, gcc, gcells, gpa, gpl, gpc⟩ false HBB.out _).mono ?_
  rintro e w1 ⟨rfl, hb1⟩
  go_wp2_with fail
  go_ret
  exact ⟨rbool HF.out, hB.out.trans (hb1.mono hB.out.size)⟩
 cases gz
 rotate_left
 ·have hzz := True.intro
  have HF : Hid (false = r) := by show _ = _; rw [← HR.out, pairOk]; simp
  clear hr hbb hsp hw hs hp hq hp3 hq3
  go_enter Try.func100, Try.ntmps100
  go_wp2_with fail
  refine (bare_is 5 0 _ 2 sc ⟨true, gc, gg, gra, grl, grc, grows, gca, gcl, gcc, gcells, gpa, gpl, gpc⟩ true HBB.out _).mono ?_
  rintro e w1 ⟨rfl, hb1⟩
  have hB1 := hB.out.trans (hb1.mono hB.out.size)
  have EN : Hid (∀ W : World, Below w1.heap.size w1 W → W.cell? ⟨w.heap.size, 0, none⟩ = some (.int .i64 5) ∧ W.cell? ⟨w.heap.size, 1, none⟩ = some (.int .i64 0) ∧ W.cell? ⟨w.heap.size, 2, none⟩ = some (.slice (some ⟨b, off, none⟩) 2 sc) ∧ W.cell? ⟨w.heap.size + 1, 0, none⟩ = some (.bool true) ∧ W.cell? ⟨w.heap.size + 1, 1, none⟩ = some (.int .i64 gc) ∧ W.cell? ⟨w.heap.size + 1, 2, none⟩ = some (.int .u64 (gg : Int)) ∧ W.cell? ⟨w.heap.size + 1, 3, none⟩ = some (.slice gra grl grc) ∧ W.cell? ⟨w.heap.size + 1, 4, none⟩ = some (.slice gca gcl gcc) ∧ W.cell? ⟨w.heap.size + 1, 5, none⟩ = some (.slice gpa gpl gpc)) := fun W h => by obtain ⟨a0, a1, a2⟩ := tri_cells (heap_old (heap_old T0.out hb1) h); obtain ⟨c0, c1, c2, c3, c4, c5⟩ := six_cells (heap_old (heap_old T1.out hb1) h); exact ⟨a0, a1, a2, c0, c1, c2, c3, c4, c5⟩
  clear x0 x1 x2 y0 y1 y2 y3 y4 y5
  obtain ⟨m0, m1, m2, m3, m4, m5, m6, m7, m8⟩ := EN.out _ (Below.refl _ _)
  go_wp2_with fail
  go_region
  all_goals (go_wp2_with fail; go_ret; exact ⟨rbool HF.out, by first | exact hB1 | exact hB1.drew⟩)
 by_cases hl2 : gpl = 2
 rotate_left
 ·have hne : ((gpl : Int) == 2) = false := by simp; omega
  have HF : Hid (false = r) := by show _ = _; rw [← HR.out, pairOk, decide_eq_false (by omega)]; simp
  clear hr hbb hsp hw hs hp hq hp3 hq3
  go_enter Try.func100, Try.ntmps100
  go_wp2_with fail
  refine (bare_is 5 0 _ 2 sc ⟨false, gc, gg, gra, grl, grc, grows, gca, gcl, gcc, gcells, gpa, gpl, gpc⟩ true HBB.out _).mono ?_
  rintro e w1 ⟨rfl, hb1⟩
  have hB1 := hB.out.trans (hb1.mono hB.out.size)
  have EN : Hid (∀ W : World, Below w1.heap.size w1 W → W.cell? ⟨w.heap.size, 0, none⟩ = some (.int .i64 5) ∧ W.cell? ⟨w.heap.size, 1, none⟩ = some (.int .i64 0) ∧ W.cell? ⟨w.heap.size, 2, none⟩ = some (.slice (some ⟨b, off, none⟩) 2 sc) ∧ W.cell? ⟨w.heap.size + 1, 0, none⟩ = some (.bool false) ∧ W.cell? ⟨w.heap.size + 1, 1, none⟩ = some (.int .i64 gc) ∧ W.cell? ⟨w.heap.size + 1, 2, none⟩ = some (.int .u64 (gg : Int)) ∧ W.cell? ⟨w.heap.size + 1, 3, none⟩ = some (.slice gra grl grc) ∧ W.cell? ⟨w.heap.size + 1, 4, none⟩ = some (.slice gca gcl gcc) ∧ W.cell? ⟨w.heap.size + 1, 5, none⟩ = some (.slice gpa gpl gpc)) := fun W h => by obtain ⟨a0, a1, a2⟩ := tri_cells (heap_old (heap_old T0.out hb1) h); obtain ⟨c0, c1, c2, c3, c4, c5⟩ := six_cells (heap_old (heap_old T1.out hb1) h); exact ⟨a0, a1, a2, c0, c1, c2, c3, c4, c5⟩
  clear x0 x1 x2 y0 y1 y2 y3 y4 y5
  obtain ⟨m0, m1, m2, m3, m4, m5, m6, m7, m8⟩ := EN.out _ (Below.refl _ _)
  go_wp2_with fail
  go_region
  all_goals (go_wp2_with fail; go_ret; exact ⟨rbool HF.out, by first | exact hB1 | exact hB1.drew⟩)
 subst hl2
 obtain ⟨x, y, rfl⟩ := two_of hgl
 obtain ⟨_, b2, of2, ha2, hb2l, hx6, hy6, hxi, hyi⟩ := hw.two
 dsimp only at ha2
 subst ha2
 have XA := Lib.hid hxi.at_; have YA := Lib.hid hyi.at_
 have XS := Lib.hid (hs x (by simp)); have YS := Lib.hid (hs y (by simp))
 obtain ⟨⟨xz, xc, xg, xra, xrl, xrc, xrows, xca, xcl, xcc, xcells, xpa, xpl, xpc⟩, xps⟩ := x
 obtain ⟨⟨yz, yc, yg, yra, yrl, yrc, yrows, yca, ycl, ycc, ycells, ypa, ypl, ypc⟩, yps⟩ := y
 have HX6 := Lib.hid hx6; have HY6 := Lib.hid hy6
 have XSS : Hid (0 ≤ xrl) := XS.out; have YSS : Hid (0 ≤ yrl) := YS.out
 have XAA : Hid (WF.At w ⟨xz, xc, xg, xra, xrl, xrc, xrows, xca, xcl, xcc, xcells, xpa, xpl, xpc⟩) := XA.out; have YAA : Hid (WF.At w ⟨yz, yc, yg, yra, yrl, yrc, yrows, yca, ycl, ycc, ycells, ypa, ypl, ypc⟩) := YA.out
 clear XS YS XA YA
 obtain ⟨r1, hr1⟩ : ∃ o, pwOk pt pn ⟨xz, xc, xg, xra, xrl, xrc, xrows, xca, xcl, xcc, xcells, xpa, xpl, xpc⟩ = o := ⟨_, rfl⟩
 obtain ⟨r2, hr2⟩ : ∃ o, pwOk qt qn ⟨yz, yc, yg, yra, yrl, yrc, yrows, yca, ycl, ycc, ycells, ypa, ypl, ypc⟩ = o := ⟨_, rfl⟩
 have HR1 := Lib.hid hr1; have HR2 := Lib.hid hr2
 have HRR : Hid ((r1 && r2) = r) := by show _ = _; rw [← HR.out, pairOk, HBB.out]; simp [pwAt, SV.f, WV.f, hr1, hr2]
 clear hr hbb hsp hw hs hp hq hp3 hq3 hx6 hy6 hxi hyi hr1 hr2 hgl HR
 cases r1
 ·have HF : Hid (false = r) := by show _ = _; rw [← HRR.out]; simp
  go_enter Try.func100, Try.ntmps100
  go_wp2_with fail
  refine (bare_is 5 0 _ 2 sc ⟨false, gc, gg, gra, grl, grc, grows, gca, gcl, gcc, gcells, (some ⟨b2, of2, none⟩), 2, gpc⟩ true HBB.out _).mono ?_
  rintro e w1 ⟨rfl, hb1⟩
  have hB1 := hB.out.trans (hb1.mono hB.out.size)
  have EN : Hid (∀ W : World, Below w1.heap.size w1 W → W.cell? ⟨w.heap.size, 0, none⟩ = some (.int .i64 5) ∧ W.cell? ⟨w.heap.size, 1, none⟩ = some (.int .i64 0) ∧ W.cell? ⟨w.heap.size, 2, none⟩ = some (.slice (some ⟨b, off, none⟩) 2 sc) ∧ W.cell? ⟨w.heap.size + 1, 0, none⟩ = some (.bool false) ∧ W.cell? ⟨w.heap.size + 1, 1, none⟩ = some (.int .i64 gc) ∧ W.cell? ⟨w.heap.size + 1, 2, none⟩ = some (.int .u64 (gg : Int)) ∧ W.cell? ⟨w.heap.size + 1, 3, none⟩ = some (.slice gra grl grc) ∧ W.cell? ⟨w.heap.size + 1, 4, none⟩ = some (.slice gca gcl gcc) ∧ W.cell? ⟨w.heap.size + 1, 5, none⟩ = some (.slice (some ⟨b2, of2, none⟩) 2 gpc) ∧ W.cell? ⟨b, off, none⟩ = some (.int .i64 pt) ∧ W.cell? ⟨b, off + 1, none⟩ = some (.int .i64 pn) ∧ W.cell? ⟨b, off + 2, none⟩ = some (.slice pa pl pc) ∧ W.cell? ⟨b, off + 3, none⟩ = some (.int .i64 qt) ∧ W.cell? ⟨b, off + 4, none⟩ = some (.int .i64 qn) ∧ W.cell? ⟨b, off + 5, none⟩ = some (.slice qa ql qc) ∧ W.cell? ⟨b2, of2, none⟩ = some (.bool xz) ∧ W.cell? ⟨b2, of2 + 1, none⟩ = some (.int .i64 xc) ∧ W.cell? ⟨b2, of2 + 2, none⟩ = some (.int .u64 (xg : Int)) ∧ W.cell? ⟨b2, of2 + 3, none⟩ = some (.slice xra xrl xrc) ∧ W.cell? ⟨b2, of2 + 4, none⟩ = some (.slice xca xcl xcc) ∧ W.cell? ⟨b2, of2 + 5, none⟩ = some (.slice xpa xpl xpc) ∧ W.cell? ⟨b2, of2 + 6, none⟩ = some (.bool yz) ∧ W.cell? ⟨b2, of2 + 7, none⟩ = some (.int .i64 yc) ∧ W.cell? ⟨b2, of2 + 8, none⟩ = some (.int .u64 (yg : Int)) ∧ W.cell? ⟨b2, of2 + 9, none⟩ = some (.slice yra yrl yrc) ∧ W.cell? ⟨b2, of2 + 10, none⟩ = some (.slice yca ycl ycc) ∧ W.cell? ⟨b2, of2 + 11, none⟩ = some (.slice ypa ypl ypc)) := fun W h => by
   obtain ⟨a0, a1, a2⟩ := tri_cells (heap_old (heap_old T0.out hb1) h); obtain ⟨c0, c1, c2, c3, c4, c5⟩ := six_cells (heap_old (heap_old T1.out hb1) h)
   have hww : Below w.heap.size w W := hB1.trans (h.mono hB1.size)
   obtain ⟨d0, d1, d2⟩ := HP3.out.below hww; obtain ⟨e0, e1, e2⟩ := HQ3.out.below hww; obtain ⟨f0, f1, f2, f3, f4, f5⟩ := HX6.out.below hww; obtain ⟨g0, g1, g2, g3, g4, g5⟩ := HY6.out.below hww
   exact ⟨a0, a1, a2, c0, c1, c2, c3, c4, c5, d0, d1, d2, e0, e1, e2, f0, f1, f2, f3, f4, f5, g0, g1, g2, g3, g4, g5⟩
  clear x0 x1 x2 y0 y1 y2 y3 y4 y5
  obtain ⟨m0, m1, m2, m3, m4, m5, m6, m7, m8, m9, m10, m11, m12, m13, m14, m15, m16, m17, m18, m19, m20, m21, m22, m23, m24, m25, m26⟩ := EN.out _ (Below.refl _ _)
  have D0 : Hid (Below w1.heap.size w1 w1.drew) := (Below.refl _ _).drew
  go_wp2_with fail
  refine wp_region_held_drew (S := (fun w' => w'.cell? ⟨w.heap.size, 0, none⟩ = some (.int .i64 5) ∧ w'.cell? ⟨w.heap.size, 1, none⟩ = some (.int .i64 0) ∧ w'.cell? ⟨w.heap.size, 2, none⟩ = some (.slice (some ⟨b, off, none⟩) 2 sc) ∧ w'.cell? ⟨w.heap.size + 1, 0, none⟩ = some (.bool false) ∧ w'.cell? ⟨w.heap.size + 1, 1, none⟩ = some (.int .i64 gc) ∧ w'.cell? ⟨w.heap.size + 1, 2, none⟩ = some (.int .u64 (gg : Int)) ∧ w'.cell? ⟨w.heap.size + 1, 3, none⟩ = some (.slice gra grl grc) ∧ w'.cell? ⟨w.heap.size + 1, 4, none⟩ = some (.slice gca gcl gcc) ∧ w'.cell? ⟨w.heap.size + 1, 5, none⟩ = some (.slice (some ⟨b2, of2, none⟩) 2 gpc) ∧ w'.cell? ⟨b, off, none⟩ = some (.int .i64 pt) ∧ w'.cell? ⟨b, off + 1, none⟩ = some (.int .i64 pn) ∧ w'.cell? ⟨b, off + 2, none⟩ = some (.slice pa pl pc) ∧ w'.cell? ⟨b, off + 3, none⟩ = some (.int .i64 qt) ∧ w'.cell? ⟨b, off + 4, none⟩ = some (.int .i64 qn) ∧ w'.cell? ⟨b, off + 5, none⟩ = some (.slice qa ql qc) ∧ w'.cell? ⟨b2, of2, none⟩ = some (.bool xz) ∧ w'.cell? ⟨b2, of2 + 1, none⟩ = some (.int .i64 xc) ∧ w'.cell? ⟨b2, of2 + 2, none⟩ = some (.int .u64 (xg : Int)) ∧ w'.cell? ⟨b2, of2 + 3, none⟩ = some (.slice xra xrl xrc) ∧ w'.cell? ⟨b2, of2 + 4, none⟩ = some (.slice xca xcl xcc) ∧ w'.cell? ⟨b2, of2 + 5, none⟩ = some (.slice xpa xpl xpc) ∧ w'.cell? ⟨b2, of2 + 6, none⟩ = some (.bool yz) ∧ w'.cell? ⟨b2, of2 + 7, none⟩ = some (.int .i64 yc) ∧ w'.cell? ⟨b2, of2 + 8, none⟩ = some (.int .u64 (yg : Int)) ∧ w'.cell? ⟨b2, of2 + 9, none⟩ = some (.slice yra yrl yrc) ∧ w'.cell? ⟨b2, of2 + 10, none⟩ = some (.slice yca ycl ycc) ∧ w'.cell? ⟨b2, of2 + 11, none⟩ = some (.slice ypa ypl ypc))) (by kernel_rfl) (by with_reducible exact EN.out _ D0.out) (fun hHeld => ?_)
  refine wpAnyH_take (i := 0) (oi := { dst := some 12, op := Op.fieldAddr 45 (Operand.tmp 3) 0, type := 0, pos := "weight.go:68", after := #[], guard := none }) (v := ?v0x1) rfl (by kernel_rfl) (by kernel_rfl) (by kernel_rfl) (fun _ _ _ h => h) (Or.inl ⟨by rfl, ?hy0x1⟩) (by assumption) ?rest0x1
  case hy0x1 => (intro w hSw; (try dsimp only at hSw); go_simp; try with_reducible rfl)
  try simp only [Act.put, List.setIfInBounds_toArray, List.set_cons_zero, List.set_cons_succ]
  refine wpAnyH_take (i := 1) (oi := { dst := some 13, op := Op.load 4 (Operand.tmp 12), type := 4, pos := "weight.go:68", after := #[{ on := 0, ground := Ground.data }], guard := none }) (v := ?v1x1) rfl (by kernel_rfl) (by kernel_rfl) (by kernel_rfl) (fun _ _ _ h => h) (Or.inl ⟨by rfl, ?hy1x1⟩) (by assumption) ?rest1x1
  case hy1x1 => (intro w hSw; (try dsimp only at hSw); go_simp; try with_reducible rfl)
  try simp only [Act.put, List.setIfInBounds_toArray, List.set_cons_zero, List.set_cons_succ]
  refine wpAnyH_take (i := 2) (oi := { dst := some 14, op := Op.unOp UnOp.not 4 (Operand.tmp 13), type := 4, pos := "weight.go:68", after := #[{ on := 1, ground := Ground.data }], guard := none }) (v := ?v2x1) rfl (by kernel_rfl) (by kernel_rfl) (by kernel_rfl) (fun _ _ _ h => h) (Or.inl ⟨by rfl, ?hy2x1⟩) (by assumption) ?rest2x1
  case hy2x1 => (intro w hSw; (try dsimp only at hSw); go_simp; try with_reducible rfl)
  try simp only [Act.put, List.setIfInBounds_toArray, List.set_cons_zero, List.set_cons_succ]
  refine wpAnyH_take (i := 3) (oi := { dst := some 15, op := Op.move (Operand.tmp 14), type := 4, pos := "weight.go:68", after := #[{ on := 2, ground := Ground.data }], guard := none }) (v := ?v3x1) rfl (by kernel_rfl) (by kernel_rfl) (by kernel_rfl) (fun _ _ _ h => h) (Or.inl ⟨by rfl, ?hy3x1⟩) (by assumption) ?rest3x1
  case hy3x1 => (intro w hSw; (try dsimp only at hSw); go_simp; try with_reducible rfl)
  try simp only [Act.put, List.setIfInBounds_toArray, List.set_cons_zero, List.set_cons_succ]
  refine wpAnyH_take (i := 4) (oi := { dst := some 16, op := Op.fieldAddr 45 (Operand.tmp 3) 4, type := 0, pos := "weight.go:68", after := #[{ on := 3, ground := Ground.guard }], guard := some (3, true) }) (v := ?v4x1) rfl (by kernel_rfl) (by kernel_rfl) (by kernel_rfl) (fun _ _ _ h => h) (Or.inl ⟨by rfl, ?hy4x1⟩) (by assumption) ?rest4x1
  case hy4x1 => (intro w hSw; (try dsimp only at hSw); go_simp; try with_reducible rfl)
  try simp only [Act.put, List.setIfInBounds_toArray, List.set_cons_zero, List.set_cons_succ]
  refine wpAnyH_take (i := 5) (oi := { dst := some 17, op := Op.load 43 (Operand.tmp 16), type := 43, pos := "weight.go:68", after := #[{ on := 4, ground := Ground.data }, { on := 3, ground := Ground.guard }], guard := some (3, true) }) (v := ?v5x1) rfl (by kernel_rfl) (by kernel_rfl) (by kernel_rfl) (fun _ _ _ h => h) (Or.inl ⟨by rfl, ?hy5x1⟩) (by assumption) ?rest5x1
  case hy5x1 => (intro w hSw; (try dsimp only at hSw); go_simp; try with_reducible rfl)
  try simp only [Act.put, List.setIfInBounds_toArray, List.set_cons_zero, List.set_cons_succ]
  refine wpAnyH_take (i := 6) (oi := { dst := some 18, op := Op.call { callee := Callee.builtin Builtin.len, args := #[Operand.tmp 17], argTypes := #[43] }, type := 3, pos := "weight.go:68", after := #[{ on := 5, ground := Ground.data }, { on := 3, ground := Ground.guard }], guard := some (3, true) }) (v := ?v6x1) rfl (by kernel_rfl) (by kernel_rfl) (by kernel_rfl) (fun _ _ _ h => h) (Or.inl ⟨by rfl, ?hy6x1⟩) (by assumption) ?rest6x1
  case hy6x1 => (intro w hSw; (try dsimp only at hSw); go_simp; try with_reducible rfl)
  try simp only [Act.put, List.setIfInBounds_toArray, List.set_cons_zero, List.set_cons_succ]
  refine wpAnyH_take (i := 7) (oi := { dst := some 19, op := Op.binOp BinOp.eql 3 (Operand.tmp 18) (Operand.const (Value.int IntKind.i64 2)) 3, type := 4, pos := "weight.go:68", after := #[{ on := 6, ground := Ground.data }, { on := 3, ground := Ground.guard }], guard := some (3, true) }) (v := ?v7x1) rfl (by kernel_rfl) (by kernel_rfl) (by kernel_rfl) (fun _ _ _ h => h) (Or.inl ⟨by rfl, ?hy7x1⟩) (by assumption) ?rest7x1
  case hy7x1 => (intro w hSw; (try dsimp only at hSw); go_simp; try with_reducible rfl)
  try simp only [Act.put, List.setIfInBounds_toArray, List.set_cons_zero, List.set_cons_succ]
  refine wpAnyH_take (i := 8) (oi := { dst := some 20, op := Op.pick (Operand.tmp 15) (Operand.tmp 19) (Operand.const (Value.bool false)), type := 4, pos := "weight.go:68", after := #[{ on := 3, ground := Ground.data }, { on := 7, ground := Ground.data }], guard := none }) (v := ?v8x1) rfl (by kernel_rfl) (by kernel_rfl) (by kernel_rfl) (fun _ _ _ h => h) (Or.inl ⟨by rfl, ?hy8x1⟩) (by assumption) ?rest8x1
  case hy8x1 => (intro w hSw; (try dsimp only at hSw); go_simp; try with_reducible rfl)
  try simp only [Act.put, List.setIfInBounds_toArray, List.set_cons_zero, List.set_cons_succ]
  refine wpAnyH_take (i := 9) (oi := { dst := some 21, op := Op.move (Operand.tmp 20), type := 4, pos := "weight.go:68", after := #[{ on := 8, ground := Ground.data }, { on := 3, ground := Ground.chain }], guard := none }) (v := ?v9x1) rfl (by kernel_rfl) (by kernel_rfl) (by kernel_rfl) (fun _ _ _ h => h) (Or.inl ⟨by rfl, ?hy9x1⟩) (by assumption) ?rest9x1
  case hy9x1 => (intro w hSw; (try dsimp only at hSw); go_simp; try with_reducible rfl)
  try simp only [Act.put, List.setIfInBounds_toArray, List.set_cons_zero, List.set_cons_succ]
  refine wpAnyH_take (i := 10) (oi := { dst := some 22, op := Op.fieldAddr 25 (Operand.tmp 2) 2, type := 0, pos := "weight.go:68", after := #[{ on := 9, ground := Ground.guard }], guard := some (9, true) }) (v := ?v10x1) rfl (by kernel_rfl) (by kernel_rfl) (by kernel_rfl) (fun _ _ _ h => h) (Or.inl ⟨by rfl, ?hy10x1⟩) (by assumption) ?rest10x1
  case hy10x1 => (intro w hSw; (try dsimp only at hSw); go_simp; try with_reducible rfl)
  try simp only [Act.put, List.setIfInBounds_toArray, List.set_cons_zero, List.set_cons_succ]
  refine wpAnyH_take (i := 11) (oi := { dst := some 23, op := Op.load 23 (Operand.tmp 22), type := 23, pos := "weight.go:68", after := #[{ on := 10, ground := Ground.data }, { on := 9, ground := Ground.guard }], guard := some (9, true) }) (v := ?v11x1) rfl (by kernel_rfl) (by kernel_rfl) (by kernel_rfl) (fun _ _ _ h => h) (Or.inl ⟨by rfl, ?hy11x1⟩) (by assumption) ?rest11x1
  case hy11x1 => (intro w hSw; (try dsimp only at hSw); go_simp; try with_reducible rfl)
  try simp only [Act.put, List.setIfInBounds_toArray, List.set_cons_zero, List.set_cons_succ]
  refine wpAnyH_take (i := 12) (oi := { dst := some 24, op := Op.indexAddr 23 (Operand.tmp 23) (Operand.const (Value.int IntKind.i64 0)), type := 0, pos := "weight.go:68", after := #[{ on := 11, ground := Ground.data }, { on := 9, ground := Ground.guard }], guard := some (9, true) }) (v := ?v12x1) rfl (by kernel_rfl) (by kernel_rfl) (by kernel_rfl) (fun _ _ _ h => h) (Or.inl ⟨by rfl, ?hy12x1⟩) (by assumption) ?rest12x1
  case hy12x1 => (intro w hSw; (try dsimp only at hSw); go_simp; try with_reducible rfl)
  try simp only [Act.put, List.setIfInBounds_toArray, List.set_cons_zero, List.set_cons_succ]
  refine wpAnyH_take (i := 13) (oi := { dst := some 25, op := Op.load 25 (Operand.tmp 24), type := 25, pos := "weight.go:68", after := #[{ on := 12, ground := Ground.data }, { on := 9, ground := Ground.guard }], guard := some (9, true) }) (v := ?v13x1) rfl (by kernel_rfl) (by kernel_rfl) (by kernel_rfl) (fun _ _ _ h => h) (Or.inl ⟨by rfl, ?hy13x1⟩) (by assumption) ?rest13x1
  case hy13x1 => (intro w hSw; (try dsimp only at hSw); go_simp; try with_reducible rfl)
  try simp only [Act.put, List.setIfInBounds_toArray, List.set_cons_zero, List.set_cons_succ]
  refine wpAnyH_take (i := 14) (oi := { dst := some 26, op := Op.fieldAddr 45 (Operand.tmp 3) 4, type := 0, pos := "weight.go:68", after := #[{ on := 9, ground := Ground.guard }], guard := some (9, true) }) (v := ?v14x1) rfl (by kernel_rfl) (by kernel_rfl) (by kernel_rfl) (fun _ _ _ h => h) (Or.inl ⟨by rfl, ?hy14x1⟩) (by assumption) ?rest14x1
  case hy14x1 => (intro w hSw; (try dsimp only at hSw); go_simp; try with_reducible rfl)
  try simp only [Act.put, List.setIfInBounds_toArray, List.set_cons_zero, List.set_cons_succ]
  refine wpAnyH_take (i := 15) (oi := { dst := some 27, op := Op.load 43 (Operand.tmp 26), type := 43, pos := "weight.go:68", after := #[{ on := 14, ground := Ground.data }, { on := 9, ground := Ground.guard }], guard := some (9, true) }) (v := ?v15x1) rfl (by kernel_rfl) (by kernel_rfl) (by kernel_rfl) (fun _ _ _ h => h) (Or.inl ⟨by rfl, ?hy15x1⟩) (by assumption) ?rest15x1
  case hy15x1 => (intro w hSw; (try dsimp only at hSw); go_simp; try with_reducible rfl)
  try simp only [Act.put, List.setIfInBounds_toArray, List.set_cons_zero, List.set_cons_succ]
  refine wpAnyH_take (i := 16) (oi := { dst := some 28, op := Op.indexAddr 43 (Operand.tmp 27) (Operand.const (Value.int IntKind.i64 0)), type := 0, pos := "weight.go:68", after := #[{ on := 15, ground := Ground.data }, { on := 9, ground := Ground.guard }], guard := some (9, true) }) (v := ?v16x1) rfl (by kernel_rfl) (by kernel_rfl) (by kernel_rfl) (fun _ _ _ h => h) (Or.inl ⟨by rfl, ?hy16x1⟩) (by assumption) ?rest16x1
  case hy16x1 => (intro w hSw; (try dsimp only at hSw); go_simp; try with_reducible rfl)
  try simp only [Act.put, List.setIfInBounds_toArray, List.set_cons_zero, List.set_cons_succ]
  refine wpAnyH_take (i := 17) (oi := { dst := some 29, op := Op.load 45 (Operand.tmp 28), type := 45, pos := "weight.go:68", after := #[{ on := 16, ground := Ground.data }, { on := 9, ground := Ground.guard }], guard := some (9, true) }) (v := ?v17x1) rfl (by kernel_rfl) (by kernel_rfl) (by kernel_rfl) (fun _ _ _ h => h) (Or.inl ⟨by rfl, ?hy17x1⟩) (by assumption) ?rest17x1
  case hy17x1 => (intro w hSw; (try dsimp only at hSw); go_simp; try with_reducible rfl)
  try simp only [Act.put, List.setIfInBounds_toArray, List.set_cons_zero, List.set_cons_succ]
  refine wpAnyH_ready (rs := [18]) (by kernel_rfl) (by simp) (AllReadyH.cons (o := { dst := some 30, op := Op.call { callee := Callee.value (Operand.func 100), args := #[Operand.tmp 25, Operand.tmp 29], argTypes := #[25, 45] }, type := 4, pos := "weight.go:68", after := #[{ on := 13, ground := Ground.data }, { on := 17, ground := Ground.data }, { on := 9, ground := Ground.chain }, { on := 9, ground := Ground.guard }], guard := some (9, true) }) rfl (fun K hK => ?_) AllReadyH.nil)
  go_simp
  go_at_call 100
  with_reducible refine (isA_plainY pt pn pa pl pc ⟨xz, xc, xg, xra, xrl, xrc, xrows, xca, xcl, xcc, xcells, xpa, xpl, xpc⟩ HP.out XSS.out _ (XAA.out.below (hB1.trans ((D0.out).mono hB1.size))) false HR1.out).mono ?_
  rintro e z1 ⟨rfl, hz1⟩
  have D1 : Hid (Below w1.heap.size w1 z1) := Lib.hid (D0.out.trans (hz1.mono D0.out.size))
  dsimp only
  refine hK.out _ _ (by with_reducible exact EN.out _ D1.out) (fun hHeld1 => ?_)
  clear hK K
  try simp only [Act.put, List.setIfInBounds_toArray, List.set_cons_zero, List.set_cons_succ]
  refine wpAnyH_take (i := 19) (oi := { dst := some 31, op := Op.pick (Operand.tmp 21) (Operand.tmp 30) (Operand.const (Value.bool false)), type := 4, pos := "weight.go:68", after := #[{ on := 9, ground := Ground.data }, { on := 18, ground := Ground.data }], guard := none }) (v := ?v19x1) rfl (by kernel_rfl) (by kernel_rfl) (by kernel_rfl) (fun _ _ _ h => h) (Or.inl ⟨by rfl, ?hy19x1⟩) (by assumption) ?rest19x1
  case hy19x1 => (intro w hSw; (try dsimp only at hSw); go_simp; try with_reducible rfl)
  try simp only [Act.put, List.setIfInBounds_toArray, List.set_cons_zero, List.set_cons_succ]
  refine wpAnyH_take (i := 20) (oi := { dst := some 32, op := Op.move (Operand.tmp 31), type := 4, pos := "weight.go:68", after := #[{ on := 19, ground := Ground.data }, { on := 18, ground := Ground.chain }], guard := none }) (v := ?v20x1) rfl (by kernel_rfl) (by kernel_rfl) (by kernel_rfl) (fun _ _ _ h => h) (Or.inl ⟨by rfl, ?hy20x1⟩) (by assumption) ?rest20x1
  case hy20x1 => (intro w hSw; (try dsimp only at hSw); go_simp; try with_reducible rfl)
  try simp only [Act.put, List.setIfInBounds_toArray, List.set_cons_zero, List.set_cons_succ]
  refine wpAnyH_take (i := 21) (oi := { dst := some 33, op := Op.fieldAddr 25 (Operand.tmp 2) 2, type := 0, pos := "weight.go:68", after := #[{ on := 20, ground := Ground.guard }], guard := some (20, true) }) (v := undef) rfl (by kernel_rfl) (by kernel_rfl) (by kernel_rfl) (fun _ _ _ h => h) (Or.inr ⟨by rfl, rfl⟩) (by assumption) ?rest21x1
  try simp only [Act.put, List.setIfInBounds_toArray, List.set_cons_zero, List.set_cons_succ]
  refine wpAnyH_take (i := 22) (oi := { dst := some 34, op := Op.load 23 (Operand.tmp 33), type := 23, pos := "weight.go:68", after := #[{ on := 21, ground := Ground.data }, { on := 20, ground := Ground.guard }], guard := some (20, true) }) (v := undef) rfl (by kernel_rfl) (by kernel_rfl) (by kernel_rfl) (fun _ _ _ h => h) (Or.inr ⟨by rfl, rfl⟩) (by assumption) ?rest22x1
  try simp only [Act.put, List.setIfInBounds_toArray, List.set_cons_zero, List.set_cons_succ]
  refine wpAnyH_take (i := 23) (oi := { dst := some 35, op := Op.indexAddr 23 (Operand.tmp 34) (Operand.const (Value.int IntKind.i64 1)), type := 0, pos := "weight.go:68", after := #[{ on := 22, ground := Ground.data }, { on := 20, ground := Ground.guard }], guard := some (20, true) }) (v := undef) rfl (by kernel_rfl) (by kernel_rfl) (by kernel_rfl) (fun _ _ _ h => h) (Or.inr ⟨by rfl, rfl⟩) (by assumption) ?rest23x1
  try simp only [Act.put, List.setIfInBounds_toArray, List.set_cons_zero, List.set_cons_succ]
  refine wpAnyH_take (i := 24) (oi := { dst := some 36, op := Op.load 25 (Operand.tmp 35), type := 25, pos := "weight.go:68", after := #[{ on := 23, ground := Ground.data }, { on := 20, ground := Ground.guard }], guard := some (20, true) }) (v := undef) rfl (by kernel_rfl) (by kernel_rfl) (by kernel_rfl) (fun _ _ _ h => h) (Or.inr ⟨by rfl, rfl⟩) (by assumption) ?rest24x1
  try simp only [Act.put, List.setIfInBounds_toArray, List.set_cons_zero, List.set_cons_succ]
  refine wpAnyH_take (i := 25) (oi := { dst := some 37, op := Op.fieldAddr 45 (Operand.tmp 3) 4, type := 0, pos := "weight.go:68", after := #[{ on := 20, ground := Ground.guard }], guard := some (20, true) }) (v := undef) rfl (by kernel_rfl) (by kernel_rfl) (by kernel_rfl) (fun _ _ _ h => h) (Or.inr ⟨by rfl, rfl⟩) (by assumption) ?rest25x1
  try simp only [Act.put, List.setIfInBounds_toArray, List.set_cons_zero, List.set_cons_succ]
  refine wpAnyH_take (i := 26) (oi := { dst := some 38, op := Op.load 43 (Operand.tmp 37), type := 43, pos := "weight.go:68", after := #[{ on := 25, ground := Ground.data }, { on := 20, ground := Ground.guard }], guard := some (20, true) }) (v := undef) rfl (by kernel_rfl) (by kernel_rfl) (by kernel_rfl) (fun _ _ _ h => h) (Or.inr ⟨by rfl, rfl⟩) (by assumption) ?rest26x1
  try simp only [Act.put, List.setIfInBounds_toArray, List.set_cons_zero, List.set_cons_succ]
  refine wpAnyH_take (i := 27) (oi := { dst := some 39, op := Op.indexAddr 43 (Operand.tmp 38) (Operand.const (Value.int IntKind.i64 1)), type := 0, pos := "weight.go:68", after := #[{ on := 26, ground := Ground.data }, { on := 20, ground := Ground.guard }], guard := some (20, true) }) (v := undef) rfl (by kernel_rfl) (by kernel_rfl) (by kernel_rfl) (fun _ _ _ h => h) (Or.inr ⟨by rfl, rfl⟩) (by assumption) ?rest27x1
  try simp only [Act.put, List.setIfInBounds_toArray, List.set_cons_zero, List.set_cons_succ]
  refine wpAnyH_take (i := 28) (oi := { dst := some 40, op := Op.load 45 (Operand.tmp 39), type := 45, pos := "weight.go:68", after := #[{ on := 27, ground := Ground.data }, { on := 20, ground := Ground.guard }], guard := some (20, true) }) (v := undef) rfl (by kernel_rfl) (by kernel_rfl) (by kernel_rfl) (fun _ _ _ h => h) (Or.inr ⟨by rfl, rfl⟩) (by assumption) ?rest28x1
  try simp only [Act.put, List.setIfInBounds_toArray, List.set_cons_zero, List.set_cons_succ]
  refine wpAnyH_take (i := 29) (oi := { dst := some 41, op := Op.call { callee := Callee.value (Operand.func 100), args := #[Operand.tmp 36, Operand.tmp 40], argTypes := #[25, 45] }, type := 4, pos := "weight.go:68", after := #[{ on := 24, ground := Ground.data }, { on := 28, ground := Ground.data }, { on := 20, ground := Ground.chain }, { on := 20, ground := Ground.guard }], guard := some (20, true) }) (v := undef) rfl (by kernel_rfl) (by kernel_rfl) (by kernel_rfl) (fun _ _ _ h => h) (Or.inr ⟨by rfl, rfl⟩) (by assumption) ?rest29x1
  try simp only [Act.put, List.setIfInBounds_toArray, List.set_cons_zero, List.set_cons_succ]
  refine wpAnyH_take (i := 30) (oi := { dst := some 42, op := Op.pick (Operand.tmp 32) (Operand.tmp 41) (Operand.const (Value.bool false)), type := 4, pos := "weight.go:68", after := #[{ on := 20, ground := Ground.data }, { on := 29, ground := Ground.data }], guard := none }) (v := ?v30x1) rfl (by kernel_rfl) (by kernel_rfl) (by kernel_rfl) (fun _ _ _ h => h) (Or.inl ⟨by rfl, ?hy30x1⟩) (by assumption) ?rest30x1
  case hy30x1 => (intro w hSw; (try dsimp only at hSw); go_simp; try with_reducible rfl)
  try simp only [Act.put, List.setIfInBounds_toArray, List.set_cons_zero, List.set_cons_succ]
  refine wpAnyH_take (i := 31) (oi := { dst := some 4, op := Op.assign (Operand.tmp 42), type := 4, pos := "weight.go:68", after := #[{ on := 30, ground := Ground.data }, { on := 29, ground := Ground.chain }, { on := 0, ground := Ground.phase }, { on := 1, ground := Ground.phase }, { on := 2, ground := Ground.phase }, { on := 3, ground := Ground.phase }, { on := 4, ground := Ground.phase }, { on := 5, ground := Ground.phase }, { on := 6, ground := Ground.phase }, { on := 7, ground := Ground.phase }, { on := 8, ground := Ground.phase }, { on := 9, ground := Ground.phase }, { on := 10, ground := Ground.phase }, { on := 11, ground := Ground.phase }, { on := 12, ground := Ground.phase }, { on := 13, ground := Ground.phase }, { on := 14, ground := Ground.phase }, { on := 15, ground := Ground.phase }, { on := 16, ground := Ground.phase }, { on := 17, ground := Ground.phase }, { on := 18, ground := Ground.phase }, { on := 19, ground := Ground.phase }, { on := 20, ground := Ground.phase }, { on := 21, ground := Ground.phase }, { on := 22, ground := Ground.phase }, { on := 23, ground := Ground.phase }, { on := 24, ground := Ground.phase }, { on := 25, ground := Ground.phase }, { on := 26, ground := Ground.phase }, { on := 27, ground := Ground.phase }, { on := 28, ground := Ground.phase }, { on := 29, ground := Ground.phase }, { on := 30, ground := Ground.phase }], guard := none }) (v := ?v31x1) rfl (by kernel_rfl) (by kernel_rfl) (by kernel_rfl) (fun _ _ _ h => h) (Or.inl ⟨by rfl, ?hy31x1⟩) (by assumption) ?rest31x1
  case hy31x1 => (intro w hSw; (try dsimp only at hSw); go_simp; try with_reducible rfl)
  try simp only [Act.put, List.setIfInBounds_toArray, List.set_cons_zero, List.set_cons_succ]
  refine wpAnyH_done (by kernel_rfl) ?_ _
  all_goals (go_wp2_with fail; go_ret; exact ⟨rbool HF.out, hB1.trans (D1.out.mono hB1.size)⟩)
 ·have HF : Hid (r2 = r) := by show _ = _; rw [← HRR.out]; simp
  go_enter Try.func100, Try.ntmps100
  go_wp2_with fail
  refine (bare_is 5 0 _ 2 sc ⟨false, gc, gg, gra, grl, grc, grows, gca, gcl, gcc, gcells, (some ⟨b2, of2, none⟩), 2, gpc⟩ true HBB.out _).mono ?_
  rintro e w1 ⟨rfl, hb1⟩
  have hB1 := hB.out.trans (hb1.mono hB.out.size)
  have EN : Hid (∀ W : World, Below w1.heap.size w1 W → W.cell? ⟨w.heap.size, 0, none⟩ = some (.int .i64 5) ∧ W.cell? ⟨w.heap.size, 1, none⟩ = some (.int .i64 0) ∧ W.cell? ⟨w.heap.size, 2, none⟩ = some (.slice (some ⟨b, off, none⟩) 2 sc) ∧ W.cell? ⟨w.heap.size + 1, 0, none⟩ = some (.bool false) ∧ W.cell? ⟨w.heap.size + 1, 1, none⟩ = some (.int .i64 gc) ∧ W.cell? ⟨w.heap.size + 1, 2, none⟩ = some (.int .u64 (gg : Int)) ∧ W.cell? ⟨w.heap.size + 1, 3, none⟩ = some (.slice gra grl grc) ∧ W.cell? ⟨w.heap.size + 1, 4, none⟩ = some (.slice gca gcl gcc) ∧ W.cell? ⟨w.heap.size + 1, 5, none⟩ = some (.slice (some ⟨b2, of2, none⟩) 2 gpc) ∧ W.cell? ⟨b, off, none⟩ = some (.int .i64 pt) ∧ W.cell? ⟨b, off + 1, none⟩ = some (.int .i64 pn) ∧ W.cell? ⟨b, off + 2, none⟩ = some (.slice pa pl pc) ∧ W.cell? ⟨b, off + 3, none⟩ = some (.int .i64 qt) ∧ W.cell? ⟨b, off + 4, none⟩ = some (.int .i64 qn) ∧ W.cell? ⟨b, off + 5, none⟩ = some (.slice qa ql qc) ∧ W.cell? ⟨b2, of2, none⟩ = some (.bool xz) ∧ W.cell? ⟨b2, of2 + 1, none⟩ = some (.int .i64 xc) ∧ W.cell? ⟨b2, of2 + 2, none⟩ = some (.int .u64 (xg : Int)) ∧ W.cell? ⟨b2, of2 + 3, none⟩ = some (.slice xra xrl xrc) ∧ W.cell? ⟨b2, of2 + 4, none⟩ = some (.slice xca xcl xcc) ∧ W.cell? ⟨b2, of2 + 5, none⟩ = some (.slice xpa xpl xpc) ∧ W.cell? ⟨b2, of2 + 6, none⟩ = some (.bool yz) ∧ W.cell? ⟨b2, of2 + 7, none⟩ = some (.int .i64 yc) ∧ W.cell? ⟨b2, of2 + 8, none⟩ = some (.int .u64 (yg : Int)) ∧ W.cell? ⟨b2, of2 + 9, none⟩ = some (.slice yra yrl yrc) ∧ W.cell? ⟨b2, of2 + 10, none⟩ = some (.slice yca ycl ycc) ∧ W.cell? ⟨b2, of2 + 11, none⟩ = some (.slice ypa ypl ypc)) := fun W h => by
   obtain ⟨a0, a1, a2⟩ := tri_cells (heap_old (heap_old T0.out hb1) h); obtain ⟨c0, c1, c2, c3, c4, c5⟩ := six_cells (heap_old (heap_old T1.out hb1) h)
   have hww : Below w.heap.size w W := hB1.trans (h.mono hB1.size)
   obtain ⟨d0, d1, d2⟩ := HP3.out.below hww; obtain ⟨e0, e1, e2⟩ := HQ3.out.below hww; obtain ⟨f0, f1, f2, f3, f4, f5⟩ := HX6.out.below hww; obtain ⟨g0, g1, g2, g3, g4, g5⟩ := HY6.out.below hww
   exact ⟨a0, a1, a2, c0, c1, c2, c3, c4, c5, d0, d1, d2, e0, e1, e2, f0, f1, f2, f3, f4, f5, g0, g1, g2, g3, g4, g5⟩
  clear x0 x1 x2 y0 y1 y2 y3 y4 y5
  obtain ⟨m0, m1, m2, m3, m4, m5, m6, m7, m8, m9, m10, m11, m12, m13, m14, m15, m16, m17, m18, m19, m20, m21, m22, m23, m24, m25, m26⟩ := EN.out _ (Below.refl _ _)
  have D0 : Hid (Below w1.heap.size w1 w1.drew) := (Below.refl _ _).drew
  go_wp2_with fail
  refine wp_region_held_drew (S := (fun w' => w'.cell? ⟨w.heap.size, 0, none⟩ = some (.int .i64 5) ∧ w'.cell? ⟨w.heap.size, 1, none⟩ = some (.int .i64 0) ∧ w'.cell? ⟨w.heap.size, 2, none⟩ = some (.slice (some ⟨b, off, none⟩) 2 sc) ∧ w'.cell? ⟨w.heap.size + 1, 0, none⟩ = some (.bool false) ∧ w'.cell? ⟨w.heap.size + 1, 1, none⟩ = some (.int .i64 gc) ∧ w'.cell? ⟨w.heap.size + 1, 2, none⟩ = some (.int .u64 (gg : Int)) ∧ w'.cell? ⟨w.heap.size + 1, 3, none⟩ = some (.slice gra grl grc) ∧ w'.cell? ⟨w.heap.size + 1, 4, none⟩ = some (.slice gca gcl gcc) ∧ w'.cell? ⟨w.heap.size + 1, 5, none⟩ = some (.slice (some ⟨b2, of2, none⟩) 2 gpc) ∧ w'.cell? ⟨b, off, none⟩ = some (.int .i64 pt) ∧ w'.cell? ⟨b, off + 1, none⟩ = some (.int .i64 pn) ∧ w'.cell? ⟨b, off + 2, none⟩ = some (.slice pa pl pc) ∧ w'.cell? ⟨b, off + 3, none⟩ = some (.int .i64 qt) ∧ w'.cell? ⟨b, off + 4, none⟩ = some (.int .i64 qn) ∧ w'.cell? ⟨b, off + 5, none⟩ = some (.slice qa ql qc) ∧ w'.cell? ⟨b2, of2, none⟩ = some (.bool xz) ∧ w'.cell? ⟨b2, of2 + 1, none⟩ = some (.int .i64 xc) ∧ w'.cell? ⟨b2, of2 + 2, none⟩ = some (.int .u64 (xg : Int)) ∧ w'.cell? ⟨b2, of2 + 3, none⟩ = some (.slice xra xrl xrc) ∧ w'.cell? ⟨b2, of2 + 4, none⟩ = some (.slice xca xcl xcc) ∧ w'.cell? ⟨b2, of2 + 5, none⟩ = some (.slice xpa xpl xpc) ∧ w'.cell? ⟨b2, of2 + 6, none⟩ = some (.bool yz) ∧ w'.cell? ⟨b2, of2 + 7, none⟩ = some (.int .i64 yc) ∧ w'.cell? ⟨b2, of2 + 8, none⟩ = some (.int .u64 (yg : Int)) ∧ w'.cell? ⟨b2, of2 + 9, none⟩ = some (.slice yra yrl yrc) ∧ w'.cell? ⟨b2, of2 + 10, none⟩ = some (.slice yca ycl ycc) ∧ w'.cell? ⟨b2, of2 + 11, none⟩ = some (.slice ypa ypl ypc))) (by kernel_rfl) (by with_reducible exact EN.out _ D0.out) (fun hHeld => ?_)
  refine wpAnyH_take (i := 0) (oi := { dst := some 12, op := Op.fieldAddr 45 (Operand.tmp 3) 0, type := 0, pos := "weight.go:68", after := #[], guard := none }) (v := ?v0x2) rfl (by kernel_rfl) (by kernel_rfl) (by kernel_rfl) (fun _ _ _ h => h) (Or.inl ⟨by rfl, ?hy0x2⟩) (by assumption) ?rest0x2
  case hy0x2 => (intro w hSw; (try dsimp only at hSw); go_simp; try with_reducible rfl)
  try simp only [Act.put, List.setIfInBounds_toArray, List.set_cons_zero, List.set_cons_succ]
  refine wpAnyH_take (i := 1) (oi := { dst := some 13, op := Op.load 4 (Operand.tmp 12), type := 4, pos := "weight.go:68", after := #[{ on := 0, ground := Ground.data }], guard := none }) (v := ?v1x2) rfl (by kernel_rfl) (by kernel_rfl) (by kernel_rfl) (fun _ _ _ h => h) (Or.inl ⟨by rfl, ?hy1x2⟩) (by assumption) ?rest1x2
  case hy1x2 => (intro w hSw; (try dsimp only at hSw); go_simp; try with_reducible rfl)
  try simp only [Act.put, List.setIfInBounds_toArray, List.set_cons_zero, List.set_cons_succ]
  refine wpAnyH_take (i := 2) (oi := { dst := some 14, op := Op.unOp UnOp.not 4 (Operand.tmp 13), type := 4, pos := "weight.go:68", after := #[{ on := 1, ground := Ground.data }], guard := none }) (v := ?v2x2) rfl (by kernel_rfl) (by kernel_rfl) (by kernel_rfl) (fun _ _ _ h => h) (Or.inl ⟨by rfl, ?hy2x2⟩) (by assumption) ?rest2x2
  case hy2x2 => (intro w hSw; (try dsimp only at hSw); go_simp; try with_reducible rfl)
  try simp only [Act.put, List.setIfInBounds_toArray, List.set_cons_zero, List.set_cons_succ]
  refine wpAnyH_take (i := 3) (oi := { dst := some 15, op := Op.move (Operand.tmp 14), type := 4, pos := "weight.go:68", after := #[{ on := 2, ground := Ground.data }], guard := none }) (v := ?v3x2) rfl (by kernel_rfl) (by kernel_rfl) (by kernel_rfl) (fun _ _ _ h => h) (Or.inl ⟨by rfl, ?hy3x2⟩) (by assumption) ?rest3x2
  case hy3x2 => (intro w hSw; (try dsimp only at hSw); go_simp; try with_reducible rfl)
  try simp only [Act.put, List.setIfInBounds_toArray, List.set_cons_zero, List.set_cons_succ]
  refine wpAnyH_take (i := 4) (oi := { dst := some 16, op := Op.fieldAddr 45 (Operand.tmp 3) 4, type := 0, pos := "weight.go:68", after := #[{ on := 3, ground := Ground.guard }], guard := some (3, true) }) (v := ?v4x2) rfl (by kernel_rfl) (by kernel_rfl) (by kernel_rfl) (fun _ _ _ h => h) (Or.inl ⟨by rfl, ?hy4x2⟩) (by assumption) ?rest4x2
  case hy4x2 => (intro w hSw; (try dsimp only at hSw); go_simp; try with_reducible rfl)
  try simp only [Act.put, List.setIfInBounds_toArray, List.set_cons_zero, List.set_cons_succ]
  refine wpAnyH_take (i := 5) (oi := { dst := some 17, op := Op.load 43 (Operand.tmp 16), type := 43, pos := "weight.go:68", after := #[{ on := 4, ground := Ground.data }, { on := 3, ground := Ground.guard }], guard := some (3, true) }) (v := ?v5x2) rfl (by kernel_rfl) (by kernel_rfl) (by kernel_rfl) (fun _ _ _ h => h) (Or.inl ⟨by rfl, ?hy5x2⟩) (by assumption) ?rest5x2
  case hy5x2 => (intro w hSw; (try dsimp only at hSw); go_simp; try with_reducible rfl)
  try simp only [Act.put, List.setIfInBounds_toArray, List.set_cons_zero, List.set_cons_succ]
  refine wpAnyH_take (i := 6) (oi := { dst := some 18, op := Op.call { callee := Callee.builtin Builtin.len, args := #[Operand.tmp 17], argTypes := #[43] }, type := 3, pos := "weight.go:68", after := #[{ on := 5, ground := Ground.data }, { on := 3, ground := Ground.guard }], guard := some (3, true) }) (v := ?v6x2) rfl (by kernel_rfl) (by kernel_rfl) (by kernel_rfl) (fun _ _ _ h => h) (Or.inl ⟨by rfl, ?hy6x2⟩) (by assumption) ?rest6x2
  case hy6x2 => (intro w hSw; (try dsimp only at hSw); go_simp; try with_reducible rfl)
  try simp only [Act.put, List.setIfInBounds_toArray, List.set_cons_zero, List.set_cons_succ]
  refine wpAnyH_take (i := 7) (oi := { dst := some 19, op := Op.binOp BinOp.eql 3 (Operand.tmp 18) (Operand.const (Value.int IntKind.i64 2)) 3, type := 4, pos := "weight.go:68", after := #[{ on := 6, ground := Ground.data }, { on := 3, ground := Ground.guard }], guard := some (3, true) }) (v := ?v7x2) rfl (by kernel_rfl) (by kernel_rfl) (by kernel_rfl) (fun _ _ _ h => h) (Or.inl ⟨by rfl, ?hy7x2⟩) (by assumption) ?rest7x2
  case hy7x2 => (intro w hSw; (try dsimp only at hSw); go_simp; try with_reducible rfl)
  try simp only [Act.put, List.setIfInBounds_toArray, List.set_cons_zero, List.set_cons_succ]
  refine wpAnyH_take (i := 8) (oi := { dst := some 20, op := Op.pick (Operand.tmp 15) (Operand.tmp 19) (Operand.const (Value.bool false)), type := 4, pos := "weight.go:68", after := #[{ on := 3, ground := Ground.data }, { on := 7, ground := Ground.data }], guard := none }) (v := ?v8x2) rfl (by kernel_rfl) (by kernel_rfl) (by kernel_rfl) (fun _ _ _ h => h) (Or.inl ⟨by rfl, ?hy8x2⟩) (by assumption) ?rest8x2
  case hy8x2 => (intro w hSw; (try dsimp only at hSw); go_simp; try with_reducible rfl)
  try simp only [Act.put, List.setIfInBounds_toArray, List.set_cons_zero, List.set_cons_succ]
  refine wpAnyH_take (i := 9) (oi := { dst := some 21, op := Op.move (Operand.tmp 20), type := 4, pos := "weight.go:68", after := #[{ on := 8, ground := Ground.data }, { on := 3, ground := Ground.chain }], guard := none }) (v := ?v9x2) rfl (by kernel_rfl) (by kernel_rfl) (by kernel_rfl) (fun _ _ _ h => h) (Or.inl ⟨by rfl, ?hy9x2⟩) (by assumption) ?rest9x2
  case hy9x2 => (intro w hSw; (try dsimp only at hSw); go_simp; try with_reducible rfl)
  try simp only [Act.put, List.setIfInBounds_toArray, List.set_cons_zero, List.set_cons_succ]
  refine wpAnyH_take (i := 10) (oi := { dst := some 22, op := Op.fieldAddr 25 (Operand.tmp 2) 2, type := 0, pos := "weight.go:68", after := #[{ on := 9, ground := Ground.guard }], guard := some (9, true) }) (v := ?v10x2) rfl (by kernel_rfl) (by kernel_rfl) (by kernel_rfl) (fun _ _ _ h => h) (Or.inl ⟨by rfl, ?hy10x2⟩) (by assumption) ?rest10x2
  case hy10x2 => (intro w hSw; (try dsimp only at hSw); go_simp; try with_reducible rfl)
  try simp only [Act.put, List.setIfInBounds_toArray, List.set_cons_zero, List.set_cons_succ]
  refine wpAnyH_take (i := 11) (oi := { dst := some 23, op := Op.load 23 (Operand.tmp 22), type := 23, pos := "weight.go:68", after := #[{ on := 10, ground := Ground.data }, { on := 9, ground := Ground.guard }], guard := some (9, true) }) (v := ?v11x2) rfl (by kernel_rfl) (by kernel_rfl) (by kernel_rfl) (fun _ _ _ h => h) (Or.inl ⟨by rfl, ?hy11x2⟩) (by assumption) ?rest11x2
  case hy11x2 => (intro w hSw; (try dsimp only at hSw); go_simp; try with_reducible rfl)
  try simp only [Act.put, List.setIfInBounds_toArray, List.set_cons_zero, List.set_cons_succ]
  refine wpAnyH_take (i := 12) (oi := { dst := some 24, op := Op.indexAddr 23 (Operand.tmp 23) (Operand.const (Value.int IntKind.i64 0)), type := 0, pos := "weight.go:68", after := #[{ on := 11, ground := Ground.data }, { on := 9, ground := Ground.guard }], guard := some (9, true) }) (v := ?v12x2) rfl (by kernel_rfl) (by kernel_rfl) (by kernel_rfl) (fun _ _ _ h => h) (Or.inl ⟨by rfl, ?hy12x2⟩) (by assumption) ?rest12x2
  case hy12x2 => (intro w hSw; (try dsimp only at hSw); go_simp; try with_reducible rfl)
  try simp only [Act.put, List.setIfInBounds_toArray, List.set_cons_zero, List.set_cons_succ]
  refine wpAnyH_take (i := 13) (oi := { dst := some 25, op := Op.load 25 (Operand.tmp 24), type := 25, pos := "weight.go:68", after := #[{ on := 12, ground := Ground.data }, { on := 9, ground := Ground.guard }], guard := some (9, true) }) (v := ?v13x2) rfl (by kernel_rfl) (by kernel_rfl) (by kernel_rfl) (fun _ _ _ h => h) (Or.inl ⟨by rfl, ?hy13x2⟩) (by assumption) ?rest13x2
  case hy13x2 => (intro w hSw; (try dsimp only at hSw); go_simp; try with_reducible rfl)
  try simp only [Act.put, List.setIfInBounds_toArray, List.set_cons_zero, List.set_cons_succ]
  refine wpAnyH_take (i := 14) (oi := { dst := some 26, op := Op.fieldAddr 45 (Operand.tmp 3) 4, type := 0, pos := "weight.go:68", after := #[{ on := 9, ground := Ground.guard }], guard := some (9, true) }) (v := ?v14x2) rfl (by kernel_rfl) (by kernel_rfl) (by kernel_rfl) (fun _ _ _ h => h) (Or.inl ⟨by rfl, ?hy14x2⟩) (by assumption) ?rest14x2
  case hy14x2 => (intro w hSw; (try dsimp only at hSw); go_simp; try with_reducible rfl)
  try simp only [Act.put, List.setIfInBounds_toArray, List.set_cons_zero, List.set_cons_succ]
  refine wpAnyH_take (i := 15) (oi := { dst := some 27, op := Op.load 43 (Operand.tmp 26), type := 43, pos := "weight.go:68", after := #[{ on := 14, ground := Ground.data }, { on := 9, ground := Ground.guard }], guard := some (9, true) }) (v := ?v15x2) rfl (by kernel_rfl) (by kernel_rfl) (by kernel_rfl) (fun _ _ _ h => h) (Or.inl ⟨by rfl, ?hy15x2⟩) (by assumption) ?rest15x2
  case hy15x2 => (intro w hSw; (try dsimp only at hSw); go_simp; try with_reducible rfl)
  try simp only [Act.put, List.setIfInBounds_toArray, List.set_cons_zero, List.set_cons_succ]
  refine wpAnyH_take (i := 16) (oi := { dst := some 28, op := Op.indexAddr 43 (Operand.tmp 27) (Operand.const (Value.int IntKind.i64 0)), type := 0, pos := "weight.go:68", after := #[{ on := 15, ground := Ground.data }, { on := 9, ground := Ground.guard }], guard := some (9, true) }) (v := ?v16x2) rfl (by kernel_rfl) (by kernel_rfl) (by kernel_rfl) (fun _ _ _ h => h) (Or.inl ⟨by rfl, ?hy16x2⟩) (by assumption) ?rest16x2
  case hy16x2 => (intro w hSw; (try dsimp only at hSw); go_simp; try with_reducible rfl)
  try simp only [Act.put, List.setIfInBounds_toArray, List.set_cons_zero, List.set_cons_succ]
  refine wpAnyH_take (i := 17) (oi := { dst := some 29, op := Op.load 45 (Operand.tmp 28), type := 45, pos := "weight.go:68", after := #[{ on := 16, ground := Ground.data }, { on := 9, ground := Ground.guard }], guard := some (9, true) }) (v := ?v17x2) rfl (by kernel_rfl) (by kernel_rfl) (by kernel_rfl) (fun _ _ _ h => h) (Or.inl ⟨by rfl, ?hy17x2⟩) (by assumption) ?rest17x2
  case hy17x2 => (intro w hSw; (try dsimp only at hSw); go_simp; try with_reducible rfl)
  try simp only [Act.put, List.setIfInBounds_toArray, List.set_cons_zero, List.set_cons_succ]
  refine wpAnyH_ready (rs := [18]) (by kernel_rfl) (by simp) (AllReadyH.cons (o := { dst := some 30, op := Op.call { callee := Callee.value (Operand.func 100), args := #[Operand.tmp 25, Operand.tmp 29], argTypes := #[25, 45] }, type := 4, pos := "weight.go:68", after := #[{ on := 13, ground := Ground.data }, { on := 17, ground := Ground.data }, { on := 9, ground := Ground.chain }, { on := 9, ground := Ground.guard }], guard := some (9, true) }) rfl (fun K hK => ?_) AllReadyH.nil)
  go_simp
  go_at_call 100
  with_reducible refine (isA_plainY pt pn pa pl pc ⟨xz, xc, xg, xra, xrl, xrc, xrows, xca, xcl, xcc, xcells, xpa, xpl, xpc⟩ HP.out XSS.out _ (XAA.out.below (hB1.trans ((D0.out).mono hB1.size))) true HR1.out).mono ?_
  rintro e z1 ⟨rfl, hz1⟩
  have D1 : Hid (Below w1.heap.size w1 z1) := Lib.hid (D0.out.trans (hz1.mono D0.out.size))
  dsimp only
  refine hK.out _ _ (by with_reducible exact EN.out _ D1.out) (fun hHeld1 => ?_)
  clear hK K
  try simp only [Act.put, List.setIfInBounds_toArray, List.set_cons_zero, List.set_cons_succ]
  refine wpAnyH_take (i := 19) (oi := { dst := some 31, op := Op.pick (Operand.tmp 21) (Operand.tmp 30) (Operand.const (Value.bool false)), type := 4, pos := "weight.go:68", after := #[{ on := 9, ground := Ground.data }, { on := 18, ground := Ground.data }], guard := none }) (v := ?v19x2) rfl (by kernel_rfl) (by kernel_rfl) (by kernel_rfl) (fun _ _ _ h => h) (Or.inl ⟨by rfl, ?hy19x2⟩) (by assumption) ?rest19x2
  case hy19x2 => (intro w hSw; (try dsimp only at hSw); go_simp; try with_reducible rfl)
  try simp only [Act.put, List.setIfInBounds_toArray, List.set_cons_zero, List.set_cons_succ]
  refine wpAnyH_take (i := 20) (oi := { dst := some 32, op := Op.move (Operand.tmp 31), type := 4, pos := "weight.go:68", after := #[{ on := 19, ground := Ground.data }, { on := 18, ground := Ground.chain }], guard := none }) (v := ?v20x2) rfl (by kernel_rfl) (by kernel_rfl) (by kernel_rfl) (fun _ _ _ h => h) (Or.inl ⟨by rfl, ?hy20x2⟩) (by assumption) ?rest20x2
  case hy20x2 => (intro w hSw; (try dsimp only at hSw); go_simp; try with_reducible rfl)
  try simp only [Act.put, List.setIfInBounds_toArray, List.set_cons_zero, List.set_cons_succ]
  refine wpAnyH_take (i := 21) (oi := { dst := some 33, op := Op.fieldAddr 25 (Operand.tmp 2) 2, type := 0, pos := "weight.go:68", after := #[{ on := 20, ground := Ground.guard }], guard := some (20, true) }) (v := ?v21x2) rfl (by kernel_rfl) (by kernel_rfl) (by kernel_rfl) (fun _ _ _ h => h) (Or.inl ⟨by rfl, ?hy21x2⟩) (by assumption) ?rest21x2
  case hy21x2 => (intro w hSw; (try dsimp only at hSw); go_simp; try with_reducible rfl)
  try simp only [Act.put, List.setIfInBounds_toArray, List.set_cons_zero, List.set_cons_succ]
  refine wpAnyH_take (i := 22) (oi := { dst := some 34, op := Op.load 23 (Operand.tmp 33), type := 23, pos := "weight.go:68", after := #[{ on := 21, ground := Ground.data }, { on := 20, ground := Ground.guard }], guard := some (20, true) }) (v := ?v22x2) rfl (by kernel_rfl) (by kernel_rfl) (by kernel_rfl) (fun _ _ _ h => h) (Or.inl ⟨by rfl, ?hy22x2⟩) (by assumption) ?rest22x2
  case hy22x2 => (intro w hSw; (try dsimp only at hSw); go_simp; try with_reducible rfl)
  try simp only [Act.put, List.setIfInBounds_toArray, List.set_cons_zero, List.set_cons_succ]
  refine wpAnyH_take (i := 23) (oi := { dst := some 35, op := Op.indexAddr 23 (Operand.tmp 34) (Operand.const (Value.int IntKind.i64 1)), type := 0, pos := "weight.go:68", after := #[{ on := 22, ground := Ground.data }, { on := 20, ground := Ground.guard }], guard := some (20, true) }) (v := ?v23x2) rfl (by kernel_rfl) (by kernel_rfl) (by kernel_rfl) (fun _ _ _ h => h) (Or.inl ⟨by rfl, ?hy23x2⟩) (by assumption) ?rest23x2
  case hy23x2 => (intro w hSw; (try dsimp only at hSw); go_simp; try with_reducible rfl)
  try simp only [Act.put, List.setIfInBounds_toArray, List.set_cons_zero, List.set_cons_succ]
  refine wpAnyH_take (i := 24) (oi := { dst := some 36, op := Op.load 25 (Operand.tmp 35), type := 25, pos := "weight.go:68", after := #[{ on := 23, ground := Ground.data }, { on := 20, ground := Ground.guard }], guard := some (20, true) }) (v := ?v24x2) rfl (by kernel_rfl) (by kernel_rfl) (by kernel_rfl) (fun _ _ _ h => h) (Or.inl ⟨by rfl, ?hy24x2⟩) (by assumption) ?rest24x2
  case hy24x2 => (intro w hSw; (try dsimp only at hSw); go_simp; try with_reducible rfl)
  try simp only [Act.put, List.setIfInBounds_toArray, List.set_cons_zero, List.set_cons_succ]
  refine wpAnyH_take (i := 25) (oi := { dst := some 37, op := Op.fieldAddr 45 (Operand.tmp 3) 4, type := 0, pos := "weight.go:68", after := #[{ on := 20, ground := Ground.guard }], guard := some (20, true) }) (v := ?v25x2) rfl (by kernel_rfl) (by kernel_rfl) (by kernel_rfl) (fun _ _ _ h => h) (Or.inl ⟨by rfl, ?hy25x2⟩) (by assumption) ?rest25x2
  case hy25x2 => (intro w hSw; (try dsimp only at hSw); go_simp; try with_reducible rfl)
  try simp only [Act.put, List.setIfInBounds_toArray, List.set_cons_zero, List.set_cons_succ]
  refine wpAnyH_take (i := 26) (oi := { dst := some 38, op := Op.load 43 (Operand.tmp 37), type := 43, pos := "weight.go:68", after := #[{ on := 25, ground := Ground.data }, { on := 20, ground := Ground.guard }], guard := some (20, true) }) (v := ?v26x2) rfl (by kernel_rfl) (by kernel_rfl) (by kernel_rfl) (fun _ _ _ h => h) (Or.inl ⟨by rfl, ?hy26x2⟩) (by assumption) ?rest26x2
  case hy26x2 => (intro w hSw; (try dsimp only at hSw); go_simp; try with_reducible rfl)
  try simp only [Act.put, List.setIfInBounds_toArray, List.set_cons_zero, List.set_cons_succ]
  refine wpAnyH_take (i := 27) (oi := { dst := some 39, op := Op.indexAddr 43 (Operand.tmp 38) (Operand.const (Value.int IntKind.i64 1)), type := 0, pos := "weight.go:68", after := #[{ on := 26, ground := Ground.data }, { on := 20, ground := Ground.guard }], guard := some (20, true) }) (v := ?v27x2) rfl (by kernel_rfl) (by kernel_rfl) (by kernel_rfl) (fun _ _ _ h => h) (Or.inl ⟨by rfl, ?hy27x2⟩) (by assumption) ?rest27x2
  case hy27x2 => (intro w hSw; (try dsimp only at hSw); go_simp; try with_reducible rfl)
  try simp only [Act.put, List.setIfInBounds_toArray, List.set_cons_zero, List.set_cons_succ]
  refine wpAnyH_take (i := 28) (oi := { dst := some 40, op := Op.load 45 (Operand.tmp 39), type := 45, pos := "weight.go:68", after := #[{ on := 27, ground := Ground.data }, { on := 20, ground := Ground.guard }], guard := some (20, true) }) (v := ?v28x2) rfl (by kernel_rfl) (by kernel_rfl) (by kernel_rfl) (fun _ _ _ h => h) (Or.inl ⟨by rfl, ?hy28x2⟩) (by assumption) ?rest28x2
  case hy28x2 => (intro w hSw; (try dsimp only at hSw); go_simp; try with_reducible rfl)
  try simp only [Act.put, List.setIfInBounds_toArray, List.set_cons_zero, List.set_cons_succ]
  refine wpAnyH_ready (rs := [29]) (by kernel_rfl) (by simp) (AllReadyH.cons (o := { dst := some 41, op := Op.call { callee := Callee.value (Operand.func 100), args := #[Operand.tmp 36, Operand.tmp 40], argTypes := #[25, 45] }, type := 4, pos := "weight.go:68", after := #[{ on := 24, ground := Ground.data }, { on := 28, ground := Ground.data }, { on := 20, ground := Ground.chain }, { on := 20, ground := Ground.guard }], guard := some (20, true) }) rfl (fun K hK => ?_) AllReadyH.nil)
  go_simp
  go_at_call 100
  with_reducible refine (isA_plainY qt qn qa ql qc ⟨yz, yc, yg, yra, yrl, yrc, yrows, yca, ycl, ycc, ycells, ypa, ypl, ypc⟩ HQ.out YSS.out _ (YAA.out.below (hB1.trans ((D1.out).mono hB1.size))) r2 HR2.out).mono ?_
  rintro e z2 ⟨rfl, hz2⟩
  have D2 : Hid (Below w1.heap.size w1 z2) := Lib.hid (D1.out.trans (hz2.mono D1.out.size))
  dsimp only
  refine hK.out _ _ (by with_reducible exact EN.out _ D2.out) (fun hHeld2 => ?_)
  clear hK K
  try simp only [Act.put, List.setIfInBounds_toArray, List.set_cons_zero, List.set_cons_succ]
  refine wpAnyH_take (i := 30) (oi := { dst := some 42, op := Op.pick (Operand.tmp 32) (Operand.tmp 41) (Operand.const (Value.bool false)), type := 4, pos := "weight.go:68", after := #[{ on := 20, ground := Ground.data }, { on := 29, ground := Ground.data }], guard := none }) (v := ?v30x2) rfl (by kernel_rfl) (by kernel_rfl) (by kernel_rfl) (fun _ _ _ h => h) (Or.inl ⟨by rfl, ?hy30x2⟩) (by assumption) ?rest30x2
  case hy30x2 => (intro w hSw; (try dsimp only at hSw); go_simp; try with_reducible rfl)
  try simp only [Act.put, List.setIfInBounds_toArray, List.set_cons_zero, List.set_cons_succ]
  refine wpAnyH_take (i := 31) (oi := { dst := some 4, op := Op.assign (Operand.tmp 42), type := 4, pos := "weight.go:68", after := #[{ on := 30, ground := Ground.data }, { on := 29, ground := Ground.chain }, { on := 0, ground := Ground.phase }, { on := 1, ground := Ground.phase }, { on := 2, ground := Ground.phase }, { on := 3, ground := Ground.phase }, { on := 4, ground := Ground.phase }, { on := 5, ground := Ground.phase }, { on := 6, ground := Ground.phase }, { on := 7, ground := Ground.phase }, { on := 8, ground := Ground.phase }, { on := 9, ground := Ground.phase }, { on := 10, ground := Ground.phase }, { on := 11, ground := Ground.phase }, { on := 12, ground := Ground.phase }, { on := 13, ground := Ground.phase }, { on := 14, ground := Ground.phase }, { on := 15, ground := Ground.phase }, { on := 16, ground := Ground.phase }, { on := 17, ground := Ground.phase }, { on := 18, ground := Ground.phase }, { on := 19, ground := Ground.phase }, { on := 20, ground := Ground.phase }, { on := 21, ground := Ground.phase }, { on := 22, ground := Ground.phase }, { on := 23, ground := Ground.phase }, { on := 24, ground := Ground.phase }, { on := 25, ground := Ground.phase }, { on := 26, ground := Ground.phase }, { on := 27, ground := Ground.phase }, { on := 28, ground := Ground.phase }, { on := 29, ground := Ground.phase }, { on := 30, ground := Ground.phase }], guard := none }) (v := ?v31x2) rfl (by kernel_rfl) (by kernel_rfl) (by kernel_rfl) (fun _ _ _ h => h) (Or.inl ⟨by rfl, ?hy31x2⟩) (by assumption) ?rest31x2
  case hy31x2 => (intro w hSw; (try dsimp only at hSw); go_simp; try with_reducible rfl)
  try simp only [Act.put, List.setIfInBounds_toArray, List.set_cons_zero, List.set_cons_succ]
  refine wpAnyH_done (by kernel_rfl) ?_ _
  all_goals (go_wp2_with fail; go_ret; exact ⟨rbool HF.out, hB1.trans (D2.out.mono hB1.size)⟩)
end Go.Proofs.Ytpkcaabbcoiiiaa
namespace Go.Proofs.Ytpkcaabbcoiiiaa
open Go.RowKit
attribute [local go_sem ↓] Go.wp_at_zero Go.wp_at_succ
theorem isR_plainY (t n : Int) (a : Option Addr) (l c0 : Nat) (f : WF) (hp : plainB t n l = true) (hs : 0 ≤ f.rl) (w : World) (hf : f.At w) (r : Bool) (hr : pwOk t n f = r) :
  Calls Try.prog 66 #[.agg #[.int .i64 t, .int .i64 n, .slice a l c0], f.val] w fun e w' => e = .returned (.bool r) ∧ Below w.heap.size w w' := by
 have HF0 := Lib.hid hf; have HS := Lib.hid hs
 obtain ⟨z, c, g, ra, rl, rc, rows, ca, cl, cc, cells, pa, pl, pc⟩ := f
 show Calls Try.prog 66 #[.agg #[.int .i64 t, .int .i64 n, .slice a l c0], .agg #[.bool z, .int .i64 c, .int .u64 (g : Int), .slice ra rl rc, .slice ca cl cc, .slice pa pl pc]] w _
 obtain ⟨bb, hbb⟩ : ∃ b, bareB t ⟨z, c, g, ra, rl, rc, rows, ca, cl, cc, cells, pa, pl, pc⟩ = b := ⟨_, rfl⟩
 have HBB := Lib.hid hbb
 have hB := Lib.hid (wbox w #[.int .i64 t, .int .i64 n, .slice a l c0] #[.bool z, .int .i64 c, .int .u64 (g : Int), .slice ra rl rc, .slice ca cl cc, .slice pa pl pc] 25 45)
 obtain ⟨t0, t1⟩ := two_boxes2 w #[.int .i64 t, .int .i64 n, .slice a l c0] #[.bool z, .int .i64 c, .int .u64 (g : Int), .slice ra rl rc, .slice ca cl cc, .slice pa pl pc] 25 45
 have T0 := Lib.hid t0; have T1 := Lib.hid t1
 obtain ⟨W0, hW0⟩ : ∃ W, (w.alloc (.cells #[.int .i64 t, .int .i64 n, .slice a l c0] 25)).alloc (.cells #[.bool z, .int .i64 c, .int .u64 (g : Int), .slice ra rl rc, .slice ca cl cc, .slice pa pl pc] 45) = W := ⟨_, rfl⟩
 rw [hW0] at hB T0 T1
 obtain ⟨x0, x1, x2⟩ := tri_cells T0.out
 obtain ⟨y0, y1, y2, y3, y4, y5⟩ := six_cells T1.out
 have ht := (plainB_tag hp).2
 have HDIM := Lib.hid (plainB_dim hp)
 clear hf hs t0 t1 hp
 have HX : Hid (∀ W : World, Below W0.heap.size W0 W → Hid ((W.cell? ⟨w.heap.size, 0, none⟩ = some (.int .i64 t) ∧ W.cell? ⟨w.heap.size, 1, none⟩ = some (.int .i64 n) ∧ W.cell? ⟨w.heap.size, 2, none⟩ = some (.slice a l c0)) ∧ (W.cell? ⟨w.heap.size + 1, 0, none⟩ = some (.bool z) ∧ W.cell? ⟨w.heap.size + 1, 1, none⟩ = some (.int .i64 c) ∧ W.cell? ⟨w.heap.size + 1, 2, none⟩ = some (.int .u64 (g : Int)) ∧ W.cell? ⟨w.heap.size + 1, 3, none⟩ = some (.slice ra rl rc) ∧ W.cell? ⟨w.heap.size + 1, 4, none⟩ = some (.slice ca cl cc) ∧ W.cell? ⟨w.heap.size + 1, 5, none⟩ = some (.slice pa pl pc)))) := fun W h => ⟨tri_cells (heap_old T0.out h), six_cells (heap_old T1.out h)⟩
 have HR : Hid ((bb && (z || (if t = 2 then decide (0 ≤ c) && decide (c ≤ n) else if t = 3 then decide (checkE n g rows = 0) else if t = 4 then decide (chkC n cells = 0) else true))) = r) := by show _ = _; rw [← hr, pwOk, hbb]
 have ht5 : (t != 5) = true := by simp; omega
 clear hr T0 T1
 cases z
 ·rcases ht with rfl | rfl | rfl | rfl
  ·have HO : Hid (onlyB false false false false ⟨false, c, g, ra, rl, rc, rows, ca, cl, cc, cells, pa, pl, pc⟩ = bb) := hbb
   have HR2 : Hid (bb = r) := by show _ = _; rw [← HR.out]; simp
   clear hbb
   go_enter Try.func66, Try.ntmps66
   go_wp2_with fail
   refine (plainR_0 ⟨false, c, g, ra, rl, rc, rows, ca, cl, cc, cells, pa, pl, pc⟩ bb HO.out _).mono ?_
   rintro e w1 ⟨rfl, hb1⟩
   go_wp2_with fail
   go_ret
   exact ⟨rbool HR2.out, hB.out.trans (hb1.mono hB.out.size)⟩
  ·have HO : Hid (onlyB true false false false ⟨false, c, g, ra, rl, rc, rows, ca, cl, cc, cells, pa, pl, pc⟩ = bb) := hbb
   clear hbb
   cases bb
   ·have HR2 : Hid (false = r) := by show _ = _; rw [← HR.out]; simp
    go_enter Try.func66, Try.ntmps66
    go_wp2_with fail
    refine (plainR_1 ⟨false, c, g, ra, rl, rc, rows, ca, cl, cc, cells, pa, pl, pc⟩ false HO.out _).mono ?_
    rintro e w1 ⟨rfl, hb1⟩
    go_wp2_with fail
    go_ret
    exact ⟨rbool HR2.out, hB.out.trans (hb1.mono hB.out.size)⟩
   by_cases hc0 : 0 ≤ c
   ·have HR2 : Hid (decide (c ≤ n) = r) := by show _ = _; rw [← HR.out]; simp [hc0]
    go_enter Try.func66, Try.ntmps66
    go_wp2_with fail
    refine (plainR_1 ⟨false, c, g, ra, rl, rc, rows, ca, cl, cc, cells, pa, pl, pc⟩ true HO.out _).mono ?_
    rintro e w1 ⟨rfl, hb1⟩
    obtain ⟨⟨p0, p1, p2⟩, q0, q1, q2, q3, q4, q5⟩ := (HX.out _ hb1).out
    go_wp2_with fail
    go_ret
    exact ⟨rbool HR2.out, hB.out.trans (hb1.mono hB.out.size)⟩
   ·have HR2 : Hid (false = r) := by show _ = _; rw [← HR.out]; simp [hc0]
    go_enter Try.func66, Try.ntmps66
    go_wp2_with fail
    refine (plainR_1 ⟨false, c, g, ra, rl, rc, rows, ca, cl, cc, cells, pa, pl, pc⟩ true HO.out _).mono ?_
    rintro e w1 ⟨rfl, hb1⟩
    obtain ⟨⟨p0, p1, p2⟩, q0, q1, q2, q3, q4, q5⟩ := (HX.out _ hb1).out
    go_wp2_with fail
    go_ret
    exact ⟨rbool HR2.out, hB.out.trans (hb1.mono hB.out.size)⟩
  ·have HO : Hid (onlyB false true false false ⟨false, c, g, ra, rl, rc, rows, ca, cl, cc, cells, pa, pl, pc⟩ = bb) := hbb
   clear hbb
   cases bb
   ·have HR2 : Hid (false = r) := by show _ = _; rw [← HR.out]; simp
    go_enter Try.func66, Try.ntmps66
    go_wp2_with fail
    refine (plainR_2 ⟨false, c, g, ra, rl, rc, rows, ca, cl, cc, cells, pa, pl, pc⟩ false HO.out _).mono ?_
    rintro e w1 ⟨rfl, hb1⟩
    go_wp2_with fail
    go_ret
    exact ⟨rbool HR2.out, hB.out.trans (hb1.mono hB.out.size)⟩
   obtain ⟨ck, hck⟩ : ∃ k, checkE n g rows = k := ⟨_, rfl⟩
   have HCK := Lib.hid hck
   have HR3 : Hid ((ck == 0) = r) := by show _ = _; rw [← HR.out, hck, int_eq0]; simp
   clear hck
   go_enter Try.func66, Try.ntmps66
   go_wp2_with fail
   refine (plainR_2 ⟨false, c, g, ra, rl, rc, rows, ca, cl, cc, cells, pa, pl, pc⟩ true HO.out _).mono ?_
   rintro e w1 ⟨rfl, hb1⟩
   obtain ⟨⟨p0, p1, p2⟩, q0, q1, q2, q3, q4, q5⟩ := (HX.out _ hb1).out
   have hB1 := hB.out.trans (hb1.mono hB.out.size)
   go_wp2_with fail
   refine (checkR_any n ra rc g rows _ (HF0.out.below hB1) ck HCK.out rl HF0.out.rl).mono ?_
   rintro e w2 ⟨rfl, hb2⟩
   go_wp2_with fail
   go_ret
   exact ⟨rbool HR3.out, hB1.trans (hb2.mono hB1.size)⟩
  ·have HO : Hid (onlyB false false true false ⟨false, c, g, ra, rl, rc, rows, ca, cl, cc, cells, pa, pl, pc⟩ = bb) := hbb
   clear hbb
   obtain ⟨m, rfl⟩ : ∃ m : Nat, n = m := ⟨n.toNat, by have := HDIM.out.1; omega⟩
   have hm64 : m ≤ 64 := by have := HDIM.out.2.2.2 (.inr rfl); omega
   have hclen := HF0.out.cl
   dsimp only at hclen
   cases bb
   ·have HR2 : Hid (false = r) := by show _ = _; rw [← HR.out]; simp
    go_enter Try.func66, Try.ntmps66
    go_wp2_with fail
    refine (plainR_3 ⟨false, c, g, ra, rl, rc, rows, ca, cl, cc, cells, pa, pl, pc⟩ false HO.out _).mono ?_
    rintro e w1 ⟨rfl, hb1⟩
    go_wp2_with fail
    go_ret
    exact ⟨rbool HR2.out, hB.out.trans (hb1.mono hB.out.size)⟩
   have HR3 : Hid ((decide (cl = m) && cells.all (okAt m)) = r) := by
    show _ = _
    rw [← HR.out]
    have e := chkC_iff (cs := cells) (n := (m : Int)) ⟨by omega, by omega⟩
    rw [Int.toNat_natCast, hclen] at e
    simp [e]
    congr 1; rw [Bool.eq_iff_iff, decide_eq_true_eq, decide_eq_true_eq]; omega
   clear HDIM HR
   by_cases hlm : cl = m
   ·subst hlm
    have HRA : Hid (cells.all (okAt cl) = r) := by show _ = _; rw [← HR3.out]; simp
    have HL := Lib.hid hclen
    clear hclen HR3
    go_enter Try.func66, Try.ntmps66
    go_wp2_with fail
    refine (plainR_3 ⟨false, c, g, ra, rl, rc, rows, ca, cl, cc, cells, pa, pl, pc⟩ true HO.out _).mono ?_
    rintro e w1 ⟨rfl, hb1⟩
    obtain ⟨⟨p0, p1, p2⟩, q0, q1, q2, q3, q4, q5⟩ := (HX.out _ hb1).out
    clear x0 x1 x2 y0 y1 y2 y3 y4 y5
    go_wp2_with fail
    clear p0 p1 p2 q0 q1 q2 q3 q4 q5
    go_loopw [5] (fun i wr => ∃ k : Nat, k ≤ cl ∧ i = .int .i64 k ∧ Hid (∀ (i : Nat) x, i < k → cells[i]? = some x → okAt cl x = true) ∧ Below W0.heap.size W0 wr) (fun i _ => cl - (intOf i).toNat)
    case atStart => exact ⟨0, Nat.zero_le _, rfl, fun i x h => by omega, hb1⟩
    case round =>
     obtain ⟨k, hk, rfl, HK, hb⟩ := hrel
     obtain ⟨⟨p0, p1, p2⟩, q0, q1, q2, q3, q4, q5⟩ := (HX.out _ hb).out
     by_cases hlt : k < cl
     ·have hB2 := hB.out.trans (hb.mono hB.out.size)
      obtain ⟨b, off, ⟨cf, ck, cv⟩, rfl, hx, hbl, d0, d1, d2⟩ := (HF0.out.below hB2).cells.at_ (k := k) (by show k < cells.length; rw [HL.out]; exact hlt)
      have hcf : cf < 18446744073709551616 := HF0.out.bits _ (List.mem_of_getElem? hx)
      obtain ⟨ok, hok⟩ : ∃ o, okAt cl ⟨cf, ck, cv⟩ = o := ⟨_, rfl⟩
      have HOK := Lib.hid hok
      have g0 : (0 : Int) ≤ (k : Int) := by omega
      have g1 : (k : Int) < (cl : Int) := by omega
      have HBB2 := Lib.hid hb
      have HSS : Hid (∀ W : World, Below wr.heap.size wr W → (W.cell? ⟨w.heap.size, 1, none⟩ = some (.int .i64 cl) ∧ W.cell? ⟨w.heap.size + 1, 4, none⟩ = some (.slice (some ⟨b, off, none⟩) cl cc) ∧ W.cell? ⟨b, off + k * 3, none⟩ = some (.int .u64 (cf : Int)) ∧ W.cell? ⟨b, off + k * 3 + 1, none⟩ = some (.int .i64 ck) ∧ W.cell? ⟨b, off + k * 3 + 2, none⟩ = some (.int .i64 cv))) := fun W h => ⟨cell_old p1 h, cell_old q4 h, cell_old d0 h, cell_old d1 h, cell_old d2 h⟩
      cases ok
      ·have HRF : Hid (false = r) := by show _ = _; rw [← HRA.out, eq_comm, List.all_eq_false]; exact ⟨_, List.mem_of_getElem? hx, by rw [hok]; simp⟩
       clear hx hok
       go_wp2_with fail
       go_region_held3 (fun w' => w'.cell? ⟨w.heap.size, 1, none⟩ = some (.int .i64 cl) ∧ w'.cell? ⟨w.heap.size + 1, 4, none⟩ = some (.slice (some ⟨b, off, none⟩) cl cc) ∧ w'.cell? ⟨b, off + k * 3, none⟩ = some (.int .u64 (cf : Int)) ∧ w'.cell? ⟨b, off + k * 3 + 1, none⟩ = some (.int .i64 ck) ∧ w'.cell? ⟨b, off + k * 3 + 2, none⟩ = some (.int .i64 cv))
        (first | exact HSS.out _ (Below.refl _ _).drew | exact HSS.out _ (Below.refl _ _) | exact HSS.out _ D1.out | fail)
        (first | (go_at_call 91; refine (cellR_is cl hm64 cf ck cv hcf false HOK.out _).mono ?_; rintro e w3 ⟨rfl, hb3⟩; have D1 : Hid (Below wr.heap.size wr w3) := (Below.refl _ _).drew.trans hb3) | fail)
       all_goals
        go_wp2_with fail
        go_ret
        exact ⟨rbool HRF.out, hB2.trans (D1.out.mono hB2.size)⟩
      ·have HN : Hid (∀ (i : Nat) x, i < k + 1 → cells[i]? = some x → okAt cl x = true) := fun i y hi hy => by
        by_cases e : i = k
        ·subst e; rw [hx] at hy; cases hy; exact hok
        ·exact HK.out i y (by omega) hy
       clear hx hok
       go_wp2_with fail
       go_region_held3 (fun w' => w'.cell? ⟨w.heap.size, 1, none⟩ = some (.int .i64 cl) ∧ w'.cell? ⟨w.heap.size + 1, 4, none⟩ = some (.slice (some ⟨b, off, none⟩) cl cc) ∧ w'.cell? ⟨b, off + k * 3, none⟩ = some (.int .u64 (cf : Int)) ∧ w'.cell? ⟨b, off + k * 3 + 1, none⟩ = some (.int .i64 ck) ∧ w'.cell? ⟨b, off + k * 3 + 2, none⟩ = some (.int .i64 cv))
        (first | exact HSS.out _ (Below.refl _ _).drew | exact HSS.out _ (Below.refl _ _) | exact HSS.out _ D1.out | fail)
        (first | (go_at_call 91; refine (cellR_is cl hm64 cf ck cv hcf true HOK.out _).mono ?_; rintro e w3 ⟨rfl, hb3⟩; have D1 : Hid (Below wr.heap.size wr w3) := (Below.refl _ _).drew.trans hb3) | fail)
       all_goals
        go_wp2_with fail
        go_roundw
        case rel => exact ⟨k + 1, by omega, by go_num, HN, HBB2.out.trans (D1.out.mono HBB2.out.size)⟩
        case measure => simp [intOf]; omega
     ·have HRT : Hid (true = r) := by show _ = _; rw [← HRA.out, all_upto HK.out (by rw [HL.out]; omega)]
      have g1 : (cl : Int) ≤ (k : Int) := by omega
      go_wp2_with fail
      go_ret
      exact ⟨rbool HRT.out, hB.out.trans (hb.mono hB.out.size)⟩
   ·have HR2 : Hid (false = r) := by show _ = _; rw [← HR3.out]; simp [hlm]
    have hne : ((cl : Int) != (m : Int)) = true := by simp; omega
    clear hlm hclen
    go_enter Try.func66, Try.ntmps66
    go_wp2_with fail
    refine (plainR_3 ⟨false, c, g, ra, rl, rc, rows, ca, cl, cc, cells, pa, pl, pc⟩ true HO.out _).mono ?_
    rintro e w1 ⟨rfl, hb1⟩
    obtain ⟨⟨p0, p1, p2⟩, q0, q1, q2, q3, q4, q5⟩ := (HX.out _ hb1).out
    go_wp2_with fail
    go_ret
    exact ⟨rbool HR2.out, hB.out.trans (hb1.mono hB.out.size)⟩
 ·have HO : Hid (onlyB false false false false ⟨true, c, g, ra, rl, rc, rows, ca, cl, cc, cells, pa, pl, pc⟩ = bb) := hbb
  have HR2 : Hid (bb = r) := by show _ = _; rw [← HR.out]; simp
  clear hbb HR ht
  go_enter Try.func66, Try.ntmps66
  go_wp2_with fail
  refine (plainR_0 ⟨true, c, g, ra, rl, rc, rows, ca, cl, cc, cells, pa, pl, pc⟩ bb HO.out _).mono ?_
  rintro e w1 ⟨rfl, hb1⟩
  go_wp2_with fail
  go_ret
  exact ⟨rbool HR2.out, hB.out.trans (hb1.mono hB.out.size)⟩
set_option maxHeartbeats 8000000 in
theorem isR_pairY (d : Nat) (sa : Option Addr) (sc : Nat) (p q : SV) (g : WF) (qs : List WV) (w : World) (hsp : SIn w (d + 1) (.mk ⟨5, 0, sa, 2, sc⟩ [p, q])) (hp : p.pl = true) (hq : q.pl = true) (e : Nat) (hw : WIn w (e + 1) (.mk g qs)) (hs : ∀ x ∈ qs, 0 ≤ x.f.rl) (r : Bool) (hr : pairOk p q g qs = r) :
  Calls Try.prog 66 #[.agg #[.int .i64 5, .int .i64 0, .slice sa 2 sc], g.val] w fun e w' => e = .returned (.bool r) ∧ Below w.heap.size w w' := by
 obtain ⟨_, b, off, ha, hb, hp3, hq3, _, _⟩ := hsp.two
 obtain rfl : sa = some ⟨b, off, none⟩ := ha
 obtain ⟨⟨pt, pn, pa, pl, pc⟩, pps⟩ := p
 obtain ⟨⟨qt, qn, qa, ql, qc⟩, qps⟩ := q
 have HP : Hid (plainB pt pn pl = true) := hp; have HQ : Hid (plainB qt qn ql = true) := hq; have HP3 := Lib.hid hp3; have HQ3 := Lib.hid hq3
 obtain ⟨gz, gc, gg, gra, grl, grc, grows, gca, gcl, gcc, gcells, gpa, gpl, gpc⟩ := g
 show Calls Try.prog 66 #[.agg #[.int .i64 5, .int .i64 0, .slice (some ⟨b, off, none⟩) 2 sc], .agg #[.bool gz, .int .i64 gc, .int .u64 (gg : Int), .slice gra grl grc, .slice gca gcl gcc, .slice gpa gpl gpc]] w _
 have hgl : qs.length = gpl := hw.2.1
 obtain ⟨bb, hbb⟩ : ∃ b, bareB 5 ⟨gz, gc, gg, gra, grl, grc, grows, gca, gcl, gcc, gcells, gpa, gpl, gpc⟩ = b := ⟨_, rfl⟩
 have HBB := Lib.hid hbb
 have hB := Lib.hid (wbox w #[.int .i64 5, .int .i64 0, .slice (some ⟨b, off, none⟩) 2 sc] #[.bool gz, .int .i64 gc, .int .u64 (gg : Int), .slice gra grl grc, .slice gca gcl gcc, .slice gpa gpl gpc] 25 45)
 obtain ⟨t0, t1⟩ := two_boxes2 w #[.int .i64 5, .int .i64 0, .slice (some ⟨b, off, none⟩) 2 sc] #[.bool gz, .int .i64 gc, .int .u64 (gg : Int), .slice gra grl grc, .slice gca gcl gcc, .slice gpa gpl gpc] 25 45
 have T0 := Lib.hid t0; have T1 := Lib.hid t1
 obtain ⟨W0, hW0⟩ : ∃ W, (w.alloc (.cells #[.int .i64 5, .int .i64 0, .slice (some ⟨b, off, none⟩) 2 sc] 25)).alloc (.cells #[.bool gz, .int .i64 gc, .int .u64 (gg : Int), .slice gra grl grc, .slice gca gcl gcc, .slice gpa gpl gpc] 45) = W := ⟨_, rfl⟩
 rw [hW0] at hB T0 T1
 obtain ⟨x0, x1, x2⟩ := tri_cells T0.out
 obtain ⟨y0, y1, y2, y3, y4, y5⟩ := six_cells T1.out
 have HR := Lib.hid hr
 cases gz
 rotate_left
 ·have HF : Hid (false = r) := by show _ = _; rw [← HR.out, pairOk]; simp
  clear hr hbb hsp hw hs hp hq hp3 hq3
  go_enter Try.func66, Try.ntmps66
  go_wp2_with fail
  go_ret
  exact ⟨rbool HF.out, hB.out⟩
 have HO : Hid (onlyB false false false true ⟨false, gc, gg, gra, grl, grc, grows, gca, gcl, gcc, gcells, gpa, gpl, gpc⟩ = bb) := hbb
 cases bb
 ·have hzz := True.intro
  have HF : Hid (false = r) := by show _ = _; rw [← HR.out, pairOk, HBB.out]; rfl
  clear hr hbb hsp hw hs hp hq hp3 hq3
  go_enter Try.func66, Try.ntmps66
  go_wp2_with fail
  have EN : Hid (∀ W : World, Below W0.heap.size W0 W → W.cell? ⟨w.heap.size, 0, none⟩ = some (.int .i64 5) ∧ W.cell? ⟨w.heap.size, 1, none⟩ = some (.int .i64 0) ∧ W.cell? ⟨w.heap.size, 2, none⟩ = some (.slice (some ⟨b, off, none⟩) 2 sc) ∧ W.cell? ⟨w.heap.size + 1, 0, none⟩ = some (.bool false) ∧ W.cell? ⟨w.heap.size + 1, 1, none⟩ = some (.int .i64 gc) ∧ W.cell? ⟨w.heap.size + 1, 2, none⟩ = some (.int .u64 (gg : Int)) ∧ W.cell? ⟨w.heap.size + 1, 3, none⟩ = some (.slice gra grl grc) ∧ W.cell? ⟨w.heap.size + 1, 4, none⟩ = some (.slice gca gcl gcc) ∧ W.cell? ⟨w.heap.size + 1, 5, none⟩ = some (.slice gpa gpl gpc)) := fun W h => by obtain ⟨a0, a1, a2⟩ := tri_cells (heap_old (heap_old T0.out (Below.refl _ _)) h); obtain ⟨c0, c1, c2, c3, c4, c5⟩ := six_cells (heap_old (heap_old T1.out (Below.refl _ _)) h); exact ⟨a0, a1, a2, c0, c1, c2, c3, c4, c5⟩
  clear x0 x1 x2 y0 y1 y2 y3 y4 y5
  obtain ⟨m0, m1, m2, m3, m4, m5, m6, m7, m8⟩ := EN.out _ (Below.refl _ _)
  have D0 : Hid (Below W0.heap.size W0 W0.drew) := (Below.refl _ _).drew
  refine wp_region_held_drew (S := (fun w' => w'.cell? ⟨w.heap.size, 0, none⟩ = some (.int .i64 5) ∧ w'.cell? ⟨w.heap.size, 1, none⟩ = some (.int .i64 0) ∧ w'.cell? ⟨w.heap.size, 2, none⟩ = some (.slice (some ⟨b, off, none⟩) 2 sc) ∧ w'.cell? ⟨w.heap.size + 1, 0, none⟩ = some (.bool false) ∧ w'.cell? ⟨w.heap.size + 1, 1, none⟩ = some (.int .i64 gc) ∧ w'.cell? ⟨w.heap.size + 1, 2, none⟩ = some (.int .u64 (gg : Int)) ∧ w'.cell? ⟨w.heap.size + 1, 3, none⟩ = some (.slice gra grl grc) ∧ w'.cell? ⟨w.heap.size + 1, 4, none⟩ = some (.slice gca gcl gcc) ∧ w'.cell? ⟨w.heap.size + 1, 5, none⟩ = some (.slice gpa gpl gpc))) (by kernel_rfl) (by with_reducible exact EN.out _ D0.out) (fun hHeld => ?_)
  refine wpAnyH_take (i := 0) (oi := { dst := some 78, op := Op.load 45 (Operand.tmp 3), type := 45, pos := "ref.go:88", after := #[], guard := none }) (v := ?v0x3) rfl (by kernel_rfl) (by kernel_rfl) (by kernel_rfl) (fun _ _ _ h => h) (Or.inl ⟨by rfl, ?hy0x3⟩) (by assumption) ?rest0x3
  case hy0x3 => (intro w hSw; (try dsimp only at hSw); go_simp; try with_reducible rfl)
  try simp only [Act.put, List.setIfInBounds_toArray, List.set_cons_zero, List.set_cons_succ]
  refine wpAnyH_ready (rs := [1]) (by kernel_rfl) (by simp) (AllReadyH.cons (o := { dst := some 79, op := Op.call { callee := Callee.value (Operand.func 89), args := #[Operand.tmp 78, Operand.const (Value.bool false), Operand.const (Value.bool false), Operand.const (Value.bool false), Operand.const (Value.bool true)], argTypes := #[45, 4, 4, 4, 4] }, type := 4, pos := "ref.go:88", after := #[{ on := 0, ground := Ground.data }], guard := none }) rfl (fun K hK => ?_) AllReadyH.nil)
  go_simp
  go_at_call 89
  refine (plainR_4 ⟨false, gc, gg, gra, grl, grc, grows, gca, gcl, gcc, gcells, gpa, gpl, gpc⟩ false HO.out _).mono ?_
  rintro e w2 ⟨rfl, hb2⟩
  have D1 : Hid (Below W0.heap.size W0 w2) := Lib.hid (D0.out.trans (hb2.mono D0.out.size))
  dsimp only
  refine hK.out _ _ (by with_reducible exact EN.out _ D1.out) (fun hHeld1 => ?_)
  clear hK K
  try simp only [Act.put, List.setIfInBounds_toArray, List.set_cons_zero, List.set_cons_succ]
  refine wpAnyH_take (i := 2) (oi := { dst := some 80, op := Op.move (Operand.tmp 79), type := 4, pos := "ref.go:88", after := #[{ on := 1, ground := Ground.data }, { on := 1, ground := Ground.chain }], guard := none }) (v := ?v2x3) rfl (by kernel_rfl) (by kernel_rfl) (by kernel_rfl) (fun _ _ _ h => h) (Or.inl ⟨by rfl, ?hy2x3⟩) (by assumption) ?rest2x3
  case hy2x3 => (intro w hSw; (try dsimp only at hSw); go_simp; try with_reducible rfl)
  try simp only [Act.put, List.setIfInBounds_toArray, List.set_cons_zero, List.set_cons_succ]
  refine wpAnyH_take (i := 3) (oi := { dst := some 81, op := Op.fieldAddr 45 (Operand.tmp 3) 4, type := 0, pos := "ref.go:88", after := #[{ on := 2, ground := Ground.guard }], guard := some (2, true) }) (v := undef) rfl (by kernel_rfl) (by kernel_rfl) (by kernel_rfl) (fun _ _ _ h => h) (Or.inr ⟨by rfl, rfl⟩) (by assumption) ?rest3x3
  try simp only [Act.put, List.setIfInBounds_toArray, List.set_cons_zero, List.set_cons_succ]
  refine wpAnyH_take (i := 4) (oi := { dst := some 82, op := Op.load 43 (Operand.tmp 81), type := 43, pos := "ref.go:88", after := #[{ on := 3, ground := Ground.data }, { on := 2, ground := Ground.guard }], guard := some (2, true) }) (v := undef) rfl (by kernel_rfl) (by kernel_rfl) (by kernel_rfl) (fun _ _ _ h => h) (Or.inr ⟨by rfl, rfl⟩) (by assumption) ?rest4x3
  try simp only [Act.put, List.setIfInBounds_toArray, List.set_cons_zero, List.set_cons_succ]
  refine wpAnyH_take (i := 5) (oi := { dst := some 83, op := Op.call { callee := Callee.builtin Builtin.len, args := #[Operand.tmp 82], argTypes := #[43] }, type := 3, pos := "ref.go:88", after := #[{ on := 4, ground := Ground.data }, { on := 2, ground := Ground.guard }], guard := some (2, true) }) (v := undef) rfl (by kernel_rfl) (by kernel_rfl) (by kernel_rfl) (fun _ _ _ h => h) (Or.inr ⟨by rfl, rfl⟩) (by assumption) ?rest5x3
  try simp only [Act.put, List.setIfInBounds_toArray, List.set_cons_zero, List.set_cons_succ]
  refine wpAnyH_take (i := 6) (oi := { dst := some 84, op := Op.binOp BinOp.eql 3 (Operand.tmp 83) (Operand.const (Value.int IntKind.i64 2)) 3, type := 4, pos := "ref.go:88", after := #[{ on := 5, ground := Ground.data }, { on := 2, ground := Ground.guard }], guard := some (2, true) }) (v := undef) rfl (by kernel_rfl) (by kernel_rfl) (by kernel_rfl) (fun _ _ _ h => h) (Or.inr ⟨by rfl, rfl⟩) (by assumption) ?rest6x3
  try simp only [Act.put, List.setIfInBounds_toArray, List.set_cons_zero, List.set_cons_succ]
  refine wpAnyH_take (i := 7) (oi := { dst := some 85, op := Op.pick (Operand.tmp 80) (Operand.tmp 84) (Operand.const (Value.bool false)), type := 4, pos := "ref.go:88", after := #[{ on := 2, ground := Ground.data }, { on := 6, ground := Ground.data }], guard := none }) (v := ?v7x3) rfl (by kernel_rfl) (by kernel_rfl) (by kernel_rfl) (fun _ _ _ h => h) (Or.inl ⟨by rfl, ?hy7x3⟩) (by assumption) ?rest7x3
  case hy7x3 => (intro w hSw; (try dsimp only at hSw); go_simp; try with_reducible rfl)
  try simp only [Act.put, List.setIfInBounds_toArray, List.set_cons_zero, List.set_cons_succ]
  refine wpAnyH_take (i := 8) (oi := { dst := some 86, op := Op.move (Operand.tmp 85), type := 4, pos := "ref.go:88", after := #[{ on := 7, ground := Ground.data }, { on := 2, ground := Ground.chain }], guard := none }) (v := ?v8x3) rfl (by kernel_rfl) (by kernel_rfl) (by kernel_rfl) (fun _ _ _ h => h) (Or.inl ⟨by rfl, ?hy8x3⟩) (by assumption) ?rest8x3
  case hy8x3 => (intro w hSw; (try dsimp only at hSw); go_simp; try with_reducible rfl)
  try simp only [Act.put, List.setIfInBounds_toArray, List.set_cons_zero, List.set_cons_succ]
  refine wpAnyH_take (i := 9) (oi := { dst := some 87, op := Op.fieldAddr 25 (Operand.tmp 2) 2, type := 0, pos := "ref.go:88", after := #[{ on := 8, ground := Ground.guard }], guard := some (8, true) }) (v := undef) rfl (by kernel_rfl) (by kernel_rfl) (by kernel_rfl) (fun _ _ _ h => h) (Or.inr ⟨by rfl, rfl⟩) (by assumption) ?rest9x3
  try simp only [Act.put, List.setIfInBounds_toArray, List.set_cons_zero, List.set_cons_succ]
  refine wpAnyH_take (i := 10) (oi := { dst := some 88, op := Op.load 23 (Operand.tmp 87), type := 23, pos := "ref.go:88", after := #[{ on := 9, ground := Ground.data }, { on := 8, ground := Ground.guard }], guard := some (8, true) }) (v := undef) rfl (by kernel_rfl) (by kernel_rfl) (by kernel_rfl) (fun _ _ _ h => h) (Or.inr ⟨by rfl, rfl⟩) (by assumption) ?rest10x3
  try simp only [Act.put, List.setIfInBounds_toArray, List.set_cons_zero, List.set_cons_succ]
  refine wpAnyH_take (i := 11) (oi := { dst := some 89, op := Op.indexAddr 23 (Operand.tmp 88) (Operand.const (Value.int IntKind.i64 0)), type := 0, pos := "ref.go:88", after := #[{ on := 10, ground := Ground.data }, { on := 8, ground := Ground.guard }], guard := some (8, true) }) (v := undef) rfl (by kernel_rfl) (by kernel_rfl) (by kernel_rfl) (fun _ _ _ h => h) (Or.inr ⟨by rfl, rfl⟩) (by assumption) ?rest11x3
  try simp only [Act.put, List.setIfInBounds_toArray, List.set_cons_zero, List.set_cons_succ]
  refine wpAnyH_take (i := 12) (oi := { dst := some 90, op := Op.load 25 (Operand.tmp 89), type := 25, pos := "ref.go:88", after := #[{ on := 11, ground := Ground.data }, { on := 8, ground := Ground.guard }], guard := some (8, true) }) (v := undef) rfl (by kernel_rfl) (by kernel_rfl) (by kernel_rfl) (fun _ _ _ h => h) (Or.inr ⟨by rfl, rfl⟩) (by assumption) ?rest12x3
  try simp only [Act.put, List.setIfInBounds_toArray, List.set_cons_zero, List.set_cons_succ]
  refine wpAnyH_take (i := 13) (oi := { dst := some 91, op := Op.fieldAddr 45 (Operand.tmp 3) 4, type := 0, pos := "ref.go:88", after := #[{ on := 8, ground := Ground.guard }], guard := some (8, true) }) (v := undef) rfl (by kernel_rfl) (by kernel_rfl) (by kernel_rfl) (fun _ _ _ h => h) (Or.inr ⟨by rfl, rfl⟩) (by assumption) ?rest13x3
  try simp only [Act.put, List.setIfInBounds_toArray, List.set_cons_zero, List.set_cons_succ]
  refine wpAnyH_take (i := 14) (oi := { dst := some 92, op := Op.load 43 (Operand.tmp 91), type := 43, pos := "ref.go:88", after := #[{ on := 13, ground := Ground.data }, { on := 8, ground := Ground.guard }], guard := some (8, true) }) (v := undef) rfl (by kernel_rfl) (by kernel_rfl) (by kernel_rfl) (fun _ _ _ h => h) (Or.inr ⟨by rfl, rfl⟩) (by assumption) ?rest14x3
  try simp only [Act.put, List.setIfInBounds_toArray, List.set_cons_zero, List.set_cons_succ]
  refine wpAnyH_take (i := 15) (oi := { dst := some 93, op := Op.indexAddr 43 (Operand.tmp 92) (Operand.const (Value.int IntKind.i64 0)), type := 0, pos := "ref.go:88", after := #[{ on := 14, ground := Ground.data }, { on := 8, ground := Ground.guard }], guard := some (8, true) }) (v := undef) rfl (by kernel_rfl) (by kernel_rfl) (by kernel_rfl) (fun _ _ _ h => h) (Or.inr ⟨by rfl, rfl⟩) (by assumption) ?rest15x3
  try simp only [Act.put, List.setIfInBounds_toArray, List.set_cons_zero, List.set_cons_succ]
  refine wpAnyH_take (i := 16) (oi := { dst := some 94, op := Op.load 45 (Operand.tmp 93), type := 45, pos := "ref.go:88", after := #[{ on := 15, ground := Ground.data }, { on := 8, ground := Ground.guard }], guard := some (8, true) }) (v := undef) rfl (by kernel_rfl) (by kernel_rfl) (by kernel_rfl) (fun _ _ _ h => h) (Or.inr ⟨by rfl, rfl⟩) (by assumption) ?rest16x3
  try simp only [Act.put, List.setIfInBounds_toArray, List.set_cons_zero, List.set_cons_succ]
  refine wpAnyH_take (i := 17) (oi := { dst := some 95, op := Op.call { callee := Callee.value (Operand.func 66), args := #[Operand.tmp 90, Operand.tmp 94], argTypes := #[25, 45] }, type := 4, pos := "ref.go:88", after := #[{ on := 12, ground := Ground.data }, { on := 16, ground := Ground.data }, { on := 8, ground := Ground.chain }, { on := 8, ground := Ground.guard }], guard := some (8, true) }) (v := undef) rfl (by kernel_rfl) (by kernel_rfl) (by kernel_rfl) (fun _ _ _ h => h) (Or.inr ⟨by rfl, rfl⟩) (by assumption) ?rest17x3
  try simp only [Act.put, List.setIfInBounds_toArray, List.set_cons_zero, List.set_cons_succ]
  refine wpAnyH_take (i := 18) (oi := { dst := some 96, op := Op.pick (Operand.tmp 86) (Operand.tmp 95) (Operand.const (Value.bool false)), type := 4, pos := "ref.go:88", after := #[{ on := 8, ground := Ground.data }, { on := 17, ground := Ground.data }], guard := none }) (v := ?v18x3) rfl (by kernel_rfl) (by kernel_rfl) (by kernel_rfl) (fun _ _ _ h => h) (Or.inl ⟨by rfl, ?hy18x3⟩) (by assumption) ?rest18x3
  case hy18x3 => (intro w hSw; (try dsimp only at hSw); go_simp; try with_reducible rfl)
  try simp only [Act.put, List.setIfInBounds_toArray, List.set_cons_zero, List.set_cons_succ]
  refine wpAnyH_take (i := 19) (oi := { dst := some 97, op := Op.move (Operand.tmp 96), type := 4, pos := "ref.go:88", after := #[{ on := 18, ground := Ground.data }, { on := 17, ground := Ground.chain }], guard := none }) (v := ?v19x3) rfl (by kernel_rfl) (by kernel_rfl) (by kernel_rfl) (fun _ _ _ h => h) (Or.inl ⟨by rfl, ?hy19x3⟩) (by assumption) ?rest19x3
  case hy19x3 => (intro w hSw; (try dsimp only at hSw); go_simp; try with_reducible rfl)
  try simp only [Act.put, List.setIfInBounds_toArray, List.set_cons_zero, List.set_cons_succ]
  refine wpAnyH_take (i := 20) (oi := { dst := some 98, op := Op.fieldAddr 25 (Operand.tmp 2) 2, type := 0, pos := "ref.go:88", after := #[{ on := 19, ground := Ground.guard }], guard := some (19, true) }) (v := undef) rfl (by kernel_rfl) (by kernel_rfl) (by kernel_rfl) (fun _ _ _ h => h) (Or.inr ⟨by rfl, rfl⟩) (by assumption) ?rest20x3
  try simp only [Act.put, List.setIfInBounds_toArray, List.set_cons_zero, List.set_cons_succ]
  refine wpAnyH_take (i := 21) (oi := { dst := some 99, op := Op.load 23 (Operand.tmp 98), type := 23, pos := "ref.go:88", after := #[{ on := 20, ground := Ground.data }, { on := 19, ground := Ground.guard }], guard := some (19, true) }) (v := undef) rfl (by kernel_rfl) (by kernel_rfl) (by kernel_rfl) (fun _ _ _ h => h) (Or.inr ⟨by rfl, rfl⟩) (by assumption) ?rest21x3
  try simp only [Act.put, List.setIfInBounds_toArray, List.set_cons_zero, List.set_cons_succ]
  refine wpAnyH_take (i := 22) (oi := { dst := some 100, op := Op.indexAddr 23 (Operand.tmp 99) (Operand.const (Value.int IntKind.i64 1)), type := 0, pos := "ref.go:88", after := #[{ on := 21, ground := Ground.data }, { on := 19, ground := Ground.guard }], guard := some (19, true) }) (v := undef) rfl (by kernel_rfl) (by kernel_rfl) (by kernel_rfl) (fun _ _ _ h => h) (Or.inr ⟨by rfl, rfl⟩) (by assumption) ?rest22x3
  try simp only [Act.put, List.setIfInBounds_toArray, List.set_cons_zero, List.set_cons_succ]
  refine wpAnyH_take (i := 23) (oi := { dst := some 101, op := Op.load 25 (Operand.tmp 100), type := 25, pos := "ref.go:88", after := #[{ on := 22, ground := Ground.data }, { on := 19, ground := Ground.guard }], guard := some (19, true) }) (v := undef) rfl (by kernel_rfl) (by kernel_rfl) (by kernel_rfl) (fun _ _ _ h => h) (Or.inr ⟨by rfl, rfl⟩) (by assumption) ?rest23x3
  try simp only [Act.put, List.setIfInBounds_toArray, List.set_cons_zero, List.set_cons_succ]
  refine wpAnyH_take (i := 24) (oi := { dst := some 102, op := Op.fieldAddr 45 (Operand.tmp 3) 4, type := 0, pos := "ref.go:88", after := #[{ on := 19, ground := Ground.guard }], guard := some (19, true) }) (v := undef) rfl (by kernel_rfl) (by kernel_rfl) (by kernel_rfl) (fun _ _ _ h => h) (Or.inr ⟨by rfl, rfl⟩) (by assumption) ?rest24x3
  try simp only [Act.put, List.setIfInBounds_toArray, List.set_cons_zero, List.set_cons_succ]
  refine wpAnyH_take (i := 25) (oi := { dst := some 103, op := Op.load 43 (Operand.tmp 102), type := 43, pos := "ref.go:88", after := #[{ on := 24, ground := Ground.data }, { on := 19, ground := Ground.guard }], guard := some (19, true) }) (v := undef) rfl (by kernel_rfl) (by kernel_rfl) (by kernel_rfl) (fun _ _ _ h => h) (Or.inr ⟨by rfl, rfl⟩) (by assumption) ?rest25x3
  try simp only [Act.put, List.setIfInBounds_toArray, List.set_cons_zero, List.set_cons_succ]
  refine wpAnyH_take (i := 26) (oi := { dst := some 104, op := Op.indexAddr 43 (Operand.tmp 103) (Operand.const (Value.int IntKind.i64 1)), type := 0, pos := "ref.go:88", after := #[{ on := 25, ground := Ground.data }, { on := 19, ground := Ground.guard }], guard := some (19, true) }) (v := undef) rfl (by kernel_rfl) (by kernel_rfl) (by kernel_rfl) (fun _ _ _ h => h) (Or.inr ⟨by rfl, rfl⟩) (by assumption) ?rest26x3
  try simp only [Act.put, List.setIfInBounds_toArray, List.set_cons_zero, List.set_cons_succ]
  refine wpAnyH_take (i := 27) (oi := { dst := some 105, op := Op.load 45 (Operand.tmp 104), type := 45, pos := "ref.go:88", after := #[{ on := 26, ground := Ground.data }, { on := 19, ground := Ground.guard }], guard := some (19, true) }) (v := undef) rfl (by kernel_rfl) (by kernel_rfl) (by kernel_rfl) (fun _ _ _ h => h) (Or.inr ⟨by rfl, rfl⟩) (by assumption) ?rest27x3
  try simp only [Act.put, List.setIfInBounds_toArray, List.set_cons_zero, List.set_cons_succ]
  refine wpAnyH_take (i := 28) (oi := { dst := some 106, op := Op.call { callee := Callee.value (Operand.func 66), args := #[Operand.tmp 101, Operand.tmp 105], argTypes := #[25, 45] }, type := 4, pos := "ref.go:88", after := #[{ on := 23, ground := Ground.data }, { on := 27, ground := Ground.data }, { on := 19, ground := Ground.chain }, { on := 19, ground := Ground.guard }], guard := some (19, true) }) (v := undef) rfl (by kernel_rfl) (by kernel_rfl) (by kernel_rfl) (fun _ _ _ h => h) (Or.inr ⟨by rfl, rfl⟩) (by assumption) ?rest28x3
  try simp only [Act.put, List.setIfInBounds_toArray, List.set_cons_zero, List.set_cons_succ]
  refine wpAnyH_take (i := 29) (oi := { dst := some 107, op := Op.pick (Operand.tmp 97) (Operand.tmp 106) (Operand.const (Value.bool false)), type := 4, pos := "ref.go:88", after := #[{ on := 19, ground := Ground.data }, { on := 28, ground := Ground.data }], guard := none }) (v := ?v29x3) rfl (by kernel_rfl) (by kernel_rfl) (by kernel_rfl) (fun _ _ _ h => h) (Or.inl ⟨by rfl, ?hy29x3⟩) (by assumption) ?rest29x3
  case hy29x3 => (intro w hSw; (try dsimp only at hSw); go_simp; try with_reducible rfl)
  try simp only [Act.put, List.setIfInBounds_toArray, List.set_cons_zero, List.set_cons_succ]
  refine wpAnyH_take (i := 30) (oi := { dst := some 4, op := Op.assign (Operand.tmp 107), type := 4, pos := "ref.go:88", after := #[{ on := 29, ground := Ground.data }, { on := 28, ground := Ground.chain }, { on := 0, ground := Ground.phase }, { on := 1, ground := Ground.phase }, { on := 2, ground := Ground.phase }, { on := 3, ground := Ground.phase }, { on := 4, ground := Ground.phase }, { on := 5, ground := Ground.phase }, { on := 6, ground := Ground.phase }, { on := 7, ground := Ground.phase }, { on := 8, ground := Ground.phase }, { on := 9, ground := Ground.phase }, { on := 10, ground := Ground.phase }, { on := 11, ground := Ground.phase }, { on := 12, ground := Ground.phase }, { on := 13, ground := Ground.phase }, { on := 14, ground := Ground.phase }, { on := 15, ground := Ground.phase }, { on := 16, ground := Ground.phase }, { on := 17, ground := Ground.phase }, { on := 18, ground := Ground.phase }, { on := 19, ground := Ground.phase }, { on := 20, ground := Ground.phase }, { on := 21, ground := Ground.phase }, { on := 22, ground := Ground.phase }, { on := 23, ground := Ground.phase }, { on := 24, ground := Ground.phase }, { on := 25, ground := Ground.phase }, { on := 26, ground := Ground.phase }, { on := 27, ground := Ground.phase }, { on := 28, ground := Ground.phase }, { on := 29, ground := Ground.phase }], guard := none }) (v := ?v30x3) rfl (by kernel_rfl) (by kernel_rfl) (by kernel_rfl) (fun _ _ _ h => h) (Or.inl ⟨by rfl, ?hy30x3⟩) (by assumption) ?rest30x3
  case hy30x3 => (intro w hSw; (try dsimp only at hSw); go_simp; try with_reducible rfl)
  try simp only [Act.put, List.setIfInBounds_toArray, List.set_cons_zero, List.set_cons_succ]
  refine wpAnyH_done (by kernel_rfl) ?_ _
  all_goals (go_wp2_with fail; go_ret; exact ⟨rbool HF.out, hB.out.trans (D1.out.mono hB.out.size)⟩)
 by_cases hl2 : gpl = 2
 rotate_left
 ·have hne : ((gpl : Int) == 2) = false := by simp; omega
  have HF : Hid (false = r) := by show _ = _; rw [← HR.out, pairOk, decide_eq_false (by omega)]; simp
  clear hr hbb hsp hw hs hp hq hp3 hq3
  go_enter Try.func66, Try.ntmps66
  go_wp2_with fail
  have EN : Hid (∀ W : World, Below W0.heap.size W0 W → W.cell? ⟨w.heap.size, 0, none⟩ = some (.int .i64 5) ∧ W.cell? ⟨w.heap.size, 1, none⟩ = some (.int .i64 0) ∧ W.cell? ⟨w.heap.size, 2, none⟩ = some (.slice (some ⟨b, off, none⟩) 2 sc) ∧ W.cell? ⟨w.heap.size + 1, 0, none⟩ = some (.bool false) ∧ W.cell? ⟨w.heap.size + 1, 1, none⟩ = some (.int .i64 gc) ∧ W.cell? ⟨w.heap.size + 1, 2, none⟩ = some (.int .u64 (gg : Int)) ∧ W.cell? ⟨w.heap.size + 1, 3, none⟩ = some (.slice gra grl grc) ∧ W.cell? ⟨w.heap.size + 1, 4, none⟩ = some (.slice gca gcl gcc) ∧ W.cell? ⟨w.heap.size + 1, 5, none⟩ = some (.slice gpa gpl gpc)) := fun W h => by obtain ⟨a0, a1, a2⟩ := tri_cells (heap_old (heap_old T0.out (Below.refl _ _)) h); obtain ⟨c0, c1, c2, c3, c4, c5⟩ := six_cells (heap_old (heap_old T1.out (Below.refl _ _)) h); exact ⟨a0, a1, a2, c0, c1, c2, c3, c4, c5⟩
  clear x0 x1 x2 y0 y1 y2 y3 y4 y5
  obtain ⟨m0, m1, m2, m3, m4, m5, m6, m7, m8⟩ := EN.out _ (Below.refl _ _)
  have D0 : Hid (Below W0.heap.size W0 W0.drew) := (Below.refl _ _).drew
  refine wp_region_held_drew (S := (fun w' => w'.cell? ⟨w.heap.size, 0, none⟩ = some (.int .i64 5) ∧ w'.cell? ⟨w.heap.size, 1, none⟩ = some (.int .i64 0) ∧ w'.cell? ⟨w.heap.size, 2, none⟩ = some (.slice (some ⟨b, off, none⟩) 2 sc) ∧ w'.cell? ⟨w.heap.size + 1, 0, none⟩ = some (.bool false) ∧ w'.cell? ⟨w.heap.size + 1, 1, none⟩ = some (.int .i64 gc) ∧ w'.cell? ⟨w.heap.size + 1, 2, none⟩ = some (.int .u64 (gg : Int)) ∧ w'.cell? ⟨w.heap.size + 1, 3, none⟩ = some (.slice gra grl grc) ∧ w'.cell? ⟨w.heap.size + 1, 4, none⟩ = some (.slice gca gcl gcc) ∧ w'.cell? ⟨w.heap.size + 1, 5, none⟩ = some (.slice gpa gpl gpc))) (by kernel_rfl) (by with_reducible exact EN.out _ D0.out) (fun hHeld => ?_)
  refine wpAnyH_take (i := 0) (oi := { dst := some 78, op := Op.load 45 (Operand.tmp 3), type := 45, pos := "ref.go:88", after := #[], guard := none }) (v := ?v0x4) rfl (by kernel_rfl) (by kernel_rfl) (by kernel_rfl) (fun _ _ _ h => h) (Or.inl ⟨by rfl, ?hy0x4⟩) (by assumption) ?rest0x4
  case hy0x4 => (intro w hSw; (try dsimp only at hSw); go_simp; try with_reducible rfl)
  try simp only [Act.put, List.setIfInBounds_toArray, List.set_cons_zero, List.set_cons_succ]
  refine wpAnyH_ready (rs := [1]) (by kernel_rfl) (by simp) (AllReadyH.cons (o := { dst := some 79, op := Op.call { callee := Callee.value (Operand.func 89), args := #[Operand.tmp 78, Operand.const (Value.bool false), Operand.const (Value.bool false), Operand.const (Value.bool false), Operand.const (Value.bool true)], argTypes := #[45, 4, 4, 4, 4] }, type := 4, pos := "ref.go:88", after := #[{ on := 0, ground := Ground.data }], guard := none }) rfl (fun K hK => ?_) AllReadyH.nil)
  go_simp
  go_at_call 89
  refine (plainR_4 ⟨false, gc, gg, gra, grl, grc, grows, gca, gcl, gcc, gcells, gpa, gpl, gpc⟩ true HO.out _).mono ?_
  rintro e w2 ⟨rfl, hb2⟩
  have D1 : Hid (Below W0.heap.size W0 w2) := Lib.hid (D0.out.trans (hb2.mono D0.out.size))
  dsimp only
  refine hK.out _ _ (by with_reducible exact EN.out _ D1.out) (fun hHeld1 => ?_)
  clear hK K
  try simp only [Act.put, List.setIfInBounds_toArray, List.set_cons_zero, List.set_cons_succ]
  refine wpAnyH_take (i := 2) (oi := { dst := some 80, op := Op.move (Operand.tmp 79), type := 4, pos := "ref.go:88", after := #[{ on := 1, ground := Ground.data }, { on := 1, ground := Ground.chain }], guard := none }) (v := ?v2x4) rfl (by kernel_rfl) (by kernel_rfl) (by kernel_rfl) (fun _ _ _ h => h) (Or.inl ⟨by rfl, ?hy2x4⟩) (by assumption) ?rest2x4
  case hy2x4 => (intro w hSw; (try dsimp only at hSw); go_simp; try with_reducible rfl)
  try simp only [Act.put, List.setIfInBounds_toArray, List.set_cons_zero, List.set_cons_succ]
  refine wpAnyH_take (i := 3) (oi := { dst := some 81, op := Op.fieldAddr 45 (Operand.tmp 3) 4, type := 0, pos := "ref.go:88", after := #[{ on := 2, ground := Ground.guard }], guard := some (2, true) }) (v := ?v3x4) rfl (by kernel_rfl) (by kernel_rfl) (by kernel_rfl) (fun _ _ _ h => h) (Or.inl ⟨by rfl, ?hy3x4⟩) (by assumption) ?rest3x4
  case hy3x4 => (intro w hSw; (try dsimp only at hSw); go_simp; try with_reducible rfl)
  try simp only [Act.put, List.setIfInBounds_toArray, List.set_cons_zero, List.set_cons_succ]
  refine wpAnyH_take (i := 4) (oi := { dst := some 82, op := Op.load 43 (Operand.tmp 81), type := 43, pos := "ref.go:88", after := #[{ on := 3, ground := Ground.data }, { on := 2, ground := Ground.guard }], guard := some (2, true) }) (v := ?v4x4) rfl (by kernel_rfl) (by kernel_rfl) (by kernel_rfl) (fun _ _ _ h => h) (Or.inl ⟨by rfl, ?hy4x4⟩) (by assumption) ?rest4x4
  case hy4x4 => (intro w hSw; (try dsimp only at hSw); go_simp; try with_reducible rfl)
  try simp only [Act.put, List.setIfInBounds_toArray, List.set_cons_zero, List.set_cons_succ]
  refine wpAnyH_take (i := 5) (oi := { dst := some 83, op := Op.call { callee := Callee.builtin Builtin.len, args := #[Operand.tmp 82], argTypes := #[43] }, type := 3, pos := "ref.go:88", after := #[{ on := 4, ground := Ground.data }, { on := 2, ground := Ground.guard }], guard := some (2, true) }) (v := ?v5x4) rfl (by kernel_rfl) (by kernel_rfl) (by kernel_rfl) (fun _ _ _ h => h) (Or.inl ⟨by rfl, ?hy5x4⟩) (by assumption) ?rest5x4
  case hy5x4 => (intro w hSw; (try dsimp only at hSw); go_simp; try with_reducible rfl)
  try simp only [Act.put, List.setIfInBounds_toArray, List.set_cons_zero, List.set_cons_succ]
  refine wpAnyH_take (i := 6) (oi := { dst := some 84, op := Op.binOp BinOp.eql 3 (Operand.tmp 83) (Operand.const (Value.int IntKind.i64 2)) 3, type := 4, pos := "ref.go:88", after := #[{ on := 5, ground := Ground.data }, { on := 2, ground := Ground.guard }], guard := some (2, true) }) (v := ?v6x4) rfl (by kernel_rfl) (by kernel_rfl) (by kernel_rfl) (fun _ _ _ h => h) (Or.inl ⟨by rfl, ?hy6x4⟩) (by assumption) ?rest6x4
  case hy6x4 => (intro w hSw; (try dsimp only at hSw); go_simp; try with_reducible rfl)
  try simp only [Act.put, List.setIfInBounds_toArray, List.set_cons_zero, List.set_cons_succ]
  refine wpAnyH_take (i := 7) (oi := { dst := some 85, op := Op.pick (Operand.tmp 80) (Operand.tmp 84) (Operand.const (Value.bool false)), type := 4, pos := "ref.go:88", after := #[{ on := 2, ground := Ground.data }, { on := 6, ground := Ground.data }], guard := none }) (v := ?v7x4) rfl (by kernel_rfl) (by kernel_rfl) (by kernel_rfl) (fun _ _ _ h => h) (Or.inl ⟨by rfl, ?hy7x4⟩) (by assumption) ?rest7x4
  case hy7x4 => (intro w hSw; (try dsimp only at hSw); go_simp; try with_reducible rfl)
  try simp only [Act.put, List.setIfInBounds_toArray, List.set_cons_zero, List.set_cons_succ]
  refine wpAnyH_take (i := 8) (oi := { dst := some 86, op := Op.move (Operand.tmp 85), type := 4, pos := "ref.go:88", after := #[{ on := 7, ground := Ground.data }, { on := 2, ground := Ground.chain }], guard := none }) (v := ?v8x4) rfl (by kernel_rfl) (by kernel_rfl) (by kernel_rfl) (fun _ _ _ h => h) (Or.inl ⟨by rfl, ?hy8x4⟩) (by assumption) ?rest8x4
  case hy8x4 => (intro w hSw; (try dsimp only at hSw); go_simp; try with_reducible rfl)
  try simp only [Act.put, List.setIfInBounds_toArray, List.set_cons_zero, List.set_cons_succ]
  refine wpAnyH_take (i := 9) (oi := { dst := some 87, op := Op.fieldAddr 25 (Operand.tmp 2) 2, type := 0, pos := "ref.go:88", after := #[{ on := 8, ground := Ground.guard }], guard := some (8, true) }) (v := undef) rfl (by kernel_rfl) (by kernel_rfl) (by kernel_rfl) (fun _ _ _ h => h) (Or.inr ⟨by rfl, rfl⟩) (by assumption) ?rest9x4
  try simp only [Act.put, List.setIfInBounds_toArray, List.set_cons_zero, List.set_cons_succ]
  refine wpAnyH_take (i := 10) (oi := { dst := some 88, op := Op.load 23 (Operand.tmp 87), type := 23, pos := "ref.go:88", after := #[{ on := 9, ground := Ground.data }, { on := 8, ground := Ground.guard }], guard := some (8, true) }) (v := undef) rfl (by kernel_rfl) (by kernel_rfl) (by kernel_rfl) (fun _ _ _ h => h) (Or.inr ⟨by rfl, rfl⟩) (by assumption) ?rest10x4
  try simp only [Act.put, List.setIfInBounds_toArray, List.set_cons_zero, List.set_cons_succ]
  refine wpAnyH_take (i := 11) (oi := { dst := some 89, op := Op.indexAddr 23 (Operand.tmp 88) (Operand.const (Value.int IntKind.i64 0)), type := 0, pos := "ref.go:88", after := #[{ on := 10, ground := Ground.data }, { on := 8, ground := Ground.guard }], guard := some (8, true) }) (v := undef) rfl (by kernel_rfl) (by kernel_rfl) (by kernel_rfl) (fun _ _ _ h => h) (Or.inr ⟨by rfl, rfl⟩) (by assumption) ?rest11x4
  try simp only [Act.put, List.setIfInBounds_toArray, List.set_cons_zero, List.set_cons_succ]
  refine wpAnyH_take (i := 12) (oi := { dst := some 90, op := Op.load 25 (Operand.tmp 89), type := 25, pos := "ref.go:88", after := #[{ on := 11, ground := Ground.data }, { on := 8, ground := Ground.guard }], guard := some (8, true) }) (v := undef) rfl (by kernel_rfl) (by kernel_rfl) (by kernel_rfl) (fun _ _ _ h => h) (Or.inr ⟨by rfl, rfl⟩) (by assumption) ?rest12x4
  try simp only [Act.put, List.setIfInBounds_toArray, List.set_cons_zero, List.set_cons_succ]
  refine wpAnyH_take (i := 13) (oi := { dst := some 91, op := Op.fieldAddr 45 (Operand.tmp 3) 4, type := 0, pos := "ref.go:88", after := #[{ on := 8, ground := Ground.guard }], guard := some (8, true) }) (v := undef) rfl (by kernel_rfl) (by kernel_rfl) (by kernel_rfl) (fun _ _ _ h => h) (Or.inr ⟨by rfl, rfl⟩) (by assumption) ?rest13x4
  try simp only [Act.put, List.setIfInBounds_toArray, List.set_cons_zero, List.set_cons_succ]
  refine wpAnyH_take (i := 14) (oi := { dst := some 92, op := Op.load 43 (Operand.tmp 91), type := 43, pos := "ref.go:88", after := #[{ on := 13, ground := Ground.data }, { on := 8, ground := Ground.guard }], guard := some (8, true) }) (v := undef) rfl (by kernel_rfl) (by kernel_rfl) (by kernel_rfl) (fun _ _ _ h => h) (Or.inr ⟨by rfl, rfl⟩) (by assumption) ?rest14x4
  try simp only [Act.put, List.setIfInBounds_toArray, List.set_cons_zero, List.set_cons_succ]
  refine wpAnyH_take (i := 15) (oi := { dst := some 93, op := Op.indexAddr 43 (Operand.tmp 92) (Operand.const (Value.int IntKind.i64 0)), type := 0, pos := "ref.go:88", after := #[{ on := 14, ground := Ground.data }, { on := 8, ground := Ground.guard }], guard := some (8, true) }) (v := undef) rfl (by kernel_rfl) (by kernel_rfl) (by kernel_rfl) (fun _ _ _ h => h) (Or.inr ⟨by rfl, rfl⟩) (by assumption) ?rest15x4
  try simp only [Act.put, List.setIfInBounds_toArray, List.set_cons_zero, List.set_cons_succ]
  refine wpAnyH_take (i := 16) (oi := { dst := some 94, op := Op.load 45 (Operand.tmp 93), type := 45, pos := "ref.go:88", after := #[{ on := 15, ground := Ground.data }, { on := 8, ground := Ground.guard }], guard := some (8, true) }) (v := undef) rfl (by kernel_rfl) (by kernel_rfl) (by kernel_rfl) (fun _ _ _ h => h) (Or.inr ⟨by rfl, rfl⟩) (by assumption) ?rest16x4
  try simp only [Act.put, List.setIfInBounds_toArray, List.set_cons_zero, List.set_cons_succ]
  refine wpAnyH_take (i := 17) (oi := { dst := some 95, op := Op.call { callee := Callee.value (Operand.func 66), args := #[Operand.tmp 90, Operand.tmp 94], argTypes := #[25, 45] }, type := 4, pos := "ref.go:88", after := #[{ on := 12, ground := Ground.data }, { on := 16, ground := Ground.data }, { on := 8, ground := Ground.chain }, { on := 8, ground := Ground.guard }], guard := some (8, true) }) (v := undef) rfl (by kernel_rfl) (by kernel_rfl) (by kernel_rfl) (fun _ _ _ h => h) (Or.inr ⟨by rfl, rfl⟩) (by assumption) ?rest17x4
  try simp only [Act.put, List.setIfInBounds_toArray, List.set_cons_zero, List.set_cons_succ]
  refine wpAnyH_take (i := 18) (oi := { dst := some 96, op := Op.pick (Operand.tmp 86) (Operand.tmp 95) (Operand.const (Value.bool false)), type := 4, pos := "ref.go:88", after := #[{ on := 8, ground := Ground.data }, { on := 17, ground := Ground.data }], guard := none }) (v := ?v18x4) rfl (by kernel_rfl) (by kernel_rfl) (by kernel_rfl) (fun _ _ _ h => h) (Or.inl ⟨by rfl, ?hy18x4⟩) (by assumption) ?rest18x4
  case hy18x4 => (intro w hSw; (try dsimp only at hSw); go_simp; try with_reducible rfl)
  try simp only [Act.put, List.setIfInBounds_toArray, List.set_cons_zero, List.set_cons_succ]
  refine wpAnyH_take (i := 19) (oi := { dst := some 97, op := Op.move (Operand.tmp 96), type := 4, pos := "ref.go:88", after := #[{ on := 18, ground := Ground.data }, { on := 17, ground := Ground.chain }], guard := none }) (v := ?v19x4) rfl (by kernel_rfl) (by kernel_rfl) (by kernel_rfl) (fun _ _ _ h => h) (Or.inl ⟨by rfl, ?hy19x4⟩) (by assumption) ?rest19x4
  case hy19x4 => (intro w hSw; (try dsimp only at hSw); go_simp; try with_reducible rfl)
  try simp only [Act.put, List.setIfInBounds_toArray, List.set_cons_zero, List.set_cons_succ]
  refine wpAnyH_take (i := 20) (oi := { dst := some 98, op := Op.fieldAddr 25 (Operand.tmp 2) 2, type := 0, pos := "ref.go:88", after := #[{ on := 19, ground := Ground.guard }], guard := some (19, true) }) (v := undef) rfl (by kernel_rfl) (by kernel_rfl) (by kernel_rfl) (fun _ _ _ h => h) (Or.inr ⟨by rfl, rfl⟩) (by assumption) ?rest20x4
  try simp only [Act.put, List.setIfInBounds_toArray, List.set_cons_zero, List.set_cons_succ]
  refine wpAnyH_take (i := 21) (oi := { dst := some 99, op := Op.load 23 (Operand.tmp 98), type := 23, pos := "ref.go:88", after := #[{ on := 20, ground := Ground.data }, { on := 19, ground := Ground.guard }], guard := some (19, true) }) (v := undef) rfl (by kernel_rfl) (by kernel_rfl) (by kernel_rfl) (fun _ _ _ h => h) (Or.inr ⟨by rfl, rfl⟩) (by assumption) ?rest21x4
  try simp only [Act.put, List.setIfInBounds_toArray, List.set_cons_zero, List.set_cons_succ]
  refine wpAnyH_take (i := 22) (oi := { dst := some 100, op := Op.indexAddr 23 (Operand.tmp 99) (Operand.const (Value.int IntKind.i64 1)), type := 0, pos := "ref.go:88", after := #[{ on := 21, ground := Ground.data }, { on := 19, ground := Ground.guard }], guard := some (19, true) }) (v := undef) rfl (by kernel_rfl) (by kernel_rfl) (by kernel_rfl) (fun _ _ _ h => h) (Or.inr ⟨by rfl, rfl⟩) (by assumption) ?rest22x4
  try simp only [Act.put, List.setIfInBounds_toArray, List.set_cons_zero, List.set_cons_succ]
  refine wpAnyH_take (i := 23) (oi := { dst := some 101, op := Op.load 25 (Operand.tmp 100), type := 25, pos := "ref.go:88", after := #[{ on := 22, ground := Ground.data }, { on := 19, ground := Ground.guard }], guard := some (19, true) }) (v := undef) rfl (by kernel_rfl) (by kernel_rfl) (by kernel_rfl) (fun _ _ _ h => h) (Or.inr ⟨by rfl, rfl⟩) (by assumption) ?rest23x4
  try simp only [Act.put, List.setIfInBounds_toArray, List.set_cons_zero, List.set_cons_succ]
  refine wpAnyH_take (i := 24) (oi := { dst := some 102, op := Op.fieldAddr 45 (Operand.tmp 3) 4, type := 0, pos := "ref.go:88", after := #[{ on := 19, ground := Ground.guard }], guard := some (19, true) }) (v := undef) rfl (by kernel_rfl) (by kernel_rfl) (by kernel_rfl) (fun _ _ _ h => h) (Or.inr ⟨by rfl, rfl⟩) (by assumption) ?rest24x4
  try simp only [Act.put, List.setIfInBounds_toArray, List.set_cons_zero, List.set_cons_succ]
  refine wpAnyH_take (i := 25) (oi := { dst := some 103, op := Op.load 43 (Operand.tmp 102), type := 43, pos := "ref.go:88", after := #[{ on := 24, ground := Ground.data }, { on := 19, ground := Ground.guard }], guard := some (19, true) }) (v := undef) rfl (by kernel_rfl) (by kernel_rfl) (by kernel_rfl) (fun _ _ _ h => h) (Or.inr ⟨by rfl, rfl⟩) (by assumption) ?rest25x4
  try simp only [Act.put, List.setIfInBounds_toArray, List.set_cons_zero, List.set_cons_succ]
  refine wpAnyH_take (i := 26) (oi := { dst := some 104, op := Op.indexAddr 43 (Operand.tmp 103) (Operand.const (Value.int IntKind.i64 1)), type := 0, pos := "ref.go:88", after := #[{ on := 25, ground := Ground.data }, { on := 19, ground := Ground.guard }], guard := some (19, true) }) (v := undef) rfl (by kernel_rfl) (by kernel_rfl) (by kernel_rfl) (fun _ _ _ h => h) (Or.inr ⟨by rfl, rfl⟩) (by assumption) ?rest26x4
  try simp only [Act.put, List.setIfInBounds_toArray, List.set_cons_zero, List.set_cons_succ]
  refine wpAnyH_take (i := 27) (oi := { dst := some 105, op := Op.load 45 (Operand.tmp 104), type := 45, pos := "ref.go:88", after := #[{ on := 26, ground := Ground.data }, { on := 19, ground := Ground.guard }], guard := some (19, true) }) (v := undef) rfl (by kernel_rfl) (by kernel_rfl) (by kernel_rfl) (fun _ _ _ h => h) (Or.inr ⟨by rfl, rfl⟩) (by assumption) ?rest27x4
  try simp only [Act.put, List.setIfInBounds_toArray, List.set_cons_zero, List.set_cons_succ]
  refine wpAnyH_take (i := 28) (oi := { dst := some 106, op := Op.call { callee := Callee.value (Operand.func 66), args := #[Operand.tmp 101, Operand.tmp 105], argTypes := #[25, 45] }, type := 4, pos := "ref.go:88", after := #[{ on := 23, ground := Ground.data }, { on := 27, ground := Ground.data }, { on := 19, ground := Ground.chain }, { on := 19, ground := Ground.guard }], guard := some (19, true) }) (v := undef) rfl (by kernel_rfl) (by kernel_rfl) (by kernel_rfl) (fun _ _ _ h => h) (Or.inr ⟨by rfl, rfl⟩) (by assumption) ?rest28x4
  try simp only [Act.put, List.setIfInBounds_toArray, List.set_cons_zero, List.set_cons_succ]
  refine wpAnyH_take (i := 29) (oi := { dst := some 107, op := Op.pick (Operand.tmp 97) (Operand.tmp 106) (Operand.const (Value.bool false)), type := 4, pos := "ref.go:88", after := #[{ on := 19, ground := Ground.data }, { on := 28, ground := Ground.data }], guard := none }) (v := ?v29x4) rfl (by kernel_rfl) (by kernel_rfl) (by kernel_rfl) (fun _ _ _ h => h) (Or.inl ⟨by rfl, ?hy29x4⟩) (by assumption) ?rest29x4
  case hy29x4 => (intro w hSw; (try dsimp only at hSw); go_simp; try with_reducible rfl)
  try simp only [Act.put, List.setIfInBounds_toArray, List.set_cons_zero, List.set_cons_succ]
  refine wpAnyH_take (i := 30) (oi := { dst := some 4, op := Op.assign (Operand.tmp 107), type := 4, pos := "ref.go:88", after := #[{ on := 29, ground := Ground.data }, { on := 28, ground := Ground.chain }, { on := 0, ground := Ground.phase }, { on := 1, ground := Ground.phase }, { on := 2, ground := Ground.phase }, { on := 3, ground := Ground.phase }, { on := 4, ground := Ground.phase }, { on := 5, ground := Ground.phase }, { on := 6, ground := Ground.phase }, { on := 7, ground := Ground.phase }, { on := 8, ground := Ground.phase }, { on := 9, ground := Ground.phase }, { on := 10, ground := Ground.phase }, { on := 11, ground := Ground.phase }, { on := 12, ground := Ground.phase }, { on := 13, ground := Ground.phase }, { on := 14, ground := Ground.phase }, { on := 15, ground := Ground.phase }, { on := 16, ground := Ground.phase }, { on := 17, ground := Ground.phase }, { on := 18, ground := Ground.phase }, { on := 19, ground := Ground.phase }, { on := 20, ground := Ground.phase }, { on := 21, ground := Ground.phase }, { on := 22, ground := Ground.phase }, { on := 23, ground := Ground.phase }, { on := 24, ground := Ground.phase }, { on := 25, ground := Ground.phase }, { on := 26, ground := Ground.phase }, { on := 27, ground := Ground.phase }, { on := 28, ground := Ground.phase }, { on := 29, ground := Ground.phase }], guard := none }) (v := ?v30x4) rfl (by kernel_rfl) (by kernel_rfl) (by kernel_rfl) (fun _ _ _ h => h) (Or.inl ⟨by rfl, ?hy30x4⟩) (by assumption) ?rest30x4
  case hy30x4 => (intro w hSw; (try dsimp only at hSw); go_simp; try with_reducible rfl)
  try simp only [Act.put, List.setIfInBounds_toArray, List.set_cons_zero, List.set_cons_succ]
  refine wpAnyH_done (by kernel_rfl) ?_ _
  all_goals (go_wp2_with fail; go_ret; exact ⟨rbool HF.out, hB.out.trans (D1.out.mono hB.out.size)⟩)
 subst hl2
 obtain ⟨x, y, rfl⟩ := two_of hgl
 obtain ⟨_, b2, of2, ha2, hb2l, hx6, hy6, hxi, hyi⟩ := hw.two
 dsimp only at ha2
 subst ha2
 have XA := Lib.hid hxi.at_; have YA := Lib.hid hyi.at_
 have XS := Lib.hid (hs x (by simp)); have YS := Lib.hid (hs y (by simp))
 obtain ⟨⟨xz, xc, xg, xra, xrl, xrc, xrows, xca, xcl, xcc, xcells, xpa, xpl, xpc⟩, xps⟩ := x
 obtain ⟨⟨yz, yc, yg, yra, yrl, yrc, yrows, yca, ycl, ycc, ycells, ypa, ypl, ypc⟩, yps⟩ := y
 have HX6 := Lib.hid hx6; have HY6 := Lib.hid hy6
 have XSS : Hid (0 ≤ xrl) := XS.out; have YSS : Hid (0 ≤ yrl) := YS.out
 have XAA : Hid (WF.At w ⟨xz, xc, xg, xra, xrl, xrc, xrows, xca, xcl, xcc, xcells, xpa, xpl, xpc⟩) := XA.out; have YAA : Hid (WF.At w ⟨yz, yc, yg, yra, yrl, yrc, yrows, yca, ycl, ycc, ycells, ypa, ypl, ypc⟩) := YA.out
 clear XS YS XA YA
 obtain ⟨r1, hr1⟩ : ∃ o, pwOk pt pn ⟨xz, xc, xg, xra, xrl, xrc, xrows, xca, xcl, xcc, xcells, xpa, xpl, xpc⟩ = o := ⟨_, rfl⟩
 obtain ⟨r2, hr2⟩ : ∃ o, pwOk qt qn ⟨yz, yc, yg, yra, yrl, yrc, yrows, yca, ycl, ycc, ycells, ypa, ypl, ypc⟩ = o := ⟨_, rfl⟩
 have HR1 := Lib.hid hr1; have HR2 := Lib.hid hr2
 have HRR : Hid ((r1 && r2) = r) := by show _ = _; rw [← HR.out, pairOk, HBB.out]; simp [pwAt, SV.f, WV.f, hr1, hr2]
 clear hr hbb hsp hw hs hp hq hp3 hq3 hx6 hy6 hxi hyi hr1 hr2 hgl HR
 cases r1
 ·have HF : Hid (false = r) := by show _ = _; rw [← HRR.out]; simp
  go_enter Try.func66, Try.ntmps66
  go_wp2_with fail
  have EN : Hid (∀ W : World, Below W0.heap.size W0 W → W.cell? ⟨w.heap.size, 0, none⟩ = some (.int .i64 5) ∧ W.cell? ⟨w.heap.size, 1, none⟩ = some (.int .i64 0) ∧ W.cell? ⟨w.heap.size, 2, none⟩ = some (.slice (some ⟨b, off, none⟩) 2 sc) ∧ W.cell? ⟨w.heap.size + 1, 0, none⟩ = some (.bool false) ∧ W.cell? ⟨w.heap.size + 1, 1, none⟩ = some (.int .i64 gc) ∧ W.cell? ⟨w.heap.size + 1, 2, none⟩ = some (.int .u64 (gg : Int)) ∧ W.cell? ⟨w.heap.size + 1, 3, none⟩ = some (.slice gra grl grc) ∧ W.cell? ⟨w.heap.size + 1, 4, none⟩ = some (.slice gca gcl gcc) ∧ W.cell? ⟨w.heap.size + 1, 5, none⟩ = some (.slice (some ⟨b2, of2, none⟩) 2 gpc) ∧ W.cell? ⟨b, off, none⟩ = some (.int .i64 pt) ∧ W.cell? ⟨b, off + 1, none⟩ = some (.int .i64 pn) ∧ W.cell? ⟨b, off + 2, none⟩ = some (.slice pa pl pc) ∧ W.cell? ⟨b, off + 3, none⟩ = some (.int .i64 qt) ∧ W.cell? ⟨b, off + 4, none⟩ = some (.int .i64 qn) ∧ W.cell? ⟨b, off + 5, none⟩ = some (.slice qa ql qc) ∧ W.cell? ⟨b2, of2, none⟩ = some (.bool xz) ∧ W.cell? ⟨b2, of2 + 1, none⟩ = some (.int .i64 xc) ∧ W.cell? ⟨b2, of2 + 2, none⟩ = some (.int .u64 (xg : Int)) ∧ W.cell? ⟨b2, of2 + 3, none⟩ = some (.slice xra xrl xrc) ∧ W.cell? ⟨b2, of2 + 4, none⟩ = some (.slice xca xcl xcc) ∧ W.cell? ⟨b2, of2 + 5, none⟩ = some (.slice xpa xpl xpc) ∧ W.cell? ⟨b2, of2 + 6, none⟩ = some (.bool yz) ∧ W.cell? ⟨b2, of2 + 7, none⟩ = some (.int .i64 yc) ∧ W.cell? ⟨b2, of2 + 8, none⟩ = some (.int .u64 (yg : Int)) ∧ W.cell? ⟨b2, of2 + 9, none⟩ = some (.slice yra yrl yrc) ∧ W.cell? ⟨b2, of2 + 10, none⟩ = some (.slice yca ycl ycc) ∧ W.cell? ⟨b2, of2 + 11, none⟩ = some (.slice ypa ypl ypc)) := fun W h => by
   obtain ⟨a0, a1, a2⟩ := tri_cells (heap_old (heap_old T0.out (Below.refl _ _)) h); obtain ⟨c0, c1, c2, c3, c4, c5⟩ := six_cells (heap_old (heap_old T1.out (Below.refl _ _)) h)
   have hww : Below w.heap.size w W := hB.out.trans (h.mono hB.out.size)
   obtain ⟨d0, d1, d2⟩ := HP3.out.below hww; obtain ⟨e0, e1, e2⟩ := HQ3.out.below hww; obtain ⟨f0, f1, f2, f3, f4, f5⟩ := HX6.out.below hww; obtain ⟨g0, g1, g2, g3, g4, g5⟩ := HY6.out.below hww
   exact ⟨a0, a1, a2, c0, c1, c2, c3, c4, c5, d0, d1, d2, e0, e1, e2, f0, f1, f2, f3, f4, f5, g0, g1, g2, g3, g4, g5⟩
  clear x0 x1 x2 y0 y1 y2 y3 y4 y5
  obtain ⟨m0, m1, m2, m3, m4, m5, m6, m7, m8, m9, m10, m11, m12, m13, m14, m15, m16, m17, m18, m19, m20, m21, m22, m23, m24, m25, m26⟩ := EN.out _ (Below.refl _ _)
  have D0 : Hid (Below W0.heap.size W0 W0.drew) := (Below.refl _ _).drew
  refine wp_region_held_drew (S := (fun w' => w'.cell? ⟨w.heap.size, 0, none⟩ = some (.int .i64 5) ∧ w'.cell? ⟨w.heap.size, 1, none⟩ = some (.int .i64 0) ∧ w'.cell? ⟨w.heap.size, 2, none⟩ = some (.slice (some ⟨b, off, none⟩) 2 sc) ∧ w'.cell? ⟨w.heap.size + 1, 0, none⟩ = some (.bool false) ∧ w'.cell? ⟨w.heap.size + 1, 1, none⟩ = some (.int .i64 gc) ∧ w'.cell? ⟨w.heap.size + 1, 2, none⟩ = some (.int .u64 (gg : Int)) ∧ w'.cell? ⟨w.heap.size + 1, 3, none⟩ = some (.slice gra grl grc) ∧ w'.cell? ⟨w.heap.size + 1, 4, none⟩ = some (.slice gca gcl gcc) ∧ w'.cell? ⟨w.heap.size + 1, 5, none⟩ = some (.slice (some ⟨b2, of2, none⟩) 2 gpc) ∧ w'.cell? ⟨b, off, none⟩ = some (.int .i64 pt) ∧ w'.cell? ⟨b, off + 1, none⟩ = some (.int .i64 pn) ∧ w'.cell? ⟨b, off + 2, none⟩ = some (.slice pa pl pc) ∧ w'.cell? ⟨b, off + 3, none⟩ = some (.int .i64 qt) ∧ w'.cell? ⟨b, off + 4, none⟩ = some (.int .i64 qn) ∧ w'.cell? ⟨b, off + 5, none⟩ = some (.slice qa ql qc) ∧ w'.cell? ⟨b2, of2, none⟩ = some (.bool xz) ∧ w'.cell? ⟨b2, of2 + 1, none⟩ = some (.int .i64 xc) ∧ w'.cell? ⟨b2, of2 + 2, none⟩ = some (.int .u64 (xg : Int)) ∧ w'.cell? ⟨b2, of2 + 3, none⟩ = some (.slice xra xrl xrc) ∧ w'.cell? ⟨b2, of2 + 4, none⟩ = some (.slice xca xcl xcc) ∧ w'.cell? ⟨b2, of2 + 5, none⟩ = some (.slice xpa xpl xpc) ∧ w'.cell? ⟨b2, of2 + 6, none⟩ = some (.bool yz) ∧ w'.cell? ⟨b2, of2 + 7, none⟩ = some (.int .i64 yc) ∧ w'.cell? ⟨b2, of2 + 8, none⟩ = some (.int .u64 (yg : Int)) ∧ w'.cell? ⟨b2, of2 + 9, none⟩ = some (.slice yra yrl yrc) ∧ w'.cell? ⟨b2, of2 + 10, none⟩ = some (.slice yca ycl ycc) ∧ w'.cell? ⟨b2, of2 + 11, none⟩ = some (.slice ypa ypl ypc))) (by kernel_rfl) (by with_reducible exact EN.out _ D0.out) (fun hHeld => ?_)
  refine wpAnyH_take (i := 0) (oi := { dst := some 78, op := Op.load 45 (Operand.tmp 3), type := 45, pos := "ref.go:88", after := #[], guard := none }) (v := ?v0x5) rfl (by kernel_rfl) (by kernel_rfl) (by kernel_rfl) (fun _ _ _ h => h) (Or.inl ⟨by rfl, ?hy0x5⟩) (by assumption) ?rest0x5
  case hy0x5 => (intro w hSw; (try dsimp only at hSw); go_simp; try with_reducible rfl)
  try simp only [Act.put, List.setIfInBounds_toArray, List.set_cons_zero, List.set_cons_succ]
  refine wpAnyH_ready (rs := [1]) (by kernel_rfl) (by simp) (AllReadyH.cons (o := { dst := some 79, op := Op.call { callee := Callee.value (Operand.func 89), args := #[Operand.tmp 78, Operand.const (Value.bool false), Operand.const (Value.bool false), Operand.const (Value.bool false), Operand.const (Value.bool true)], argTypes := #[45, 4, 4, 4, 4] }, type := 4, pos := "ref.go:88", after := #[{ on := 0, ground := Ground.data }], guard := none }) rfl (fun K hK => ?_) AllReadyH.nil)
  go_simp
  go_at_call 89
  refine (plainR_4 ⟨false, gc, gg, gra, grl, grc, grows, gca, gcl, gcc, gcells, (some ⟨b2, of2, none⟩), 2, gpc⟩ true HO.out _).mono ?_
  rintro e z1 ⟨rfl, hz1⟩
  have D1 : Hid (Below W0.heap.size W0 z1) := Lib.hid (D0.out.trans (hz1.mono D0.out.size))
  dsimp only
  refine hK.out _ _ (by with_reducible exact EN.out _ D1.out) (fun hHeld1 => ?_)
  clear hK K
  try simp only [Act.put, List.setIfInBounds_toArray, List.set_cons_zero, List.set_cons_succ]
  refine wpAnyH_take (i := 2) (oi := { dst := some 80, op := Op.move (Operand.tmp 79), type := 4, pos := "ref.go:88", after := #[{ on := 1, ground := Ground.data }, { on := 1, ground := Ground.chain }], guard := none }) (v := ?v2x5) rfl (by kernel_rfl) (by kernel_rfl) (by kernel_rfl) (fun _ _ _ h => h) (Or.inl ⟨by rfl, ?hy2x5⟩) (by assumption) ?rest2x5
  case hy2x5 => (intro w hSw; (try dsimp only at hSw); go_simp; try with_reducible rfl)
  try simp only [Act.put, List.setIfInBounds_toArray, List.set_cons_zero, List.set_cons_succ]
  refine wpAnyH_take (i := 3) (oi := { dst := some 81, op := Op.fieldAddr 45 (Operand.tmp 3) 4, type := 0, pos := "ref.go:88", after := #[{ on := 2, ground := Ground.guard }], guard := some (2, true) }) (v := ?v3x5) rfl (by kernel_rfl) (by kernel_rfl) (by kernel_rfl) (fun _ _ _ h => h) (Or.inl ⟨by rfl, ?hy3x5⟩) (by assumption) ?rest3x5
  case hy3x5 => (intro w hSw; (try dsimp only at hSw); go_simp; try with_reducible rfl)
  try simp only [Act.put, List.setIfInBounds_toArray, List.set_cons_zero, List.set_cons_succ]
  refine wpAnyH_take (i := 4) (oi := { dst := some 82, op := Op.load 43 (Operand.tmp 81), type := 43, pos := "ref.go:88", after := #[{ on := 3, ground := Ground.data }, { on := 2, ground := Ground.guard }], guard := some (2, true) }) (v := ?v4x5) rfl (by kernel_rfl) (by kernel_rfl) (by kernel_rfl) (fun _ _ _ h => h) (Or.inl ⟨by rfl, ?hy4x5⟩) (by assumption) ?rest4x5
  case hy4x5 => (intro w hSw; (try dsimp only at hSw); go_simp; try with_reducible rfl)
  try simp only [Act.put, List.setIfInBounds_toArray, List.set_cons_zero, List.set_cons_succ]
  refine wpAnyH_take (i := 5) (oi := { dst := some 83, op := Op.call { callee := Callee.builtin Builtin.len, args := #[Operand.tmp 82], argTypes := #[43] }, type := 3, pos := "ref.go:88", after := #[{ on := 4, ground := Ground.data }, { on := 2, ground := Ground.guard }], guard := some (2, true) }) (v := ?v5x5) rfl (by kernel_rfl) (by kernel_rfl) (by kernel_rfl) (fun _ _ _ h => h) (Or.inl ⟨by rfl, ?hy5x5⟩) (by assumption) ?rest5x5
  case hy5x5 => (intro w hSw; (try dsimp only at hSw); go_simp; try with_reducible rfl)
  try simp only [Act.put, List.setIfInBounds_toArray, List.set_cons_zero, List.set_cons_succ]
  refine wpAnyH_take (i := 6) (oi := { dst := some 84, op := Op.binOp BinOp.eql 3 (Operand.tmp 83) (Operand.const (Value.int IntKind.i64 2)) 3, type := 4, pos := "ref.go:88", after := #[{ on := 5, ground := Ground.data }, { on := 2, ground := Ground.guard }], guard := some (2, true) }) (v := ?v6x5) rfl (by kernel_rfl) (by kernel_rfl) (by kernel_rfl) (fun _ _ _ h => h) (Or.inl ⟨by rfl, ?hy6x5⟩) (by assumption) ?rest6x5
  case hy6x5 => (intro w hSw; (try dsimp only at hSw); go_simp; try with_reducible rfl)
  try simp only [Act.put, List.setIfInBounds_toArray, List.set_cons_zero, List.set_cons_succ]
  refine wpAnyH_take (i := 7) (oi := { dst := some 85, op := Op.pick (Operand.tmp 80) (Operand.tmp 84) (Operand.const (Value.bool false)), type := 4, pos := "ref.go:88", after := #[{ on := 2, ground := Ground.data }, { on := 6, ground := Ground.data }], guard := none }) (v := ?v7x5) rfl (by kernel_rfl) (by kernel_rfl) (by kernel_rfl) (fun _ _ _ h => h) (Or.inl ⟨by rfl, ?hy7x5⟩) (by assumption) ?rest7x5
  case hy7x5 => (intro w hSw; (try dsimp only at hSw); go_simp; try with_reducible rfl)
  try simp only [Act.put, List.setIfInBounds_toArray, List.set_cons_zero, List.set_cons_succ]
  refine wpAnyH_take (i := 8) (oi := { dst := some 86, op := Op.move (Operand.tmp 85), type := 4, pos := "ref.go:88", after := #[{ on := 7, ground := Ground.data }, { on := 2, ground := Ground.chain }], guard := none }) (v := ?v8x5) rfl (by kernel_rfl) (by kernel_rfl) (by kernel_rfl) (fun _ _ _ h => h) (Or.inl ⟨by rfl, ?hy8x5⟩) (by assumption) ?rest8x5
  case hy8x5 => (intro w hSw; (try dsimp only at hSw); go_simp; try with_reducible rfl)
  try simp only [Act.put, List.setIfInBounds_toArray, List.set_cons_zero, List.set_cons_succ]
  refine wpAnyH_take (i := 9) (oi := { dst := some 87, op := Op.fieldAddr 25 (Operand.tmp 2) 2, type := 0, pos := "ref.go:88", after := #[{ on := 8, ground := Ground.guard }], guard := some (8, true) }) (v := ?v9x5) rfl (by kernel_rfl) (by kernel_rfl) (by kernel_rfl) (fun _ _ _ h => h) (Or.inl ⟨by rfl, ?hy9x5⟩) (by assumption) ?rest9x5
  case hy9x5 => (intro w hSw; (try dsimp only at hSw); go_simp; try with_reducible rfl)
  try simp only [Act.put, List.setIfInBounds_toArray, List.set_cons_zero, List.set_cons_succ]
  refine wpAnyH_take (i := 10) (oi := { dst := some 88, op := Op.load 23 (Operand.tmp 87), type := 23, pos := "ref.go:88", after := #[{ on := 9, ground := Ground.data }, { on := 8, ground := Ground.guard }], guard := some (8, true) }) (v := ?v10x5) rfl (by kernel_rfl) (by kernel_rfl) (by kernel_rfl) (fun _ _ _ h => h) (Or.inl ⟨by rfl, ?hy10x5⟩) (by assumption) ?rest10x5
  case hy10x5 => (intro w hSw; (try dsimp only at hSw); go_simp; try with_reducible rfl)
  try simp only [Act.put, List.setIfInBounds_toArray, List.set_cons_zero, List.set_cons_succ]
  refine wpAnyH_take (i := 11) (oi := { dst := some 89, op := Op.indexAddr 23 (Operand.tmp 88) (Operand.const (Value.int IntKind.i64 0)), type := 0, pos := "ref.go:88", after := #[{ on := 10, ground := Ground.data }, { on := 8, ground := Ground.guard }], guard := some (8, true) }) (v := ?v11x5) rfl (by kernel_rfl) (by kernel_rfl) (by kernel_rfl) (fun _ _ _ h => h) (Or.inl ⟨by rfl, ?hy11x5⟩) (by assumption) ?rest11x5
  case hy11x5 => (intro w hSw; (try dsimp only at hSw); go_simp; try with_reducible rfl)
  try simp only [Act.put, List.setIfInBounds_toArray, List.set_cons_zero, List.set_cons_succ]
  refine wpAnyH_take (i := 12) (oi := { dst := some 90, op := Op.load 25 (Operand.tmp 89), type := 25, pos := "ref.go:88", after := #[{ on := 11, ground := Ground.data }, { on := 8, ground := Ground.guard }], guard := some (8, true) }) (v := ?v12x5) rfl (by kernel_rfl) (by kernel_rfl) (by kernel_rfl) (fun _ _ _ h => h) (Or.inl ⟨by rfl, ?hy12x5⟩) (by assumption) ?rest12x5
  case hy12x5 => (intro w hSw; (try dsimp only at hSw); go_simp; try with_reducible rfl)
  try simp only [Act.put, List.setIfInBounds_toArray, List.set_cons_zero, List.set_cons_succ]
  refine wpAnyH_take (i := 13) (oi := { dst := some 91, op := Op.fieldAddr 45 (Operand.tmp 3) 4, type := 0, pos := "ref.go:88", after := #[{ on := 8, ground := Ground.guard }], guard := some (8, true) }) (v := ?v13x5) rfl (by kernel_rfl) (by kernel_rfl) (by kernel_rfl) (fun _ _ _ h => h) (Or.inl ⟨by rfl, ?hy13x5⟩) (by assumption) ?rest13x5
  case hy13x5 => (intro w hSw; (try dsimp only at hSw); go_simp; try with_reducible rfl)
  try simp only [Act.put, List.setIfInBounds_toArray, List.set_cons_zero, List.set_cons_succ]
  refine wpAnyH_take (i := 14) (oi := { dst := some 92, op := Op.load 43 (Operand.tmp 91), type := 43, pos := "ref.go:88", after := #[{ on := 13, ground := Ground.data }, { on := 8, ground := Ground.guard }], guard := some (8, true) }) (v := ?v14x5) rfl (by kernel_rfl) (by kernel_rfl) (by kernel_rfl) (fun _ _ _ h => h) (Or.inl ⟨by rfl, ?hy14x5⟩) (by assumption) ?rest14x5
  case hy14x5 => (intro w hSw; (try dsimp only at hSw); go_simp; try with_reducible rfl)
  try simp only [Act.put, List.setIfInBounds_toArray, List.set_cons_zero, List.set_cons_succ]
  refine wpAnyH_take (i := 15) (oi := { dst := some 93, op := Op.indexAddr 43 (Operand.tmp 92) (Operand.const (Value.int IntKind.i64 0)), type := 0, pos := "ref.go:88", after := #[{ on := 14, ground := Ground.data }, { on := 8, ground := Ground.guard }], guard := some (8, true) }) (v := ?v15x5) rfl (by kernel_rfl) (by kernel_rfl) (by kernel_rfl) (fun _ _ _ h => h) (Or.inl ⟨by rfl, ?hy15x5⟩) (by assumption) ?rest15x5
  case hy15x5 => (intro w hSw; (try dsimp only at hSw); go_simp; try with_reducible rfl)
  try simp only [Act.put, List.setIfInBounds_toArray, List.set_cons_zero, List.set_cons_succ]
  refine wpAnyH_take (i := 16) (oi := { dst := some 94, op := Op.load 45 (Operand.tmp 93), type := 45, pos := "ref.go:88", after := #[{ on := 15, ground := Ground.data }, { on := 8, ground := Ground.guard }], guard := some (8, true) }) (v := ?v16x5) rfl (by kernel_rfl) (by kernel_rfl) (by kernel_rfl) (fun _ _ _ h => h) (Or.inl ⟨by rfl, ?hy16x5⟩) (by assumption) ?rest16x5
  case hy16x5 => (intro w hSw; (try dsimp only at hSw); go_simp; try with_reducible rfl)
  try simp only [Act.put, List.setIfInBounds_toArray, List.set_cons_zero, List.set_cons_succ]
  refine wpAnyH_ready (rs := [17]) (by kernel_rfl) (by simp) (AllReadyH.cons (o := { dst := some 95, op := Op.call { callee := Callee.value (Operand.func 66), args := #[Operand.tmp 90, Operand.tmp 94], argTypes := #[25, 45] }, type := 4, pos := "ref.go:88", after := #[{ on := 12, ground := Ground.data }, { on := 16, ground := Ground.data }, { on := 8, ground := Ground.chain }, { on := 8, ground := Ground.guard }], guard := some (8, true) }) rfl (fun K hK => ?_) AllReadyH.nil)
  go_simp
  go_at_call 66
  with_reducible refine (isR_plainY pt pn pa pl pc ⟨xz, xc, xg, xra, xrl, xrc, xrows, xca, xcl, xcc, xcells, xpa, xpl, xpc⟩ HP.out XSS.out _ (XAA.out.below (hB.out.trans ((D1.out).mono hB.out.size))) false HR1.out).mono ?_
  rintro e z2 ⟨rfl, hz2⟩
  have D2 : Hid (Below W0.heap.size W0 z2) := Lib.hid (D1.out.trans (hz2.mono D1.out.size))
  dsimp only
  refine hK.out _ _ (by with_reducible exact EN.out _ D2.out) (fun hHeld2 => ?_)
  clear hK K
  try simp only [Act.put, List.setIfInBounds_toArray, List.set_cons_zero, List.set_cons_succ]
  refine wpAnyH_take (i := 18) (oi := { dst := some 96, op := Op.pick (Operand.tmp 86) (Operand.tmp 95) (Operand.const (Value.bool false)), type := 4, pos := "ref.go:88", after := #[{ on := 8, ground := Ground.data }, { on := 17, ground := Ground.data }], guard := none }) (v := ?v18x5) rfl (by kernel_rfl) (by kernel_rfl) (by kernel_rfl) (fun _ _ _ h => h) (Or.inl ⟨by rfl, ?hy18x5⟩) (by assumption) ?rest18x5
  case hy18x5 => (intro w hSw; (try dsimp only at hSw); go_simp; try with_reducible rfl)
  try simp only [Act.put, List.setIfInBounds_toArray, List.set_cons_zero, List.set_cons_succ]
  refine wpAnyH_take (i := 19) (oi := { dst := some 97, op := Op.move (Operand.tmp 96), type := 4, pos := "ref.go:88", after := #[{ on := 18, ground := Ground.data }, { on := 17, ground := Ground.chain }], guard := none }) (v := ?v19x5) rfl (by kernel_rfl) (by kernel_rfl) (by kernel_rfl) (fun _ _ _ h => h) (Or.inl ⟨by rfl, ?hy19x5⟩) (by assumption) ?rest19x5
  case hy19x5 => (intro w hSw; (try dsimp only at hSw); go_simp; try with_reducible rfl)
  try simp only [Act.put, List.setIfInBounds_toArray, List.set_cons_zero, List.set_cons_succ]
  refine wpAnyH_take (i := 20) (oi := { dst := some 98, op := Op.fieldAddr 25 (Operand.tmp 2) 2, type := 0, pos := "ref.go:88", after := #[{ on := 19, ground := Ground.guard }], guard := some (19, true) }) (v := undef) rfl (by kernel_rfl) (by kernel_rfl) (by kernel_rfl) (fun _ _ _ h => h) (Or.inr ⟨by rfl, rfl⟩) (by assumption) ?rest20x5
  try simp only [Act.put, List.setIfInBounds_toArray, List.set_cons_zero, List.set_cons_succ]
  refine wpAnyH_take (i := 21) (oi := { dst := some 99, op := Op.load 23 (Operand.tmp 98), type := 23, pos := "ref.go:88", after := #[{ on := 20, ground := Ground.data }, { on := 19, ground := Ground.guard }], guard := some (19, true) }) (v := undef) rfl (by kernel_rfl) (by kernel_rfl) (by kernel_rfl) (fun _ _ _ h => h) (Or.inr ⟨by rfl, rfl⟩) (by assumption) ?rest21x5
  try simp only [Act.put, List.setIfInBounds_toArray, List.set_cons_zero, List.set_cons_succ]
  refine wpAnyH_take (i := 22) (oi := { dst := some 100, op := Op.indexAddr 23 (Operand.tmp 99) (Operand.const (Value.int IntKind.i64 1)), type := 0, pos := "ref.go:88", after := #[{ on := 21, ground := Ground.data }, { on := 19, ground := Ground.guard }], guard := some (19, true) }) (v := undef) rfl (by kernel_rfl) (by kernel_rfl) (by kernel_rfl) (fun _ _ _ h => h) (Or.inr ⟨by rfl, rfl⟩) (by assumption) ?rest22x5
  try simp only [Act.put, List.setIfInBounds_toArray, List.set_cons_zero, List.set_cons_succ]
  refine wpAnyH_take (i := 23) (oi := { dst := some 101, op := Op.load 25 (Operand.tmp 100), type := 25, pos := "ref.go:88", after := #[{ on := 22, ground := Ground.data }, { on := 19, ground := Ground.guard }], guard := some (19, true) }) (v := undef) rfl (by kernel_rfl) (by kernel_rfl) (by kernel_rfl) (fun _ _ _ h => h) (Or.inr ⟨by rfl, rfl⟩) (by assumption) ?rest23x5
  try simp only [Act.put, List.setIfInBounds_toArray, List.set_cons_zero, List.set_cons_succ]
  refine wpAnyH_take (i := 24) (oi := { dst := some 102, op := Op.fieldAddr 45 (Operand.tmp 3) 4, type := 0, pos := "ref.go:88", after := #[{ on := 19, ground := Ground.guard }], guard := some (19, true) }) (v := undef) rfl (by kernel_rfl) (by kernel_rfl) (by kernel_rfl) (fun _ _ _ h => h) (Or.inr ⟨by rfl, rfl⟩) (by assumption) ?rest24x5
  try simp only [Act.put, List.setIfInBounds_toArray, List.set_cons_zero, List.set_cons_succ]
  refine wpAnyH_take (i := 25) (oi := { dst := some 103, op := Op.load 43 (Operand.tmp 102), type := 43, pos := "ref.go:88", after := #[{ on := 24, ground := Ground.data }, { on := 19, ground := Ground.guard }], guard := some (19, true) }) (v := undef) rfl (by kernel_rfl) (by kernel_rfl) (by kernel_rfl) (fun _ _ _ h => h) (Or.inr ⟨by rfl, rfl⟩) (by assumption) ?rest25x5
  try simp only [Act.put, List.setIfInBounds_toArray, List.set_cons_zero, List.set_cons_succ]
  refine wpAnyH_take (i := 26) (oi := { dst := some 104, op := Op.indexAddr 43 (Operand.tmp 103) (Operand.const (Value.int IntKind.i64 1)), type := 0, pos := "ref.go:88", after := #[{ on := 25, ground := Ground.data }, { on := 19, ground := Ground.guard }], guard := some (19, true) }) (v := undef) rfl (by kernel_rfl) (by kernel_rfl) (by kernel_rfl) (fun _ _ _ h => h) (Or.inr ⟨by rfl, rfl⟩) (by assumption) ?rest26x5
  try simp only [Act.put, List.setIfInBounds_toArray, List.set_cons_zero, List.set_cons_succ]
  refine wpAnyH_take (i := 27) (oi := { dst := some 105, op := Op.load 45 (Operand.tmp 104), type := 45, pos := "ref.go:88", after := #[{ on := 26, ground := Ground.data }, { on := 19, ground := Ground.guard }], guard := some (19, true) }) (v := undef) rfl (by kernel_rfl) (by kernel_rfl) (by kernel_rfl) (fun _ _ _ h => h) (Or.inr ⟨by rfl, rfl⟩) (by assumption) ?rest27x5
  try simp only [Act.put, List.setIfInBounds_toArray, List.set_cons_zero, List.set_cons_succ]
  refine wpAnyH_take (i := 28) (oi := { dst := some 106, op := Op.call { callee := Callee.value (Operand.func 66), args := #[Operand.tmp 101, Operand.tmp 105], argTypes := #[25, 45] }, type := 4, pos := "ref.go:88", after := #[{ on := 23, ground := Ground.data }, { on := 27, ground := Ground.data }, { on := 19, ground := Ground.chain }, { on := 19, ground := Ground.guard }], guard := some (19, true) }) (v := undef) rfl (by kernel_rfl) (by kernel_rfl) (by kernel_rfl) (fun _ _ _ h => h) (Or.inr ⟨by rfl, rfl⟩) (by assumption) ?rest28x5
  try simp only [Act.put, List.setIfInBounds_toArray, List.set_cons_zero, List.set_cons_succ]
  refine wpAnyH_take (i := 29) (oi := { dst := some 107, op := Op.pick (Operand.tmp 97) (Operand.tmp 106) (Operand.const (Value.bool false)), type := 4, pos := "ref.go:88", after := #[{ on := 19, ground := Ground.data }, { on := 28, ground := Ground.data }], guard := none }) (v := ?v29x5) rfl (by kernel_rfl) (by kernel_rfl) (by kernel_rfl) (fun _ _ _ h => h) (Or.inl ⟨by rfl, ?hy29x5⟩) (by assumption) ?rest29x5
  case hy29x5 => (intro w hSw; (try dsimp only at hSw); go_simp; try with_reducible rfl)
  try simp only [Act.put, List.setIfInBounds_toArray, List.set_cons_zero, List.set_cons_succ]
  refine wpAnyH_take (i := 30) (oi := { dst := some 4, op := Op.assign (Operand.tmp 107), type := 4, pos := "ref.go:88", after := #[{ on := 29, ground := Ground.data }, { on := 28, ground := Ground.chain }, { on := 0, ground := Ground.phase }, { on := 1, ground := Ground.phase }, { on := 2, ground := Ground.phase }, { on := 3, ground := Ground.phase }, { on := 4, ground := Ground.phase }, { on := 5, ground := Ground.phase }, { on := 6, ground := Ground.phase }, { on := 7, ground := Ground.phase }, { on := 8, ground := Ground.phase }, { on := 9, ground := Ground.phase }, { on := 10, ground := Ground.phase }, { on := 11, ground := Ground.phase }, { on := 12, ground := Ground.phase }, { on := 13, ground := Ground.phase }, { on := 14, ground := Ground.phase }, { on := 15, ground := Ground.phase }, { on := 16, ground := Ground.phase }, { on := 17, ground := Ground.phase }, { on := 18, ground := Ground.phase }, { on := 19, ground := Ground.phase }, { on := 20, ground := Ground.phase }, { on := 21, ground := Ground.phase }, { on := 22, ground := Ground.phase }, { on := 23, ground := Ground.phase }, { on := 24, ground := Ground.phase }, { on := 25, ground := Ground.phase }, { on := 26, ground := Ground.phase }, { on := 27, ground := Ground.phase }, { on := 28, ground := Ground.phase }, { on := 29, ground := Ground.phase }], guard := none }) (v := ?v30x5) rfl (by kernel_rfl) (by kernel_rfl) (by kernel_rfl) (fun _ _ _ h => h) (Or.inl ⟨by rfl, ?hy30x5⟩) (by assumption) ?rest30x5
  case hy30x5 => (intro w hSw; (try dsimp only at hSw); go_simp; try with_reducible rfl)
  try simp only [Act.put, List.setIfInBounds_toArray, List.set_cons_zero, List.set_cons_succ]
  refine wpAnyH_done (by kernel_rfl) ?_ _
  all_goals (go_wp2_with fail; go_ret; exact ⟨rbool HF.out, hB.out.trans (D2.out.mono hB.out.size)⟩)
 ·have HF : Hid (r2 = r) := by show _ = _; rw [← HRR.out]; simp
  go_enter Try.func66, Try.ntmps66
  go_wp2_with fail
  have EN : Hid (∀ W : World, Below W0.heap.size W0 W → W.cell? ⟨w.heap.size, 0, none⟩ = some (.int .i64 5) ∧ W.cell? ⟨w.heap.size, 1, none⟩ = some (.int .i64 0) ∧ W.cell? ⟨w.heap.size, 2, none⟩ = some (.slice (some ⟨b, off, none⟩) 2 sc) ∧ W.cell? ⟨w.heap.size + 1, 0, none⟩ = some (.bool false) ∧ W.cell? ⟨w.heap.size + 1, 1, none⟩ = some (.int .i64 gc) ∧ W.cell? ⟨w.heap.size + 1, 2, none⟩ = some (.int .u64 (gg : Int)) ∧ W.cell? ⟨w.heap.size + 1, 3, none⟩ = some (.slice gra grl grc) ∧ W.cell? ⟨w.heap.size + 1, 4, none⟩ = some (.slice gca gcl gcc) ∧ W.cell? ⟨w.heap.size + 1, 5, none⟩ = some (.slice (some ⟨b2, of2, none⟩) 2 gpc) ∧ W.cell? ⟨b, off, none⟩ = some (.int .i64 pt) ∧ W.cell? ⟨b, off + 1, none⟩ = some (.int .i64 pn) ∧ W.cell? ⟨b, off + 2, none⟩ = some (.slice pa pl pc) ∧ W.cell? ⟨b, off + 3, none⟩ = some (.int .i64 qt) ∧ W.cell? ⟨b, off + 4, none⟩ = some (.int .i64 qn) ∧ W.cell? ⟨b, off + 5, none⟩ = some (.slice qa ql qc) ∧ W.cell? ⟨b2, of2, none⟩ = some (.bool xz) ∧ W.cell? ⟨b2, of2 + 1, none⟩ = some (.int .i64 xc) ∧ W.cell? ⟨b2, of2 + 2, none⟩ = some (.int .u64 (xg : Int)) ∧ W.cell? ⟨b2, of2 + 3, none⟩ = some (.slice xra xrl xrc) ∧ W.cell? ⟨b2, of2 + 4, none⟩ = some (.slice xca xcl xcc) ∧ W.cell? ⟨b2, of2 + 5, none⟩ = some (.slice xpa xpl xpc) ∧ W.cell? ⟨b2, of2 + 6, none⟩ = some (.bool yz) ∧ W.cell? ⟨b2, of2 + 7, none⟩ = some (.int .i64 yc) ∧ W.cell? ⟨b2, of2 + 8, none⟩ = some (.int .u64 (yg : Int)) ∧ W.cell? ⟨b2, of2 + 9, none⟩ = some (.slice yra yrl yrc) ∧ W.cell? ⟨b2, of2 + 10, none⟩ = some (.slice yca ycl ycc) ∧ W.cell? ⟨b2, of2 + 11, none⟩ = some (.slice ypa ypl ypc)) := fun W h => by
   obtain ⟨a0, a1, a2⟩ := tri_cells (heap_old (heap_old T0.out (Below.refl _ _)) h); obtain ⟨c0, c1, c2, c3, c4, c5⟩ := six_cells (heap_old (heap_old T1.out (Below.refl _ _)) h)
   have hww : Below w.heap.size w W := hB.out.trans (h.mono hB.out.size)
   obtain ⟨d0, d1, d2⟩ := HP3.out.below hww; obtain ⟨e0, e1, e2⟩ := HQ3.out.below hww; obtain ⟨f0, f1, f2, f3, f4, f5⟩ := HX6.out.below hww; obtain ⟨g0, g1, g2, g3, g4, g5⟩ := HY6.out.below hww
   exact ⟨a0, a1, a2, c0, c1, c2, c3, c4, c5, d0, d1, d2, e0, e1, e2, f0, f1, f2, f3, f4, f5, g0, g1, g2, g3, g4, g5⟩
  clear x0 x1 x2 y0 y1 y2 y3 y4 y5
  obtain ⟨m0, m1, m2, m3, m4, m5, m6, m7, m8, m9, m10, m11, m12, m13, m14, m15, m16, m17, m18, m19, m20, m21, m22, m23, m24, m25, m26⟩ := EN.out _ (Below.refl _ _)
  have D0 : Hid (Below W0.heap.size W0 W0.drew) := (Below.refl _ _).drew
  refine wp_region_held_drew (S := (fun w' => w'.cell? ⟨w.heap.size, 0, none⟩ = some (.int .i64 5) ∧ w'.cell? ⟨w.heap.size, 1, none⟩ = some (.int .i64 0) ∧ w'.cell? ⟨w.heap.size, 2, none⟩ = some (.slice (some ⟨b, off, none⟩) 2 sc) ∧ w'.cell? ⟨w.heap.size + 1, 0, none⟩ = some (.bool false) ∧ w'.cell? ⟨w.heap.size + 1, 1, none⟩ = some (.int .i64 gc) ∧ w'.cell? ⟨w.heap.size + 1, 2, none⟩ = some (.int .u64 (gg : Int)) ∧ w'.cell? ⟨w.heap.size + 1, 3, none⟩ = some (.slice gra grl grc) ∧ w'.cell? ⟨w.heap.size + 1, 4, none⟩ = some (.slice gca gcl gcc) ∧ w'.cell? ⟨w.heap.size + 1, 5, none⟩ = some (.slice (some ⟨b2, of2, none⟩) 2 gpc) ∧ w'.cell? ⟨b, off, none⟩ = some (.int .i64 pt) ∧ w'.cell? ⟨b, off + 1, none⟩ = some (.int .i64 pn) ∧ w'.cell? ⟨b, off + 2, none⟩ = some (.slice pa pl pc) ∧ w'.cell? ⟨b, off + 3, none⟩ = some (.int .i64 qt) ∧ w'.cell? ⟨b, off + 4, none⟩ = some (.int .i64 qn) ∧ w'.cell? ⟨b, off + 5, none⟩ = some (.slice qa ql qc) ∧ w'.cell? ⟨b2, of2, none⟩ = some (.bool xz) ∧ w'.cell? ⟨b2, of2 + 1, none⟩ = some (.int .i64 xc) ∧ w'.cell? ⟨b2, of2 + 2, none⟩ = some (.int .u64 (xg : Int)) ∧ w'.cell? ⟨b2, of2 + 3, none⟩ = some (.slice xra xrl xrc) ∧ w'.cell? ⟨b2, of2 + 4, none⟩ = some (.slice xca xcl xcc) ∧ w'.cell? ⟨b2, of2 + 5, none⟩ = some (.slice xpa xpl xpc) ∧ w'.cell? ⟨b2, of2 + 6, none⟩ = some (.bool yz) ∧ w'.cell? ⟨b2, of2 + 7, none⟩ = some (.int .i64 yc) ∧ w'.cell? ⟨b2, of2 + 8, none⟩ = some (.int .u64 (yg : Int)) ∧ w'.cell? ⟨b2, of2 + 9, none⟩ = some (.slice yra yrl yrc) ∧ w'.cell? ⟨b2, of2 + 10, none⟩ = some (.slice yca ycl ycc) ∧ w'.cell? ⟨b2, of2 + 11, none⟩ = some (.slice ypa ypl ypc))) (by kernel_rfl) (by with_reducible exact EN.out _ D0.out) (fun hHeld => ?_)
  refine wpAnyH_take (i := 0) (oi := { dst := some 78, op := Op.load 45 (Operand.tmp 3), type := 45, pos := "ref.go:88", after := #[], guard := none }) (v := ?v0x6) rfl (by kernel_rfl) (by kernel_rfl) (by kernel_rfl) (fun _ _ _ h => h) (Or.inl ⟨by rfl, ?hy0x6⟩) (by assumption) ?rest0x6
  case hy0x6 => (intro w hSw; (try dsimp only at hSw); go_simp; try with_reducible rfl)
  try simp only [Act.put, List.setIfInBounds_toArray, List.set_cons_zero, List.set_cons_succ]
  refine wpAnyH_ready (rs := [1]) (by kernel_rfl) (by simp) (AllReadyH.cons (o := { dst := some 79, op := Op.call { callee := Callee.value (Operand.func 89), args := #[Operand.tmp 78, Operand.const (Value.bool false), Operand.const (Value.bool false), Operand.const (Value.bool false), Operand.const (Value.bool true)], argTypes := #[45, 4, 4, 4, 4] }, type := 4, pos := "ref.go:88", after := #[{ on := 0, ground := Ground.data }], guard := none }) rfl (fun K hK => ?_) AllReadyH.nil)
  go_simp
  go_at_call 89
  refine (plainR_4 ⟨false, gc, gg, gra, grl, grc, grows, gca, gcl, gcc, gcells, (some ⟨b2, of2, none⟩), 2, gpc⟩ true HO.out _).mono ?_
  rintro e z1 ⟨rfl, hz1⟩
  have D1 : Hid (Below W0.heap.size W0 z1) := Lib.hid (D0.out.trans (hz1.mono D0.out.size))
  dsimp only
  refine hK.out _ _ (by with_reducible exact EN.out _ D1.out) (fun hHeld1 => ?_)
  clear hK K
  try simp only [Act.put, List.setIfInBounds_toArray, List.set_cons_zero, List.set_cons_succ]
  refine wpAnyH_take (i := 2) (oi := { dst := some 80, op := Op.move (Operand.tmp 79), type := 4, pos := "ref.go:88", after := #[{ on := 1, ground := Ground.data }, { on := 1, ground := Ground.chain }], guard := none }) (v := ?v2x6) rfl (by kernel_rfl) (by kernel_rfl) (by kernel_rfl) (fun _ _ _ h => h) (Or.inl ⟨by rfl, ?hy2x6⟩) (by assumption) ?rest2x6
  case hy2x6 => (intro w hSw; (try dsimp only at hSw); go_simp; try with_reducible rfl)
  try simp only [Act.put, List.setIfInBounds_toArray, List.set_cons_zero, List.set_cons_succ]
  refine wpAnyH_take (i := 3) (oi := { dst := some 81, op := Op.fieldAddr 45 (Operand.tmp 3) 4, type := 0, pos := "ref.go:88", after := #[{ on := 2, ground := Ground.guard }], guard := some (2, true) }) (v := ?v3x6) rfl (by kernel_rfl) (by kernel_rfl) (by kernel_rfl) (fun _ _ _ h => h) (Or.inl ⟨by rfl, ?hy3x6⟩) (by assumption) ?rest3x6
  case hy3x6 => (intro w hSw; (try dsimp only at hSw); go_simp; try with_reducible rfl)
  try simp only [Act.put, List.setIfInBounds_toArray, List.set_cons_zero, List.set_cons_succ]
  refine wpAnyH_take (i := 4) (oi := { dst := some 82, op := Op.load 43 (Operand.tmp 81), type := 43, pos := "ref.go:88", after := #[{ on := 3, ground := Ground.data }, { on := 2, ground := Ground.guard }], guard := some (2, true) }) (v := ?v4x6) rfl (by kernel_rfl) (by kernel_rfl) (by kernel_rfl) (fun _ _ _ h => h) (Or.inl ⟨by rfl, ?hy4x6⟩) (by assumption) ?rest4x6
  case hy4x6 => (intro w hSw; (try dsimp only at hSw); go_simp; try with_reducible rfl)
  try simp only [Act.put, List.setIfInBounds_toArray, List.set_cons_zero, List.set_cons_succ]
  refine wpAnyH_take (i := 5) (oi := { dst := some 83, op := Op.call { callee := Callee.builtin Builtin.len, args := #[Operand.tmp 82], argTypes := #[43] }, type := 3, pos := "ref.go:88", after := #[{ on := 4, ground := Ground.data }, { on := 2, ground := Ground.guard }], guard := some (2, true) }) (v := ?v5x6) rfl (by kernel_rfl) (by kernel_rfl) (by kernel_rfl) (fun _ _ _ h => h) (Or.inl ⟨by rfl, ?hy5x6⟩) (by assumption) ?rest5x6
  case hy5x6 => (intro w hSw; (try dsimp only at hSw); go_simp; try with_reducible rfl)
  try simp only [Act.put, List.setIfInBounds_toArray, List.set_cons_zero, List.set_cons_succ]
  refine wpAnyH_take (i := 6) (oi := { dst := some 84, op := Op.binOp BinOp.eql 3 (Operand.tmp 83) (Operand.const (Value.int IntKind.i64 2)) 3, type := 4, pos := "ref.go:88", after := #[{ on := 5, ground := Ground.data }, { on := 2, ground := Ground.guard }], guard := some (2, true) }) (v := ?v6x6) rfl (by kernel_rfl) (by kernel_rfl) (by kernel_rfl) (fun _ _ _ h => h) (Or.inl ⟨by rfl, ?hy6x6⟩) (by assumption) ?rest6x6
  case hy6x6 => (intro w hSw; (try dsimp only at hSw); go_simp; try with_reducible rfl)
  try simp only [Act.put, List.setIfInBounds_toArray, List.set_cons_zero, List.set_cons_succ]
  refine wpAnyH_take (i := 7) (oi := { dst := some 85, op := Op.pick (Operand.tmp 80) (Operand.tmp 84) (Operand.const (Value.bool false)), type := 4, pos := "ref.go:88", after := #[{ on := 2, ground := Ground.data }, { on := 6, ground := Ground.data }], guard := none }) (v := ?v7x6) rfl (by kernel_rfl) (by kernel_rfl) (by kernel_rfl) (fun _ _ _ h => h) (Or.inl ⟨by rfl, ?hy7x6⟩) (by assumption) ?rest7x6
  case hy7x6 => (intro w hSw; (try dsimp only at hSw); go_simp; try with_reducible rfl)
  try simp only [Act.put, List.setIfInBounds_toArray, List.set_cons_zero, List.set_cons_succ]
  refine wpAnyH_take (i := 8) (oi := { dst := some 86, op := Op.move (Operand.tmp 85), type := 4, pos := "ref.go:88", after := #[{ on := 7, ground := Ground.data }, { on := 2, ground := Ground.chain }], guard := none }) (v := ?v8x6) rfl (by kernel_rfl) (by kernel_rfl) (by kernel_rfl) (fun _ _ _ h => h) (Or.inl ⟨by rfl, ?hy8x6⟩) (by assumption) ?rest8x6
  case hy8x6 => (intro w hSw; (try dsimp only at hSw); go_simp; try with_reducible rfl)
  try simp only [Act.put, List.setIfInBounds_toArray, List.set_cons_zero, List.set_cons_succ]
  refine wpAnyH_take (i := 9) (oi := { dst := some 87, op := Op.fieldAddr 25 (Operand.tmp 2) 2, type := 0, pos := "ref.go:88", after := #[{ on := 8, ground := Ground.guard }], guard := some (8, true) }) (v := ?v9x6) rfl (by kernel_rfl) (by kernel_rfl) (by kernel_rfl) (fun _ _ _ h => h) (Or.inl ⟨by rfl, ?hy9x6⟩) (by assumption) ?rest9x6
  case hy9x6 => (intro w hSw; (try dsimp only at hSw); go_simp; try with_reducible rfl)
  try simp only [Act.put, List.setIfInBounds_toArray, List.set_cons_zero, List.set_cons_succ]
  refine wpAnyH_take (i := 10) (oi := { dst := some 88, op := Op.load 23 (Operand.tmp 87), type := 23, pos := "ref.go:88", after := #[{ on := 9, ground := Ground.data }, { on := 8, ground := Ground.guard }], guard := some (8, true) }) (v := ?v10x6) rfl (by kernel_rfl) (by kernel_rfl) (by kernel_rfl) (fun _ _ _ h => h) (Or.inl ⟨by rfl, ?hy10x6⟩) (by assumption) ?rest10x6
  case hy10x6 => (intro w hSw; (try dsimp only at hSw); go_simp; try with_reducible rfl)
  try simp only [Act.put, List.setIfInBounds_toArray, List.set_cons_zero, List.set_cons_succ]
  refine wpAnyH_take (i := 11) (oi := { dst := some 89, op := Op.indexAddr 23 (Operand.tmp 88) (Operand.const (Value.int IntKind.i64 0)), type := 0, pos := "ref.go:88", after := #[{ on := 10, ground := Ground.data }, { on := 8, ground := Ground.guard }], guard := some (8, true) }) (v := ?v11x6) rfl (by kernel_rfl) (by kernel_rfl) (by kernel_rfl) (fun _ _ _ h => h) (Or.inl ⟨by rfl, ?hy11x6⟩) (by assumption) ?rest11x6
  case hy11x6 => (intro w hSw; (try dsimp only at hSw); go_simp; try with_reducible rfl)
  try simp only [Act.put, List.setIfInBounds_toArray, List.set_cons_zero, List.set_cons_succ]
  refine wpAnyH_take (i := 12) (oi := { dst := some 90, op := Op.load 25 (Operand.tmp 89), type := 25, pos := "ref.go:88", after := #[{ on := 11, ground := Ground.data }, { on := 8, ground := Ground.guard }], guard := some (8, true) }) (v := ?v12x6) rfl (by kernel_rfl) (by kernel_rfl) (by kernel_rfl) (fun _ _ _ h => h) (Or.inl ⟨by rfl, ?hy12x6⟩) (by assumption) ?rest12x6
  case hy12x6 => (intro w hSw; (try dsimp only at hSw); go_simp; try with_reducible rfl)
  try simp only [Act.put, List.setIfInBounds_toArray, List.set_cons_zero, List.set_cons_succ]
  refine wpAnyH_take (i := 13) (oi := { dst := some 91, op := Op.fieldAddr 45 (Operand.tmp 3) 4, type := 0, pos := "ref.go:88", after := #[{ on := 8, ground := Ground.guard }], guard := some (8, true) }) (v := ?v13x6) rfl (by kernel_rfl) (by kernel_rfl) (by kernel_rfl) (fun _ _ _ h => h) (Or.inl ⟨by rfl, ?hy13x6⟩) (by assumption) ?rest13x6
  case hy13x6 => (intro w hSw; (try dsimp only at hSw); go_simp; try with_reducible rfl)
  try simp only [Act.put, List.setIfInBounds_toArray, List.set_cons_zero, List.set_cons_succ]
  refine wpAnyH_take (i := 14) (oi := { dst := some 92, op := Op.load 43 (Operand.tmp 91), type := 43, pos := "ref.go:88", after := #[{ on := 13, ground := Ground.data }, { on := 8, ground := Ground.guard }], guard := some (8, true) }) (v := ?v14x6) rfl (by kernel_rfl) (by kernel_rfl) (by kernel_rfl) (fun _ _ _ h => h) (Or.inl ⟨by rfl, ?hy14x6⟩) (by assumption) ?rest14x6
  case hy14x6 => (intro w hSw; (try dsimp only at hSw); go_simp; try with_reducible rfl)
  try simp only [Act.put, List.setIfInBounds_toArray, List.set_cons_zero, List.set_cons_succ]
  refine wpAnyH_take (i := 15) (oi := { dst := some 93, op := Op.indexAddr 43 (Operand.tmp 92) (Operand.const (Value.int IntKind.i64 0)), type := 0, pos := "ref.go:88", after := #[{ on := 14, ground := Ground.data }, { on := 8, ground := Ground.guard }], guard := some (8, true) }) (v := ?v15x6) rfl (by kernel_rfl) (by kernel_rfl) (by kernel_rfl) (fun _ _ _ h => h) (Or.inl ⟨by rfl, ?hy15x6⟩) (by assumption) ?rest15x6
  case hy15x6 => (intro w hSw; (try dsimp only at hSw); go_simp; try with_reducible rfl)
  try simp only [Act.put, List.setIfInBounds_toArray, List.set_cons_zero, List.set_cons_succ]
  refine wpAnyH_take (i := 16) (oi := { dst := some 94, op := Op.load 45 (Operand.tmp 93), type := 45, pos := "ref.go:88", after := #[{ on := 15, ground := Ground.data }, { on := 8, ground := Ground.guard }], guard := some (8, true) }) (v := ?v16x6) rfl (by kernel_rfl) (by kernel_rfl) (by kernel_rfl) (fun _ _ _ h => h) (Or.inl ⟨by rfl, ?hy16x6⟩) (by assumption) ?rest16x6
  case hy16x6 => (intro w hSw; (try dsimp only at hSw); go_simp; try with_reducible rfl)
  try simp only [Act.put, List.setIfInBounds_toArray, List.set_cons_zero, List.set_cons_succ]
  refine wpAnyH_ready (rs := [17]) (by kernel_rfl) (by simp) (AllReadyH.cons (o := { dst := some 95, op := Op.call { callee := Callee.value (Operand.func 66), args := #[Operand.tmp 90, Operand.tmp 94], argTypes := #[25, 45] }, type := 4, pos := "ref.go:88", after := #[{ on := 12, ground := Ground.data }, { on := 16, ground := Ground.data }, { on := 8, ground := Ground.chain }, { on := 8, ground := Ground.guard }], guard := some (8, true) }) rfl (fun K hK => ?_) AllReadyH.nil)
  go_simp
  go_at_call 66
  with_reducible refine (isR_plainY pt pn pa pl pc ⟨xz, xc, xg, xra, xrl, xrc, xrows, xca, xcl, xcc, xcells, xpa, xpl, xpc⟩ HP.out XSS.out _ (XAA.out.below (hB.out.trans ((D1.out).mono hB.out.size))) true HR1.out).mono ?_
  rintro e z2 ⟨rfl, hz2⟩
  have D2 : Hid (Below W0.heap.size W0 z2) := Lib.hid (D1.out.trans (hz2.mono D1.out.size))
  dsimp only
  refine hK.out _ _ (by with_reducible exact EN.out _ D2.out) (fun hHeld2 => ?_)
  clear hK K
  try simp only [Act.put, List.setIfInBounds_toArray, List.set_cons_zero, List.set_cons_succ]
  refine wpAnyH_take (i := 18) (oi := { dst := some 96, op := Op.pick (Operand.tmp 86) (Operand.tmp 95) (Operand.const (Value.bool false)), type := 4, pos := "ref.go:88", after := #[{ on := 8, ground := Ground.data }, { on := 17, ground := Ground.data }], guard := none }) (v := ?v18x6) rfl (by kernel_rfl) (by kernel_rfl) (by kernel_rfl) (fun _ _ _ h => h) (Or.inl ⟨by rfl, ?hy18x6⟩) (by assumption) ?rest18x6
  case hy18x6 => (intro w hSw; (try dsimp only at hSw); go_simp; try with_reducible rfl)
  try simp only [Act.put, List.setIfInBounds_toArray, List.set_cons_zero, List.set_cons_succ]
  refine wpAnyH_take (i := 19) (oi := { dst := some 97, op := Op.move (Operand.tmp 96), type := 4, pos := "ref.go:88", after := #[{ on := 18, ground := Ground.data }, { on := 17, ground := Ground.chain }], guard := none }) (v := ?v19x6) rfl (by kernel_rfl) (by kernel_rfl) (by kernel_rfl) (fun _ _ _ h => h) (Or.inl ⟨by rfl, ?hy19x6⟩) (by assumption) ?rest19x6
  case hy19x6 => (intro w hSw; (try dsimp only at hSw); go_simp; try with_reducible rfl)
  try simp only [Act.put, List.setIfInBounds_toArray, List.set_cons_zero, List.set_cons_succ]
  refine wpAnyH_take (i := 20) (oi := { dst := some 98, op := Op.fieldAddr 25 (Operand.tmp 2) 2, type := 0, pos := "ref.go:88", after := #[{ on := 19, ground := Ground.guard }], guard := some (19, true) }) (v := ?v20x6) rfl (by kernel_rfl) (by kernel_rfl) (by kernel_rfl) (fun _ _ _ h => h) (Or.inl ⟨by rfl, ?hy20x6⟩) (by assumption) ?rest20x6
  case hy20x6 => (intro w hSw; (try dsimp only at hSw); go_simp; try with_reducible rfl)
  try simp only [Act.put, List.setIfInBounds_toArray, List.set_cons_zero, List.set_cons_succ]
  refine wpAnyH_take (i := 21) (oi := { dst := some 99, op := Op.load 23 (Operand.tmp 98), type := 23, pos := "ref.go:88", after := #[{ on := 20, ground := Ground.data }, { on := 19, ground := Ground.guard }], guard := some (19, true) }) (v := ?v21x6) rfl (by kernel_rfl) (by kernel_rfl) (by kernel_rfl) (fun _ _ _ h => h) (Or.inl ⟨by rfl, ?hy21x6⟩) (by assumption) ?rest21x6
  case hy21x6 => (intro w hSw; (try dsimp only at hSw); go_simp; try with_reducible rfl)
  try simp only [Act.put, List.setIfInBounds_toArray, List.set_cons_zero, List.set_cons_succ]
  refine wpAnyH_take (i := 22) (oi := { dst := some 100, op := Op.indexAddr 23 (Operand.tmp 99) (Operand.const (Value.int IntKind.i64 1)), type := 0, pos := "ref.go:88", after := #[{ on := 21, ground := Ground.data }, { on := 19, ground := Ground.guard }], guard := some (19, true) }) (v := ?v22x6) rfl (by kernel_rfl) (by kernel_rfl) (by kernel_rfl) (fun _ _ _ h => h) (Or.inl ⟨by rfl, ?hy22x6⟩) (by assumption) ?rest22x6
  case hy22x6 => (intro w hSw; (try dsimp only at hSw); go_simp; try with_reducible rfl)
  try simp only [Act.put, List.setIfInBounds_toArray, List.set_cons_zero, List.set_cons_succ]
  refine wpAnyH_take (i := 23) (oi := { dst := some 101, op := Op.load 25 (Operand.tmp 100), type := 25, pos := "ref.go:88", after := #[{ on := 22, ground := Ground.data }, { on := 19, ground := Ground.guard }], guard := some (19, true) }) (v := ?v23x6) rfl (by kernel_rfl) (by kernel_rfl) (by kernel_rfl) (fun _ _ _ h => h) (Or.inl ⟨by rfl, ?hy23x6⟩) (by assumption) ?rest23x6
  case hy23x6 => (intro w hSw; (try dsimp only at hSw); go_simp; try with_reducible rfl)
  try simp only [Act.put, List.setIfInBounds_toArray, List.set_cons_zero, List.set_cons_succ]
  refine wpAnyH_take (i := 24) (oi := { dst := some 102, op := Op.fieldAddr 45 (Operand.tmp 3) 4, type := 0, pos := "ref.go:88", after := #[{ on := 19, ground := Ground.guard }], guard := some (19, true) }) (v := ?v24x6) rfl (by kernel_rfl) (by kernel_rfl) (by kernel_rfl) (fun _ _ _ h => h) (Or.inl ⟨by rfl, ?hy24x6⟩) (by assumption) ?rest24x6
  case hy24x6 => (intro w hSw; (try dsimp only at hSw); go_simp; try with_reducible rfl)
  try simp only [Act.put, List.setIfInBounds_toArray, List.set_cons_zero, List.set_cons_succ]
  refine wpAnyH_take (i := 25) (oi := { dst := some 103, op := Op.load 43 (Operand.tmp 102), type := 43, pos := "ref.go:88", after := #[{ on := 24, ground := Ground.data }, { on := 19, ground := Ground.guard }], guard := some (19, true) }) (v := ?v25x6) rfl (by kernel_rfl) (by kernel_rfl) (by kernel_rfl) (fun _ _ _ h => h) (Or.inl ⟨by rfl, ?hy25x6⟩) (by assumption) ?rest25x6
  case hy25x6 => (intro w hSw; (try dsimp only at hSw); go_simp; try with_reducible rfl)
  try simp only [Act.put, List.setIfInBounds_toArray, List.set_cons_zero, List.set_cons_succ]
  refine wpAnyH_take (i := 26) (oi := { dst := some 104, op := Op.indexAddr 43 (Operand.tmp 103) (Operand.const (Value.int IntKind.i64 1)), type := 0, pos := "ref.go:88", after := #[{ on := 25, ground := Ground.data }, { on := 19, ground := Ground.guard }], guard := some (19, true) }) (v := ?v26x6) rfl (by kernel_rfl) (by kernel_rfl) (by kernel_rfl) (fun _ _ _ h => h) (Or.inl ⟨by rfl, ?hy26x6⟩) (by assumption) ?rest26x6
  case hy26x6 => (intro w hSw; (try dsimp only at hSw); go_simp; try with_reducible rfl)
  try simp only [Act.put, List.setIfInBounds_toArray, List.set_cons_zero, List.set_cons_succ]
  refine wpAnyH_take (i := 27) (oi := { dst := some 105, op := Op.load 45 (Operand.tmp 104), type := 45, pos := "ref.go:88", after := #[{ on := 26, ground := Ground.data }, { on := 19, ground := Ground.guard }], guard := some (19, true) }) (v := ?v27x6) rfl (by kernel_rfl) (by kernel_rfl) (by kernel_rfl) (fun _ _ _ h => h) (Or.inl ⟨by rfl, ?hy27x6⟩) (by assumption) ?rest27x6
  case hy27x6 => (intro w hSw; (try dsimp only at hSw); go_simp; try with_reducible rfl)
  try simp only [Act.put, List.setIfInBounds_toArray, List.set_cons_zero, List.set_cons_succ]
  refine wpAnyH_ready (rs := [28]) (by kernel_rfl) (by simp) (AllReadyH.cons (o := { dst := some 106, op := Op.call { callee := Callee.value (Operand.func 66), args := #[Operand.tmp 101, Operand.tmp 105], argTypes := #[25, 45] }, type := 4, pos := "ref.go:88", after := #[{ on := 23, ground := Ground.data }, { on := 27, ground := Ground.data }, { on := 19, ground := Ground.chain }, { on := 19, ground := Ground.guard }], guard := some (19, true) }) rfl (fun K hK => ?_) AllReadyH.nil)
  go_simp
  go_at_call 66
  with_reducible refine (isR_plainY qt qn qa ql qc ⟨yz, yc, yg, yra, yrl, yrc, yrows, yca, ycl, ycc, ycells, ypa, ypl, ypc⟩ HQ.out YSS.out _ (YAA.out.below (hB.out.trans ((D2.out).mono hB.out.size))) r2 HR2.out).mono ?_
  rintro e z3 ⟨rfl, hz3⟩
  have D3 : Hid (Below W0.heap.size W0 z3) := Lib.hid (D2.out.trans (hz3.mono D2.out.size))
  dsimp only
  refine hK.out _ _ (by with_reducible exact EN.out _ D3.out) (fun hHeld3 => ?_)
  clear hK K
  try simp only [Act.put, List.setIfInBounds_toArray, List.set_cons_zero, List.set_cons_succ]
  refine wpAnyH_take (i := 29) (oi := { dst := some 107, op := Op.pick (Operand.tmp 97) (Operand.tmp 106) (Operand.const (Value.bool false)), type := 4, pos := "ref.go:88", after := #[{ on := 19, ground := Ground.data }, { on := 28, ground := Ground.data }], guard := none }) (v := ?v29x6) rfl (by kernel_rfl) (by kernel_rfl) (by kernel_rfl) (fun _ _ _ h => h) (Or.inl ⟨by rfl, ?hy29x6⟩) (by assumption) ?rest29x6
  case hy29x6 => (intro w hSw; (try dsimp only at hSw); go_simp; try with_reducible rfl)
  try simp only [Act.put, List.setIfInBounds_toArray, List.set_cons_zero, List.set_cons_succ]
  refine wpAnyH_take (i := 30) (oi := { dst := some 4, op := Op.assign (Operand.tmp 107), type := 4, pos := "ref.go:88", after := #[{ on := 29, ground := Ground.data }, { on := 28, ground := Ground.chain }, { on := 0, ground := Ground.phase }, { on := 1, ground := Ground.phase }, { on := 2, ground := Ground.phase }, { on := 3, ground := Ground.phase }, { on := 4, ground := Ground.phase }, { on := 5, ground := Ground.phase }, { on := 6, ground := Ground.phase }, { on := 7, ground := Ground.phase }, { on := 8, ground := Ground.phase }, { on := 9, ground := Ground.phase }, { on := 10, ground := Ground.phase }, { on := 11, ground := Ground.phase }, { on := 12, ground := Ground.phase }, { on := 13, ground := Ground.phase }, { on := 14, ground := Ground.phase }, { on := 15, ground := Ground.phase }, { on := 16, ground := Ground.phase }, { on := 17, ground := Ground.phase }, { on := 18, ground := Ground.phase }, { on := 19, ground := Ground.phase }, { on := 20, ground := Ground.phase }, { on := 21, ground := Ground.phase }, { on := 22, ground := Ground.phase }, { on := 23, ground := Ground.phase }, { on := 24, ground := Ground.phase }, { on := 25, ground := Ground.phase }, { on := 26, ground := Ground.phase }, { on := 27, ground := Ground.phase }, { on := 28, ground := Ground.phase }, { on := 29, ground := Ground.phase }], guard := none }) (v := ?v30x6) rfl (by kernel_rfl) (by kernel_rfl) (by kernel_rfl) (fun _ _ _ h => h) (Or.inl ⟨by rfl, ?hy30x6⟩) (by assumption) ?rest30x6
  case hy30x6 => (intro w hSw; (try dsimp only at hSw); go_simp; try with_reducible rfl)
  try simp only [Act.put, List.setIfInBounds_toArray, List.set_cons_zero, List.set_cons_succ]
  refine wpAnyH_done (by kernel_rfl) ?_ _
  all_goals (go_wp2_with fail; go_ret; exact ⟨rbool HF.out, hB.out.trans (D3.out.mono hB.out.size)⟩)
end Go.Proofs.Ytpkcaabbcoiiiaa
namespace Go.Proofs.Ytpkcaabbcoiiiaa
open Go.RowKit
def mixL (ys xs : List Nat) (k : Nat) : List Nat := ys.take k ++ xs.drop k
theorem mixL_set {ys xs : List Nat} {k x y : Nat} (hy : ys[k]? = some y) (hx : xs[k]? = some x) : (mixL ys xs k).set k y = mixL ys xs (k + 1) := by
 obtain ⟨hk, ex⟩ := List.getElem?_eq_some_iff.1 hx
 obtain ⟨hk2, ey⟩ := List.getElem?_eq_some_iff.1 hy
 unfold mixL
 have hl : (ys.take k).length = k := by rw [List.length_take]; omega
 rw [List.set_append_right _ _ (by omega), hl, Nat.sub_self, List.drop_eq_getElem_cons hk, List.set_cons_zero, List.take_succ_eq_append_getElem hk2, ey, List.append_assoc]
 rfl
theorem mixL_at {ys xs : List Nat} {k x : Nat} (hl : ys.length = xs.length) (hx : xs[k]? = some x) : (mixL ys xs k)[k]? = some x := by
 obtain ⟨hk, ex⟩ := List.getElem?_eq_some_iff.1 hx
 unfold mixL
 have h2 : (ys.take k).length = k := by rw [List.length_take]; omega
 rw [List.getElem?_append_right (by omega), h2, Nat.sub_self, List.getElem?_drop, Nat.add_zero, hx]
theorem mixL_zero (ys xs : List Nat) : mixL ys xs 0 = xs := by simp [mixL]
theorem mixL_all {ys xs : List Nat} (hl : ys.length = xs.length) : mixL ys xs xs.length = ys := by
 unfold mixL
 rw [List.take_of_length_le (by omega), List.drop_of_length_le (Nat.le_refl _), List.append_nil]
theorem u64s_set (l : List Nat) (k y : Nat) : (u64s l).set k (.int .u64 (y : Int)) = u64s (l.set k y) := by
 unfold u64s; rw [List.map_set]
theorem u64s_get {l : List Nat} {k x : Nat} (h : l[k]? = some x) : (u64s l)[k]? = some (.int .u64 (x : Int)) := by
 unfold u64s; rw [List.getElem?_map, h]; rfl
end Go.Proofs.Ytpkcaabbcoiiiaa
namespace Go.Proofs.Ytpkcaabbcoiiiaa
open Go.RowKit
def FRet (gen : Nat) (rows : List Nat) (err : Int) (w : World) (e : Ending) (w' : World) : Prop :=
 ∃ a cap, e = .returned (.tuple #[.agg #[.int .u64 (gen : Int), .slice a rows.length cap], .int .i64 err]) ∧ VRow w' a (u64s rows) ∧ (∀ ad, a = some ad → w.heap.size ≤ ad.block ∧ ad.block < w'.heap.size) ∧ Below w.heap.size w w'
theorem fret_nil {w w' : World} (err : Int) (hb : Below w.heap.size w w') : FRet 0 [] err w (.returned (.tuple #[.agg #[.int .u64 0, .slice none 0 0], .int .i64 err])) w' :=
 ⟨none, 0, rfl, .inl rfl, (fun ad e => by cases e), hb⟩
theorem own_slice {w : World} {base n : Nat} {E : TypeId} {v : Value} {xs : List Value} (h : w.ownsRow base E 1 v n xs) : ∃ a cap, v = .slice a n cap := by
 rcases h.2 with ⟨h, h0⟩ | ⟨g, cap, cur, h, _⟩
 ·exact ⟨none, 0, by rw [h, h0]⟩
 ·exact ⟨_, _, h⟩
theorem fret_own {w w' : World} {gen n : Nat} {v : Value} {rows : List Nat} {base : Nat} (hb0 : w.heap.size ≤ base) (h : w'.ownsRow base 38 1 v n (u64s rows)) (hb : Below w.heap.size w w') (err : Int) : FRet gen rows err w (.returned (.tuple #[.agg #[.int .u64 (gen : Int), v], .int .i64 err])) w' := by
 obtain ⟨hn, a, cap, rfl, hr, hf⟩ := VRow.of_own h
 exact ⟨a, cap, by rw [u64s_length], hr, fun ad e => ⟨Nat.le_trans hb0 (hf ad e).1, (hf ad e).2⟩, hb⟩
def bothE (n : Int) (ga : Nat) (xs : List Nat) (gb : Nat) (ys : List Nat) : Int := if checkE n ga xs = 0 then checkE n gb ys else checkE n ga xs
set_option maxHeartbeats 1000000 in
theorem twoR_is (n : Int) (a b : Option Addr) (capa capb ga gb : Nat) (xs ys : List Nat) (w : World) (hfa : FAt w a ga xs) (hfb : FAt w b gb ys) (r : Int) (hr : bothE n ga xs gb ys = r) (la lb : Nat) (hla : xs.length = la) (hlb : ys.length = lb) :
  Calls Try.prog 92 #[.int .i64 n, fval ga a la capa, fval gb b lb capb] w fun e w' => e = .returned (.int .i64 r) ∧ Below w.heap.size w w' := by
 unfold fval
 have hB0 : Below w.heap.size w ((w.alloc (.cells #[.int .u64 (ga : Int), .slice a la capa] 41)).alloc (.cells #[.int .u64 (gb : Int), .slice b lb capb] 41)) := ((Below.refl _ _).alloc (Nat.le_refl _) _).alloc (by simp) _
 have HA := Lib.hid (hfa.below hB0); have HB := Lib.hid (hfb.below hB0); have HLA := Lib.hid hla; have HLB := Lib.hid hlb
 obtain ⟨t0, t1⟩ := two_boxes w #[.int .u64 (ga : Int), .slice a la capa] #[.int .u64 (gb : Int), .slice b lb capb] 41
 have T1 := Lib.hid t1
 obtain ⟨s, hs⟩ : ∃ s, checkE n ga xs = s := ⟨_, rfl⟩
 have HS := Lib.hid hs
 by_cases h0 : s = 0
 ·subst h0
  have HR : Hid (checkE n gb ys = r) := by show _ = _; rw [← hr, bothE, if_pos hs]
  clear hfa hfb hr hla hlb t0 t1 hs
  go_enter Try.func92, Try.ntmps92
  go_wp2_with fail
  refine (checkR_is n a capa ga xs _ HA.out 0 HS.out la HLA.out).mono ?_
  rintro e w1 ⟨rfl, hb1⟩
  have hB1 := hB0.trans (hb1.mono hB0.size)
  obtain ⟨d0, d1, _⟩ := two_cells (heap_old T1.out hb1)
  go_wp2_with fail
  refine (checkR_is n b capb gb ys _ (HB.out.below hb1) r HR.out lb HLB.out).mono ?_
  rintro e w2 ⟨rfl, hb2⟩
  go_wp2
  go_ret
  exact ⟨rfl, hB1.trans (hb2.mono hB1.size)⟩
 ·have HR : Hid (s = r) := by show _ = _; rw [← hr, bothE, hs, if_neg h0]
  have hne : (s != 0) = true := by simpa using h0
  clear hfa hfb hr hla hlb t0 t1 hs h0
  go_enter Try.func92, Try.ntmps92
  go_wp2_with fail
  refine (checkR_is n a capa ga xs _ HA.out s HS.out la HLA.out).mono ?_
  rintro e w1 ⟨rfl, hb1⟩
  go_wp2
  go_ret
  exact ⟨rint HR.out, hB0.trans (hb1.mono hB0.size)⟩
end Go.Proofs.Ytpkcaabbcoiiiaa
namespace Go.Proofs.Ytpkcaabbcoiiiaa
open Go.RowKit Go.Shelf
theorem mem_of_bit {s j : Nat} (hj : j < 64) (h : s.testBit j = true) : j ∈ mem s := by
 unfold mem
 rw [List.mem_filter]
 exact ⟨List.mem_range.2 hj, h⟩
section iter
attribute [local go_sem] Oper.semAt_some
end iter
def accF (rows : List Nat) (gen : Nat) (l : List Nat) : Nat := l.foldl (fun c i => c ||| rows.getD i 0) gen
def madeF (gen : Nat) (rows : List Nat) (s : Nat) : Nat := accF rows gen (mem s)
theorem accF_snoc (rows : List Nat) (gen : Nat) (l : List Nat) (x : Nat) : accF rows gen (l ++ [x]) = accF rows gen l ||| rows.getD x 0 := by
 unfold accF; rw [List.foldl_append]; rfl
theorem or64 {a b : Nat} (ha : a < 18446744073709551616) (hb : b < 18446744073709551616) : a ||| b < 18446744073709551616 := by
 have e : (18446744073709551616 : Nat) = 2 ^ 64 := rfl
 rw [e] at *; exact Nat.or_lt_two_pow ha hb
theorem accF_lt {rows : List Nat} (hr : ∀ r ∈ rows, r < 18446744073709551616) : ∀ (l : List Nat) (gen : Nat), gen < 18446744073709551616 → accF rows gen l < 18446744073709551616
 | [], gen, h => h
 | x :: l, gen, h => by
  have : rows.getD x 0 < 18446744073709551616 := by
   rw [List.getD_eq_getElem?_getD]
   cases hx : rows[x]? with
   | none => simp
   | some y => exact hr y (List.mem_of_getElem? hx)
  exact accF_lt hr l _ (or64 h this)
theorem madeF_lt {rows : List Nat} {gen s : Nat} (hr : ∀ r ∈ rows, r < 18446744073709551616) (hg : gen < 18446744073709551616) : madeF gen rows s < 18446744073709551616 := accF_lt hr _ _ hg
end Go.Proofs.Ytpkcaabbcoiiiaa
namespace Go.Proofs.Ytpkcaabbcoiiiaa
open Go.RowKit Go.Shelf
section madeA
attribute [local go_sem] Oper.semAt_some
end madeA
theorem memK_mem {s m : Nat} (hs : s < 2 ^ m) (hm : m ≤ 64) : memK s m = mem s := by
 unfold memK mem
 obtain ⟨d, hd⟩ : ∃ d, 64 = m + d := ⟨64 - m, by omega⟩
 rw [hd, List.range_add, List.filter_append]
 have : ((List.range d).map (m + ·)).filter s.testBit = [] := by
  rw [List.filter_eq_nil_iff]
  intro x hx
  rw [List.mem_map] at hx
  obtain ⟨y, _, rfl⟩ := hx
  rw [Nat.testBit_lt_two_pow (Nat.lt_of_lt_of_le hs (Nat.pow_le_pow_right (by omega) (by omega)))]
  simp
 rw [this, List.append_nil]
set_option maxHeartbeats 1000000 in
theorem madeR_is (a : Option Addr) (cap gen : Nat) (rows : List Nat) (s : Nat) (hs : s < 2 ^ rows.length) (hl64 : rows.length ≤ 64) (w : World) (hf : FAt w a gen rows) (r : Nat) (hr : madeF gen rows s = r) (len : Nat) (hl : rows.length = len) :
  Calls Try.prog 93 #[fval gen a len cap, .int .u64 s] w fun e W' => e = .returned (.int .u64 r) ∧ Below w.heap.size w W' := by
 unfold fval
 have hs64 : s < 18446744073709551616 := Nat.lt_of_lt_of_le hs (pow_le64 hl64)
 have hB0 : Below w.heap.size w (w.alloc (.cells #[.int .u64 (gen : Int), .slice a len cap] 41)) := (Below.refl _ _).alloc (Nat.le_refl _) _
 have HF1 : Hid (FAt (w.alloc (.cells #[.int .u64 (gen : Int), .slice a len cap] 41)) a gen rows) := hf.below hB0
 have hgen := hf.gen
 have HALL := Lib.hid hf.all
 have HL := Lib.hid hl
 rw [hl] at hl64 hs
 have HR : Hid (accF rows gen (memK s len) = r) := by show _ = _; rw [memK_mem hs hl64]; exact hr
 clear hf hr hl hs
 go_enter Try.func93, Try.ntmps93
 go_wp2_with fail
 go_loopw [5, 6] (fun o i wr => ∃ (k u : Nat), k ≤ len ∧ i = .int .i64 k ∧ o = .int .u64 u ∧ u < 18446744073709551616 ∧ Hid (accF rows gen (memK s k) = u) ∧ (w.alloc (.cells #[.int .u64 (gen : Int), .slice a len cap] 41)) = wr) (fun _ i _ => len - (intOf i).toNat)
 case atStart => exact ⟨0, gen, Nat.zero_le _, rfl, rfl, hgen, rfl, rfl⟩
 case round =>
  obtain ⟨k, u, hk, rfl, rfl, hu, HU, rfl⟩ := hrel
  by_cases hlt : k < len
  ·cases hbit : s.testBit k
   ·have HN : Hid (accF rows gen (memK s (k + 1)) = u) := by show _ = _; rw [memK_no hbit]; exact HU.out
    have HH := Lib.hid (show hasB s k = false by simp [hasB, hbit])
    clear hbit
    go_wp2_with fail
    refine (hasR_is s k false HH.out hs64 _).mono ?_
    rintro e w1 ⟨rfl, rfl⟩
    go_wp2
    go_roundw
    case rel => exact ⟨k + 1, u, by omega, by go_num, rfl, hu, HN, by trivial⟩
    case measure => simp [intOf]; omega
   ·obtain ⟨ba, offa, z, rfl, hz, hz64, hba, a0⟩ := HF1.out.at_ (i := k) (by rw [HL.out]; exact hlt)
    obtain ⟨q, hq⟩ : ∃ q, u ||| z = q := ⟨_, rfl⟩
    have hq64 : q < 18446744073709551616 := by rw [← hq]; exact or64 hu hz64
    have HN : Hid (accF rows gen (memK s (k + 1)) = q) := by
     show _ = _
     rw [memK_yes hbit, accF_snoc, HU.out, List.getD_eq_getElem?_getD, hz, ← hq]; rfl
    have HH := Lib.hid (show hasB s k = true by simp [hasB, hbit]; omega)
    have HQ := Lib.hid hq
    have g0 : (0 : Int) ≤ (k : Int) := by omega
    have g1 : (k : Int) < (len : Int) := by omega
    clear hbit hz hq
    go_wp2_with fail
    refine (hasR_is s k true HH.out hs64 _).mono ?_
    rintro e w1 ⟨rfl, rfl⟩
    go_wp2_with fail
    refine (or_is u z q hu hz64 HQ.out _).mono ?_
    rintro e w1 ⟨rfl, rfl⟩
    go_wp2
    go_roundw
    case rel => exact ⟨k + 1, q, by omega, by go_num, rfl, hq64, HN, by trivial⟩
    case measure => simp [intOf]; omega
  ·have HE : Hid ((u : Int) = (r : Int)) := by
    show _ = _
    rw [← HU.out, ← HR.out, show k = len by omega]
   go_wp2
   go_ret
   exact ⟨rint HE.out, hB0⟩
end Go.Proofs.Ytpkcaabbcoiiiaa
namespace Go.Proofs.Ytpkcaabbcoiiiaa
open Go.RowKit
theorem checkE_ok {n : Int} {gen : Nat} {rows : List Nat} (h : checkE n gen rows = 0) : dimB n = true ∧ shapeB n.toNat gen rows = true ∧ clearB gen rows = true := by
 unfold checkE at h
 split at h
 ·rename_i hd
  split at h
  ·rename_i hs
   rw [Bool.and_eq_true] at hs
   exact ⟨hd, hs.1, hs.2⟩
  ·cases h
 ·cases h
theorem shapeB_len {m gen : Nat} {rows : List Nat} (h : shapeB m gen rows = true) : rows.length = m ∧ insN m gen = true ∧ ∀ r ∈ rows, insN m r = true := by
 unfold shapeB at h
 simp only [Bool.and_eq_true, decide_eq_true_eq, List.all_eq_true] at h
 exact h
end Go.Proofs.Ytpkcaabbcoiiiaa
namespace Go.Proofs.Ytpkcaabbcoiiiaa
open Go.RowKit
def orL (xs ys : List Nat) : List Nat := List.zipWith (fun a b : Nat => a ||| b) xs ys
theorem orL_at {xs ys : List Nat} {k x y : Nat} (hx : xs[k]? = some x) (hy : ys[k]? = some y) : (orL xs ys)[k]? = some (x ||| y) := by simp [orL, List.getElem?_zipWith, hx, hy]
theorem orL_len {xs ys : List Nat} (h : ys.length = xs.length) : (orL xs ys).length = xs.length := by simp [orL, h]
theorem orL_lt {xs ys : List Nat} (hx : ∀ r ∈ xs, r < 18446744073709551616) (hy : ∀ r ∈ ys, r < 18446744073709551616) : ∀ r ∈ orL xs ys, r < 18446744073709551616 := by
 intro r hr
 obtain ⟨i, hi⟩ := List.getElem?_of_mem hr
 unfold orL at hi
 rw [List.getElem?_zipWith] at hi
 cases h1 : xs[i]? with
 | none => rw [h1] at hi; simp at hi
 | some a =>
  cases h2 : ys[i]? with
  | none => rw [h1, h2] at hi; simp at hi
  | some b =>
   rw [h1, h2] at hi
   have : a ||| b = r := by simpa using hi
   rw [← this]
   exact or64 (hx a (List.mem_of_getElem? h1)) (hy b (List.mem_of_getElem? h2))
def combG (n : Int) (ga : Nat) (xs : List Nat) (gb : Nat) (ys : List Nat) : Nat := if bothE n ga xs gb ys = 0 then ga ||| gb else 0
def combV (n : Int) (ga : Nat) (xs : List Nat) (gb : Nat) (ys : List Nat) : List Nat := if bothE n ga xs gb ys = 0 then canonL (ga ||| gb) (orL xs ys) else []
theorem bothE_ok {n : Int} {ga gb : Nat} {xs ys : List Nat} (h : bothE n ga xs gb ys = 0) : checkE n ga xs = 0 ∧ checkE n gb ys = 0 := by
 unfold bothE at h
 split at h
 ·rename_i h1; exact ⟨h1, h⟩
 ·rename_i h1; exact absurd h h1
theorem bothE_len {n : Int} {ga gb : Nat} {xs ys : List Nat} (h : bothE n ga xs gb ys = 0) : ∃ m : Nat, n = m ∧ m ≤ 64 ∧ xs.length = m ∧ ys.length = m := by
 obtain ⟨h1, h2⟩ := bothE_ok h
 obtain ⟨hd, s1, _⟩ := checkE_ok h1
 obtain ⟨_, s2, _⟩ := checkE_ok h2
 obtain ⟨m, rfl, hm⟩ := dim_nat hd
 rw [Int.toNat_natCast] at s1 s2
 exact ⟨m, rfl, hm, (shapeB_len s1).1, (shapeB_len s2).1⟩
theorem three_boxes (w : World) (a b c : Array Value) (T : TypeId) :
  (((w.alloc (.cells a T)).alloc (.cells b T)).alloc (.cells c T)).heap[w.heap.size]? = some (.cells a T (0, 0)) ∧ (((w.alloc (.cells a T)).alloc (.cells b T)).alloc (.cells c T)).heap[w.heap.size + 1]? = some (.cells b T (0, 0)) ∧ (((w.alloc (.cells a T)).alloc (.cells b T)).alloc (.cells c T)).heap[w.heap.size + 1 + 1]? = some (.cells c T (0, 0)) := by
 obtain ⟨t0, t1⟩ := two_boxes w a b T
 refine ⟨heap_allocd t0 _, heap_allocd t1 _, ?_⟩
 have := heapV_new ((w.alloc (.cells a T)).alloc (.cells b T)) (.cells c T)
 rwa [World.size_alloc, World.size_alloc] at this
end Go.Proofs.Ytpkcaabbcoiiiaa
namespace Go.Proofs.Ytpkcaabbcoiiiaa
open Go.RowKit
def extG (n : Int) (ga : Nat) (xs : List Nat) (gb : Nat) (ys : List Nat) : Nat := if bothE n ga xs gb ys = 0 then madeF gb ys ga else 0
def extV (n : Int) (ga : Nat) (xs : List Nat) (gb : Nat) (ys : List Nat) : List Nat := if bothE n ga xs gb ys = 0 then canonL (madeF gb ys ga) (xs.map (madeF gb ys)) else []
end Go.Proofs.Ytpkcaabbcoiiiaa
namespace Go.Proofs.Ytpkcaabbcoiiiaa
open Go.RowKit
structure KeepK (w wr : World) (A B : Nat) (ca cb : Array Value) : Prop where
 hA : wr.heap[A]? = some (.cells ca 41 (0, 0))
 hB : wr.heap[B]? = some (.cells cb 41 (0, 0))
 below : Below w.heap.size w wr
theorem KeepK.drew {w wr : World} {A B : Nat} {ca cb : Array Value} (h : KeepK w wr A B ca cb) : KeepK w wr.drew A B ca cb := ⟨h.hA, h.hB, h.below.drew⟩
theorem KeepK.alloc {w wr : World} {A B : Nat} {ca cb : Array Value} (h : KeepK w wr A B ca cb) (o : Obj) : KeepK w (wr.alloc o) A B ca cb := ⟨heap_allocd h.hA o, heap_allocd h.hB o, h.below.alloc h.below.size o⟩
theorem KeepK.call {w wr w' : World} {A B : Nat} {ca cb : Array Value} (h : KeepK w wr A B ca cb) (hb : Below wr.heap.size wr w') : KeepK w w' A B ca cb := ⟨heap_old h.hA hb, heap_old h.hB hb, h.below.trans (hb.mono h.below.size)⟩
theorem KeepK.set {w wr : World} {A B F j : Nat} {ca cb : Array Value} (h : KeepK w wr A B ca cb) (h1 : A ≠ F) (h2 : B ≠ F) (h3 : w.heap.size ≤ F) (v : Value) : KeepK w (wr.setCell ⟨F, j, none⟩ v) A B ca cb := ⟨heap_other h.hA h1, heap_other h.hB h2, h.below.setCell (p := ⟨F, j, none⟩) h3 v⟩
theorem KeepK.grown {w wr w' : World} {A B base n : Nat} {ca cb : Array Value} {v : Value} {xs : List Value} (h : KeepK w wr A B ca cb) (hr : wr.ownsRow base 38 1 v n xs) (hb : w.heap.size ≤ base) (hg : wr.grownBy w' v.ownBlock) : KeepK w w' A B ca cb :=
 ⟨heap_grown h.hA (by decide) hr hg, heap_grown h.hB (by decide) hr hg, h.below.grown hg h.below.size (fun j e => Nat.le_trans hb (hr.lt j e).1)⟩
theorem KeepK.cells {w wr : World} {A B : Nat} {u1 u2 v1 v2 : Value} (h : KeepK w wr A B #[u1, u2] #[v1, v2]) {p q : Addr} {x y : Value} (hp : w.cell? p = some x) (hq : w.cell? q = some y) :
  wr.cell? ⟨A, 1, none⟩ = some u2 ∧ wr.cell? p = some x ∧ wr.cell? ⟨B, 1, none⟩ = some v2 ∧ wr.cell? q = some y :=
 ⟨(two_cells h.hA).2.1, (h.below.cell (cell_lt hp)).trans hp, (two_cells h.hB).2.1, (h.below.cell (cell_lt hq)).trans hq⟩
theorem orL_take {xs ys : List Nat} {k x y q : Nat} (hx : xs[k]? = some x) (hy : ys[k]? = some y) (hq : x ||| y = q) : (orL xs ys).take (k + 1) = (orL xs ys).take k ++ [q] := by
 have h2 := orL_at hx hy
 rw [hq] at h2
 obtain ⟨hk, e⟩ := List.getElem?_eq_some_iff.1 h2
 rw [List.take_succ_eq_append_getElem hk, e]
set_option maxHeartbeats 20000000 in
theorem combR_is (n : Int) (a b : Option Addr) (capa capb ga gb : Nat) (xs ys : List Nat) (w : World) (hfa : FAt w a ga xs) (hfb : FAt w b gb ys) (e0 : Int) (he : bothE n ga xs gb ys = e0) (g : Nat) (hg : combG n ga xs gb ys = g) (zs : List Nat) (hz : combV n ga xs gb ys = zs) (la lb : Nat) (hla : xs.length = la) (hlb : ys.length = lb) :
  Calls Try.prog 99 #[.int .i64 n, fval ga a la capa, fval gb b lb capb] w (FRet g zs e0 w) := by
 unfold fval
 have hB0 : Below w.heap.size w (((w.alloc (.cells #[.int .u64 (ga : Int), .slice a la capa] 41)).alloc (.cells #[.int .u64 (gb : Int), .slice b lb capb] 41)).alloc (.cells #[.int .u64 0, .slice none 0 0] 41)) := (((Below.refl _ _).alloc (Nat.le_refl _) _).alloc (by simp) _).alloc (by simp; omega) _
 have HA0 := Lib.hid hfa; have HBB0 := Lib.hid hfb
 have HA := Lib.hid (hfa.below hB0); have HB := Lib.hid (hfb.below hB0); have HLA := Lib.hid hla; have HLB := Lib.hid hlb
 obtain ⟨t0, t1, t2⟩ := three_boxes w #[.int .u64 (ga : Int), .slice a la capa] #[.int .u64 (gb : Int), .slice b lb capb] #[.int .u64 0, .slice none 0 0] 41
 have T0 := Lib.hid t0; have T1 := Lib.hid t1; have T2 := Lib.hid t2
 have hga := hfa.gen; have hgb := hfb.gen
 have HXA := Lib.hid hfa.all; have HYA := Lib.hid hfb.all
 have HXL := Lib.hid hfa.len
 have HE := Lib.hid he
 by_cases h0 : e0 = 0
 ·subst h0
  obtain ⟨m, rfl, hm, hxm, hym⟩ := bothE_len he
  obtain rfl : m = la := by omega
  obtain rfl : m = lb := by omega
  obtain rfl : ga ||| gb = g := by rw [← hg, combG, if_pos he]
  have HZ : Hid (canonL (ga ||| gb) (orL xs ys) = zs) := by show _ = _; rw [← hz, combV, if_pos he]
  have HOL : Hid ((orL xs ys).length = m) := by show _ = _; rw [orL_len (by omega)]; exact hla
  have hgg := or64 hga hgb
  obtain ⟨gg, hggq⟩ : ∃ gg, ga ||| gb = gg := ⟨_, rfl⟩
  have HGQ := Lib.hid hggq
  rw [hggq] at hgg HZ ⊢
  obtain ⟨i0, hi, hz0, hz1, hz2⟩ := info_parts infoU
  clear hfa hfb he hg hz hla hlb t0 t1 t2 hxm hym hggq
  go_enter Try.func99, Try.ntmps99
  go_wp2_with fail
  refine (twoR_is m a b capa capb ga gb xs ys _ HA.out HB.out 0 HE.out m m HLA.out HLB.out).mono ?_
  rintro e w1 ⟨rfl, hb1⟩
  have hB1 := hB0.trans (hb1.mono hB0.size)
  have U0 := Lib.hid (heap_old T0.out hb1); have U1 := Lib.hid (heap_old T1.out hb1); have U2 := Lib.hid (heap_old T2.out hb1)
  obtain ⟨c0, c1, _⟩ := two_cells U0.out
  obtain ⟨k0, k1, _⟩ := two_cells U1.out
  go_wp2_with fail
  refine (or_is ga gb gg hga hgb HGQ.out _).mono ?_
  rintro e w2 ⟨rfl, rfl⟩
  have hw1 : w.heap.size + 1 + 1 < w1.heap.size := (Array.getElem?_eq_some_iff.1 U2.out).1
  have UF := Lib.hid (heapV_new w1 (.cells #[.int .u64 (gg : Int), .slice none 0 0] 41))
  have K0 : Hid (KeepK w (w1.alloc (.cells #[.int .u64 (gg : Int), .slice none 0 0] 41)) w.heap.size (w.heap.size + 1) #[.int .u64 (ga : Int), .slice a m capa] #[.int .u64 (gb : Int), .slice b m capb]) := KeepK.alloc ⟨U0.out, U1.out, hB1⟩ _
  have S0 := Lib.hid (heap_allocd U2.out (.cells #[.int .u64 (gg : Int), .slice none 0 0] 41))
  obtain ⟨F, hF⟩ : ∃ F, w1.heap.size = F := ⟨_, rfl⟩
  have HFL : Hid ((w1.alloc (.cells #[.int .u64 (gg : Int), .slice none 0 0] 41)).heap.size = F + 1) := by show _ = _; rw [World.size_alloc, hF]
  rw [hF] at UF hw1
  clear c0 c1 k0 k1
  go_wp2_with fail
  go_loopw [10] (fun i wr => ∃ (k : Nat) (v : Value), k ≤ m ∧ i = .int .i64 k ∧ Hid (KeepK w wr w.heap.size (w.heap.size + 1) #[.int .u64 (ga : Int), .slice a m capa] #[.int .u64 (gb : Int), .slice b m capb]) ∧ Hid (wr.heap[w.heap.size + 1 + 1]? = some (.cells #[.int .u64 0, .slice none 0 0] 41 (0, 0))) ∧ Hid (wr.heap[F]? = some (.cells #[.int .u64 (gg : Int), v] 41 (0, 0))) ∧ Hid (wr.ownsRow F 38 1 v k (u64s ((orL xs ys).take k))) ∧ F ≤ wr.heap.size) (fun i _ => m - (intOf i).toNat)
  case atStart => exact ⟨0, .slice none 0 0, Nat.zero_le _, rfl, K0, S0, UF, World.ownsRow_nil _ _ _ _, by have := HFL.out; omega⟩
  case round =>
   obtain ⟨k, v, hk, rfl, K, R2, RF, HO, hFw⟩ := hrel
   obtain ⟨f0, f1, ff⟩ := two_cells RF.out
   have ff1 := ff 1
   by_cases hlt : k < m
   ·obtain ⟨ba, offa, x, rfl, hx, hx64, hba, a0⟩ := HA0.out.at_ (i := k) (by rw [HLA.out]; exact hlt)
    obtain ⟨bb, offb, y, rfl, hy, hy64, hbb, b0⟩ := HBB0.out.at_ (i := k) (by rw [HLB.out]; exact hlt)
    obtain ⟨q, hq⟩ : ∃ q, x ||| y = q := ⟨_, rfl⟩
    have HQ := Lib.hid hq
    have HT := Lib.hid (orL_take hx hy hq)
    have A0 := Lib.hid a0; have B0 := Lib.hid b0
    have g0 : (0 : Int) ≤ (k : Int) := by omega
    have g1 : (k : Int) < (m : Int) := by omega
    have q1 : (wr.alloc (.cells #[.int .u64 (q : Int)] 38)).cell? ⟨F, 1, none⟩ = some v := (two_cells (heap_allocd RF.out _)).2.1
    have KA := Lib.hid (K.out.drew.alloc (.cells #[.int .u64 (q : Int)] 38))
    obtain ⟨s1, s2, s3, s4⟩ := K.out.cells a0 b0
    clear hx hy hq ff a0 b0
    go_wp2_with fail
    go_region_law (first | (refine step_append_lies (wr.drew.alloc (.cells #[.int .u64 (q : Int)] 38)) ?_ (.tmp 31) (.tmp 43) 39 ?_ F 38 i0 _ 1 8 Try.underlying39 hi hz0 hz1 hz2 ?_ ?_ v k (u64s ((orL xs ys).take k)) ?_ ?_ ⟨wr.heap.size, 0, none⟩ 1 1 [.int .u64 (q : Int)] ?_ ?_ ?_ ?_ ?_ ?_ ?_ ?_ (wr.heap.size + 1) ?_ ?_; rfl; rfl; rfl; omega; rfl; exact (HO.out : (wr.drew).ownsRow _ _ _ _ _ _).alloc _; rfl; rfl; exact (World.news_of_block (cs := #[.int .u64 (q : Int)]) (t := 38) (fr := (0, 0)) (heapV_new wr.drew _)); simp [Value.oneCell']; omega; (unfold maxLen; omega); omega; (simp; omega); simp; intro gg9 cp w5 hown1 hgrow hat hlt5; have HOA := Lib.hid ((HO.out : (wr.drew).ownsRow _ _ _ _ _ _).alloc (.cells #[.int .u64 (q : Int)] 38)); have K5 := Lib.hid (KA.out.grown HOA.out (by omega) hgrow); have D2 := Lib.hid (heap_grown (heap_allocd (w := wr.drew) R2.out (.cells #[.int .u64 (q : Int)] 38)) (by decide) HOA.out hgrow); have DF := Lib.hid (heap_grown (heap_allocd (w := wr.drew) RF.out (.cells #[.int .u64 (q : Int)] 38)) (by decide) HOA.out hgrow); have hs5 := hgrow.size; obtain ⟨_, d1, df⟩ := two_cells DF.out; have df1 := df 1; clear df) | (go_simp; go_at_call 106; refine (or_is x y q hx64 hy64 HQ.out _).mono ?_; rintro e w3 ⟨rfl, rfl⟩) | fail)
    all_goals
     have hsl : Hid (F ≤ w5.heap.size) := by show _ ≤ _; simp at hs5; omega
     have HO5 := Lib.hid (show (w5.setCell ⟨F, 1, none⟩ (.slice (some ⟨gg9, 0, none⟩) (k + 1) cp)).ownsRow F 38 1 (.slice (some ⟨gg9, 0, none⟩) (k + 1) cp) (k + 1) (u64s ((orL xs ys).take (k + 1))) by
      rw [HT.out, u64s_snoc]; exact hown1.kept (grownBy_set w5 _ _ _) (.inr (not_row DF.out (by decide) hown1).symm))
     have N2 := Lib.hid (heap_other (B := F) (j := 1) (c := .slice (some ⟨gg9, 0, none⟩) (k + 1) cp) D2.out (by omega))
     have NF := Lib.hid (two_set1 (c := .slice (some ⟨gg9, 0, none⟩) (k + 1) cp) DF.out)
     have NK := Lib.hid (K5.out.set (F := F) (j := 1) (by omega) (by omega) (by omega) (.slice (some ⟨gg9, 0, none⟩) (k + 1) cp))
     clear hown1 hgrow hat d1 df1 q1 s1 s2 s3 s4 f0 f1 ff1 hs5
     go_wp2
     go_roundw
     case rel => exact ⟨k + 1, _, by omega, by go_num, NK, N2, NF, HO5, by have := hsl.out; simpa [World.setCell] using this⟩
     case measure => simp [intOf]; omega
   ·obtain rfl : k = m := by omega
    have HO2 : Hid (wr.ownsRow F 38 1 v k (u64s (orL xs ys))) := by
     have := HO.out
     rwa [List.take_of_length_le (by rw [HOL.out]; exact Nat.le_refl _)] at this
    obtain ⟨hvn, a3, cap3, hv3, hr3, hf3⟩ := VRow.of_own HO2.out
    have hol : (u64s (orL xs ys)).length = k := hvn.symm
    rw [hol] at hv3
    subst hv3
    have holn : (orL xs ys).length = k := by rw [← hol, u64s_length]
    have hfat : FAt wr a3 gg (orL xs ys) := ⟨hr3, hgg, orL_lt HXA.out HYA.out, by rw [holn, ← HLA.out]; exact HXL.out⟩
    have can : ∀ (W : World), FAt W a3 gg (orL xs ys) → Calls Try.prog 94 #[.agg #[.int .u64 (gg : Int), .slice a3 k cap3]] W (FOne gg zs W) := fun W hW => by
     have := canonR_is a3 cap3 gg (orL xs ys) W hW zs HZ.out
     rwa [holn] at this
    have HCAN := Lib.hid can; have HFAT := Lib.hid hfat
    have hrel := K.out.below
    have hsz : w.heap.size ≤ wr.heap.size := hrel.size
    have R3 := R2
    clear hvn hr3 hf3 hol holn hfat can ff ff1
    go_wp2_with fail
    refine (HCAN.out _ HFAT.out).mono ?_
    rintro e w4 ⟨a4, cap4, rfl, hr4, hf4, hb4⟩
    unfold fval
    have hB4 := hrel.trans (hb4.mono hrel.size)
    have U4 := Lib.hid (heap_old R3.out hb4)
    obtain ⟨k0, k1, df⟩ := two_cells U4.out
    have y0 := df 0; have y1 := df 1
    have N1 := Lib.hid (two_set1 (c := .slice a4 zs.length cap4) (two_set0 (c := .int .u64 (gg : Int)) U4.out))
    obtain ⟨s0, s1, _⟩ := two_cells N1.out
    have hne : ∀ ad, a4 = some ad → ad.block ≠ w.heap.size + 1 + 1 := fun ad e => by
     have h1 := (hf4 ad e).1
     omega
    have NR := Lib.hid (vrow_set (vrow_set hr4 (B := w.heap.size + 1 + 1) (j := 0) (v := .int .u64 (gg : Int)) hne) (B := w.heap.size + 1 + 1) (j := 1) (v := .slice a4 zs.length cap4) hne)
    have HF4 := Lib.hid hf4
    clear df hr4 hf4 hne
    go_wp2
    refine bodyPost_ret (v := .tuple #[.agg #[.int .u64 (gg : Int), .slice a4 zs.length cap4], .int .i64 0]) ?_ rfl ⟨a4, cap4, rfl, NR.out, fun ad e => ⟨Nat.le_trans hsz (HF4.out ad e).1, by simpa [World.setCell] using (HF4.out ad e).2⟩, (hB4.setCell (p := ⟨w.heap.size + 1 + 1, 0, none⟩) (by simp; omega) _).setCell (p := ⟨w.heap.size + 1 + 1, 1, none⟩) (by simp; omega) _⟩
    simp [results, Try.results99, go_sem, s0, s1]
 ·obtain rfl : 0 = g := by rw [← hg, combG, he, if_neg h0]
  obtain rfl : [] = zs := by rw [← hz, combV, he, if_neg h0]
  have hne : (e0 != 0) = true := by simpa using h0
  clear hfa hfb he hg hz hla hlb t0 t1 t2 h0
  go_enter Try.func99, Try.ntmps99
  go_wp2_with fail
  refine (twoR_is n a b capa capb ga gb xs ys _ HA.out HB.out e0 HE.out la lb HLA.out HLB.out).mono ?_
  rintro e w1 ⟨rfl, hb1⟩
  have hB1 := hB0.trans (hb1.mono hB0.size)
  have U2 := Lib.hid (heap_old T2.out hb1)
  obtain ⟨d0, d1, df⟩ := two_cells U2.out
  have f0 := df 0; have f1 := df 1
  have N1 := Lib.hid (two_set1 (c := .slice none 0 0) (two_set0 (c := .int .u64 0) U2.out))
  obtain ⟨s0, s1, _⟩ := two_cells N1.out
  clear df
  go_wp2
  refine bodyPost_ret (v := .tuple #[.agg #[.int .u64 0, .slice none 0 0], .int .i64 e0]) ?_ rfl (fret_nil e0 ((hB1.setCell (p := ⟨w.heap.size + 1 + 1, 0, none⟩) (by simp; omega) _).setCell (p := ⟨w.heap.size + 1 + 1, 1, none⟩) (by simp; omega) _))
  simp [results, Try.results99, go_sem, s0, s1]
end Go.Proofs.Ytpkcaabbcoiiiaa
namespace Go.Proofs.Ytpkcaabbcoiiiaa
open Go.RowKit
theorem KeepK.cells4 {w wr : World} {A B : Nat} {u1 u2 v1 v2 : Value} (h : KeepK w wr A B #[u1, u2] #[v1, v2]) {p : Addr} {x : Value} (hp : w.cell? p = some x) :
  wr.cell? ⟨A, 1, none⟩ = some u2 ∧ wr.cell? p = some x ∧ wr.cell? ⟨B, 0, none⟩ = some v1 ∧ wr.cell? ⟨B, 1, none⟩ = some v2 :=
 ⟨(two_cells h.hA).2.1, (h.below.cell (cell_lt hp)).trans hp, (two_cells h.hB).1, (two_cells h.hB).2.1⟩
theorem map_take {f : Nat → Nat} {xs : List Nat} {k x q : Nat} (hx : xs[k]? = some x) (hq : f x = q) : (xs.map f).take (k + 1) = (xs.map f).take k ++ [q] := by
 have h2 : (xs.map f)[k]? = some q := by rw [List.getElem?_map, hx, ← hq]; rfl
 obtain ⟨hk, e⟩ := List.getElem?_eq_some_iff.1 h2
 rw [List.take_succ_eq_append_getElem hk, e]
set_option maxHeartbeats 20000000 in
theorem extR_is (n : Int) (a b : Option Addr) (capa capb ga gb : Nat) (xs ys : List Nat) (w : World) (hfa : FAt w a ga xs) (hfb : FAt w b gb ys) (e0 : Int) (he : bothE n ga xs gb ys = e0) (g : Nat) (hg : extG n ga xs gb ys = g) (zs : List Nat) (hz : extV n ga xs gb ys = zs) (la lb : Nat) (hla : xs.length = la) (hlb : ys.length = lb) :
  Calls Try.prog 67 #[.int .i64 n, fval ga a la capa, fval gb b lb capb] w (FRet g zs e0 w) := by
 unfold fval
 have hB0 : Below w.heap.size w (((w.alloc (.cells #[.int .u64 (ga : Int), .slice a la capa] 41)).alloc (.cells #[.int .u64 (gb : Int), .slice b lb capb] 41)).alloc (.cells #[.int .u64 0, .slice none 0 0] 41)) := (((Below.refl _ _).alloc (Nat.le_refl _) _).alloc (by simp) _).alloc (by simp; omega) _
 have HA0 := Lib.hid hfa; have HBB0 := Lib.hid hfb
 have HA := Lib.hid (hfa.below hB0); have HB := Lib.hid (hfb.below hB0); have HLA := Lib.hid hla; have HLB := Lib.hid hlb
 obtain ⟨t0, t1, t2⟩ := three_boxes w #[.int .u64 (ga : Int), .slice a la capa] #[.int .u64 (gb : Int), .slice b lb capb] #[.int .u64 0, .slice none 0 0] 41
 have T0 := Lib.hid t0; have T1 := Lib.hid t1; have T2 := Lib.hid t2
 have hga := hfa.gen; have hgb := hfb.gen
 have HXA := Lib.hid hfa.all; have HYA := Lib.hid hfb.all
 have HXL := Lib.hid hfa.len
 have HE := Lib.hid he
 by_cases h0 : e0 = 0
 ·subst h0
  obtain ⟨m, rfl, hm, hxm, hym⟩ := bothE_len he
  obtain rfl : m = la := by omega
  obtain rfl : m = lb := by omega
  obtain rfl : madeF gb ys ga = g := by rw [← hg, extG, if_pos he]
  have HZ : Hid (canonL (madeF gb ys ga) (xs.map (madeF gb ys)) = zs) := by show _ = _; rw [← hz, extV, if_pos he]
  have HOL : Hid ((xs.map (madeF gb ys)).length = m) := by show _ = _; rw [List.length_map]; exact hla
  obtain ⟨hc1, hc2⟩ := bothE_ok he
  obtain ⟨_, sh1, _⟩ := checkE_ok hc1
  rw [Int.toNat_natCast] at sh1
  obtain ⟨_, ig, ir⟩ := shapeB_len sh1
  have HINg : Hid (ga < 2 ^ ys.length) := by show _ < _; rw [hym]; exact (insN_iff hm hga).1 ig
  have HINr : Hid (∀ x ∈ xs, x < 2 ^ ys.length) := fun x hx => by rw [hym]; exact (insN_iff hm (hfa.all x hx)).1 (ir x hx)
  have HY64 : Hid (ys.length ≤ 64) := by show _ ≤ _; omega
  have hgg : madeF gb ys ga < 18446744073709551616 := madeF_lt hfb.all hgb
  obtain ⟨gg, hggq⟩ : ∃ gg, madeF gb ys ga = gg := ⟨_, rfl⟩
  have HGQ := Lib.hid hggq
  rw [hggq] at hgg HZ ⊢
  obtain ⟨i0, hi, hz0, hz1, hz2⟩ := info_parts infoU
  clear hfa hfb he hg hz hla hlb t0 t1 t2 hxm hym hggq hc1 hc2 sh1 ig ir
  go_enter Try.func67, Try.ntmps67
  go_wp2_with fail
  refine (twoR_is m a b capa capb ga gb xs ys _ HA.out HB.out 0 HE.out m m HLA.out HLB.out).mono ?_
  rintro e w1 ⟨rfl, hb1⟩
  have hB1 := hB0.trans (hb1.mono hB0.size)
  have U0 := Lib.hid (heap_old T0.out hb1); have U1 := Lib.hid (heap_old T1.out hb1); have U2 := Lib.hid (heap_old T2.out hb1)
  obtain ⟨c0, c1, _⟩ := two_cells U0.out
  obtain ⟨k0, k1, _⟩ := two_cells U1.out
  go_wp2_with fail
  refine (madeR_is b capb gb ys ga HINg.out HY64.out _ (HB.out.below hb1) gg HGQ.out m HLB.out).mono ?_
  rintro e w2 ⟨rfl, hb2⟩
  have U0 := Lib.hid (heap_old U0.out hb2); have U1 := Lib.hid (heap_old U1.out hb2); have U2 := Lib.hid (heap_old U2.out hb2)
  have hB1 := hB1.trans (hb2.mono hB1.size)
  have hw1 : w.heap.size + 1 + 1 < w2.heap.size := (Array.getElem?_eq_some_iff.1 U2.out).1
  have UF := Lib.hid (heapV_new w2 (.cells #[.int .u64 (gg : Int), .slice none 0 0] 41))
  have K0 : Hid (KeepK w (w2.alloc (.cells #[.int .u64 (gg : Int), .slice none 0 0] 41)) w.heap.size (w.heap.size + 1) #[.int .u64 (ga : Int), .slice a m capa] #[.int .u64 (gb : Int), .slice b m capb]) := KeepK.alloc ⟨U0.out, U1.out, hB1⟩ _
  have S0 := Lib.hid (heap_allocd U2.out (.cells #[.int .u64 (gg : Int), .slice none 0 0] 41))
  obtain ⟨F, hF⟩ : ∃ F, w2.heap.size = F := ⟨_, rfl⟩
  have HFL : Hid ((w2.alloc (.cells #[.int .u64 (gg : Int), .slice none 0 0] 41)).heap.size = F + 1) := by show _ = _; rw [World.size_alloc, hF]
  rw [hF] at UF hw1
  clear c0 c1 k0 k1
  go_wp2_with fail
  go_loopw [10] (fun i wr => ∃ (k : Nat) (v : Value), k ≤ m ∧ i = .int .i64 k ∧ Hid (KeepK w wr w.heap.size (w.heap.size + 1) #[.int .u64 (ga : Int), .slice a m capa] #[.int .u64 (gb : Int), .slice b m capb]) ∧ Hid (wr.heap[w.heap.size + 1 + 1]? = some (.cells #[.int .u64 0, .slice none 0 0] 41 (0, 0))) ∧ Hid (wr.heap[F]? = some (.cells #[.int .u64 (gg : Int), v] 41 (0, 0))) ∧ Hid (wr.ownsRow F 38 1 v k (u64s ((xs.map (madeF gb ys)).take k))) ∧ F ≤ wr.heap.size) (fun i _ => m - (intOf i).toNat)
  case atStart => exact ⟨0, .slice none 0 0, Nat.zero_le _, rfl, K0, S0, UF, World.ownsRow_nil _ _ _ _, by have := HFL.out; omega⟩
  case round =>
   obtain ⟨k, v, hk, rfl, K, R2, RF, HO, hFw⟩ := hrel
   obtain ⟨f0, f1, ff⟩ := two_cells RF.out
   have ff1 := ff 1
   by_cases hlt : k < m
   ·obtain ⟨ba, offa, x, rfl, hx, hx64, hba, a0⟩ := HA0.out.at_ (i := k) (by rw [HLA.out]; exact hlt)
    obtain ⟨q, hq⟩ : ∃ q, madeF gb ys x = q := ⟨_, rfl⟩
    have HQ := Lib.hid hq
    have HT := Lib.hid (map_take hx hq)
    have HX2 := Lib.hid (HINr.out x (List.mem_of_getElem? hx))
    have A0 := Lib.hid a0
    have g0 : (0 : Int) ≤ (k : Int) := by omega
    have g1 : (k : Int) < (m : Int) := by omega
    obtain ⟨s1, s2, s3, s4⟩ := K.out.cells4 a0
    clear hx hq ff a0
    go_wp2_with fail
    go_region_law (first | (refine step_append_lies (w3.alloc (.cells #[.int .u64 (q : Int)] 38)) ?_ (.tmp 30) (.tmp 38) 39 ?_ F 38 i0 _ 1 8 Try.underlying39 hi hz0 hz1 hz2 ?_ ?_ v k (u64s ((xs.map (madeF gb ys)).take k)) ?_ ?_ ⟨w3.heap.size, 0, none⟩ 1 1 [.int .u64 (q : Int)] ?_ ?_ ?_ ?_ ?_ ?_ ?_ ?_ (w3.heap.size + 1) ?_ ?_; rfl; rfl; rfl; omega; rfl; exact HO3.out.alloc _; rfl; rfl; exact (World.news_of_block (cs := #[.int .u64 (q : Int)]) (t := 38) (fr := (0, 0)) (heapV_new w3 _)); simp [Value.oneCell']; omega; (unfold maxLen; omega); omega; (simp; omega); simp; intro gg9 cp w5 hown1 hgrow hat hlt5; have HOA := Lib.hid (HO3.out.alloc (.cells #[.int .u64 (q : Int)] 38)); have K5 := Lib.hid (KA.out.grown HOA.out (by omega) hgrow); have D2 := Lib.hid (heap_grown (heap_allocd R23.out (.cells #[.int .u64 (q : Int)] 38)) (by decide) HOA.out hgrow); have DF := Lib.hid (heap_grown (heap_allocd RF3.out (.cells #[.int .u64 (q : Int)] 38)) (by decide) HOA.out hgrow); have hs5 := hgrow.size; obtain ⟨_, d1, df⟩ := two_cells DF.out; have df1 := df 1; clear df) | (go_simp; go_at_call 93; refine (madeR_is b capb gb ys x HX2.out HY64.out _ (by first | exact HBB0.out.below K.out.drew.below | exact HBB0.out.below K.out.below) q HQ.out m HLB.out).mono ?_; rintro e w3 ⟨rfl, hb3⟩; have K3 := Lib.hid (K.out.drew.call hb3); have R23 := Lib.hid (heap_old (w := wr.drew) R2.out hb3); have RF3 := Lib.hid (heap_old (w := wr.drew) RF.out hb3); have HO3 := Lib.hid (ownV_below (w := wr.drew) HO.out hb3); have hFw3 : F ≤ w3.heap.size := Nat.le_trans hFw hb3.size; have x1 := (two_cells RF3.out).2.1; have q1 := (two_cells (heap_allocd RF3.out (.cells #[.int .u64 (q : Int)] 38))).2.1; have KA := Lib.hid (K3.out.alloc (.cells #[.int .u64 (q : Int)] 38))) | fail)
    all_goals
     have hsl : Hid (F ≤ w5.heap.size) := by show _ ≤ _; simp at hs5; omega
     have HO5 := Lib.hid (show (w5.setCell ⟨F, 1, none⟩ (.slice (some ⟨gg9, 0, none⟩) (k + 1) cp)).ownsRow F 38 1 (.slice (some ⟨gg9, 0, none⟩) (k + 1) cp) (k + 1) (u64s ((xs.map (madeF gb ys)).take (k + 1))) by
      rw [HT.out, u64s_snoc]; exact hown1.kept (grownBy_set w5 _ _ _) (.inr (not_row DF.out (by decide) hown1).symm))
     have N2 := Lib.hid (heap_other (B := F) (j := 1) (c := .slice (some ⟨gg9, 0, none⟩) (k + 1) cp) D2.out (by omega))
     have NF := Lib.hid (two_set1 (c := .slice (some ⟨gg9, 0, none⟩) (k + 1) cp) DF.out)
     have NK := Lib.hid (K5.out.set (F := F) (j := 1) (by omega) (by omega) (by omega) (.slice (some ⟨gg9, 0, none⟩) (k + 1) cp))
     clear hown1 hgrow hat d1 df1 q1 x1 s1 s2 s3 s4 f0 f1 ff1 hs5 hb3
     go_wp2
     go_roundw
     case rel => exact ⟨k + 1, _, by omega, by go_num, NK, N2, NF, HO5, by have := hsl.out; simpa [World.setCell] using this⟩
     case measure => simp [intOf]; omega
   ·obtain rfl : k = m := by omega
    have HO2 : Hid (wr.ownsRow F 38 1 v k (u64s (xs.map (madeF gb ys)))) := by
     have := HO.out
     rwa [List.take_of_length_le (by rw [HOL.out]; exact Nat.le_refl _)] at this
    obtain ⟨hvn, a3, cap3, hv3, hr3, hf3⟩ := VRow.of_own HO2.out
    have hol : (u64s (xs.map (madeF gb ys))).length = k := hvn.symm
    rw [hol] at hv3
    subst hv3
    have HMLT : Hid (∀ r ∈ xs.map (madeF gb ys), r < 18446744073709551616) := fun r hr => by obtain ⟨x, _, e⟩ := List.mem_map.1 hr; rw [← e]; exact madeF_lt HYA.out hgb
    have holn : (xs.map (madeF gb ys)).length = k := by rw [← hol, u64s_length]
    have hfat : FAt wr a3 gg (xs.map (madeF gb ys)) := ⟨hr3, hgg, HMLT.out, by rw [holn, ← HLA.out]; exact HXL.out⟩
    have can : ∀ (W : World), FAt W a3 gg (xs.map (madeF gb ys)) → Calls Try.prog 94 #[.agg #[.int .u64 (gg : Int), .slice a3 k cap3]] W (FOne gg zs W) := fun W hW => by
     have := canonR_is a3 cap3 gg (xs.map (madeF gb ys)) W hW zs HZ.out
     rwa [holn] at this
    have HCAN := Lib.hid can; have HFAT := Lib.hid hfat
    have hrel := K.out.below
    have hsz : w.heap.size ≤ wr.heap.size := hrel.size
    have R3 := R2
    clear hvn hr3 hf3 hol holn hfat can ff ff1
    go_wp2_with fail
    refine (HCAN.out _ HFAT.out).mono ?_
    rintro e w4 ⟨a4, cap4, rfl, hr4, hf4, hb4⟩
    unfold fval
    have hB4 := hrel.trans (hb4.mono hrel.size)
    have U4 := Lib.hid (heap_old R3.out hb4)
    obtain ⟨k0, k1, df⟩ := two_cells U4.out
    have y0 := df 0; have y1 := df 1
    have N1 := Lib.hid (two_set1 (c := .slice a4 zs.length cap4) (two_set0 (c := .int .u64 (gg : Int)) U4.out))
    obtain ⟨s0, s1, _⟩ := two_cells N1.out
    have hne : ∀ ad, a4 = some ad → ad.block ≠ w.heap.size + 1 + 1 := fun ad e => by
     have h1 := (hf4 ad e).1
     omega
    have NR := Lib.hid (vrow_set (vrow_set hr4 (B := w.heap.size + 1 + 1) (j := 0) (v := .int .u64 (gg : Int)) hne) (B := w.heap.size + 1 + 1) (j := 1) (v := .slice a4 zs.length cap4) hne)
    have HF4 := Lib.hid hf4
    clear df hr4 hf4 hne
    go_wp2
    refine bodyPost_ret (v := .tuple #[.agg #[.int .u64 (gg : Int), .slice a4 zs.length cap4], .int .i64 0]) ?_ rfl ⟨a4, cap4, rfl, NR.out, fun ad e => ⟨Nat.le_trans hsz (HF4.out ad e).1, by simpa [World.setCell] using (HF4.out ad e).2⟩, (hB4.setCell (p := ⟨w.heap.size + 1 + 1, 0, none⟩) (by simp; omega) _).setCell (p := ⟨w.heap.size + 1 + 1, 1, none⟩) (by simp; omega) _⟩
    simp [results, Try.results67, go_sem, s0, s1]
 ·obtain rfl : 0 = g := by rw [← hg, extG, he, if_neg h0]
  obtain rfl : [] = zs := by rw [← hz, extV, he, if_neg h0]
  have hne : (e0 != 0) = true := by simpa using h0
  clear hfa hfb he hg hz hla hlb t0 t1 t2 h0
  go_enter Try.func67, Try.ntmps67
  go_wp2_with fail
  refine (twoR_is n a b capa capb ga gb xs ys _ HA.out HB.out e0 HE.out la lb HLA.out HLB.out).mono ?_
  rintro e w1 ⟨rfl, hb1⟩
  have hB1 := hB0.trans (hb1.mono hB0.size)
  have U2 := Lib.hid (heap_old T2.out hb1)
  obtain ⟨d0, d1, df⟩ := two_cells U2.out
  have f0 := df 0; have f1 := df 1
  have N1 := Lib.hid (two_set1 (c := .slice none 0 0) (two_set0 (c := .int .u64 0) U2.out))
  obtain ⟨s0, s1, _⟩ := two_cells N1.out
  clear df
  go_wp2
  refine bodyPost_ret (v := .tuple #[.agg #[.int .u64 0, .slice none 0 0], .int .i64 e0]) ?_ rfl (fret_nil e0 ((hB1.setCell (p := ⟨w.heap.size + 1 + 1, 0, none⟩) (by simp; omega) _).setCell (p := ⟨w.heap.size + 1 + 1, 1, none⟩) (by simp; omega) _))
  simp [results, Try.results67, go_sem, s0, s1]
end Go.Proofs.Ytpkcaabbcoiiiaa
namespace Go.Proofs.Ytpkcaabbcoiiiaa
open Go.RowKit
def FOwn (gen : Nat) (rows : List Nat) (err : Int) (w : World) (e : Ending) (w' : World) : Prop :=
 ∃ v, e = .returned (.tuple #[.agg #[.int .u64 (gen : Int), v], .int .i64 err]) ∧ w'.ownsRow w.heap.size 38 1 v rows.length (u64s rows) ∧ Below w.heap.size w w'
theorem fown_nil {w w' : World} (err : Int) (hb : Below w.heap.size w w') : FOwn 0 [] err w (.returned (.tuple #[.agg #[.int .u64 0, .slice none 0 0], .int .i64 err])) w' :=
 ⟨_, rfl, World.ownsRow_nil _ _ _ _, hb⟩
theorem fown_own {w w' : World} {gen n : Nat} {v : Value} {rows : List Nat} (h : w'.ownsRow w.heap.size 38 1 v n (u64s rows)) (hb : Below w.heap.size w w') (err : Int) : FOwn gen rows err w (.returned (.tuple #[.agg #[.int .u64 (gen : Int), v], .int .i64 err])) w' := by
 have hn : n = rows.length := by have := h.1; rw [u64s_length] at this; omega
 subst hn
 exact ⟨v, rfl, h, hb⟩
theorem FOwn.ret {gen : Nat} {rows : List Nat} {err : Int} {w w' : World} {e : Ending} (h : FOwn gen rows err w e w') : FRet gen rows err w e w' := by
 obtain ⟨v, rfl, ho, hb⟩ := h
 exact fret_own (Nat.le_refl _) ho hb err
def onesL (m : Nat) : List Nat := (List.range m).map fun i => 2 ^ i
theorem onesL_length (m : Nat) : (onesL m).length = m := by simp [onesL]
theorem onesL_at {m k : Nat} (h : k < m) : (onesL m)[k]? = some (2 ^ k) := by
 unfold onesL
 rw [List.getElem?_map, List.getElem?_range h]; rfl
def oneV (n : Int) : List Nat := if dimB n = true then onesL n.toNat else []
def oneE (n : Int) : Int := if dimB n = true then 0 else 31
set_option maxHeartbeats 2000000 in
theorem oneA_is (n : Int) (w : World) (e0 : Int) (he : oneE n = e0) (ys : List Nat) (hys : oneV n = ys) :
  Calls Try.prog 111 #[.int .i64 n] w (FOwn 0 ys e0 w) := by
 have hB0 : Below w.heap.size w (w.alloc (.cells #[.int .u64 0, .slice none 0 0] 41)) := (Below.refl _ _).alloc (Nat.le_refl _) _
 have T0 := Lib.hid (heapV_new w (.cells #[.int .u64 0, .slice none 0 0] 41))
 obtain ⟨i0, hi, hz0, hz1, hz2⟩ := info_parts infoU
 cases hd : dimB n
 ·obtain rfl : 31 = e0 := by rw [← he, oneE, hd]; rfl
  obtain rfl : [] = ys := by rw [← hys, oneV, hd]; rfl
  obtain ⟨d0, d1, df⟩ := two_cells T0.out
  have f0 := df 0; have f1 := df 1
  have hx : n < 0 ∨ 64 < n := by
   by_cases h : n < 0
   ·exact .inl h
   ·simp [dimB, show 0 ≤ n by omega] at hd; exact .inr hd
  clear df hd he hys
  rcases hx with hx | hx
  all_goals
   go_enter Try.func111, Try.ntmps111
   go_wp2
   refine bodyPost_ret (v := .tuple #[.agg #[.int .u64 0, .slice none 0 0], .int .i64 31]) ?_ rfl (fown_nil 31 hB0)
   simp [results, Try.results111, go_sem, d0, d1]
 ·obtain ⟨m, rfl, hm⟩ := dim_nat hd
  obtain rfl : 0 = e0 := by rw [← he, oneE, hd]; rfl
  have HY : Hid (onesL m = ys) := by show _ = _; rw [← hys, oneV, hd, if_pos rfl, Int.toNat_natCast]
  have hm0 : (0 : Int) ≤ (m : Int) := by omega
  have hm64 : (m : Int) ≤ 64 := by omega
  clear hd he hys
  go_enter Try.func111, Try.ntmps111
  go_wp2_with (at_make; go_loud (refine wpList_make_full _ rfl (.tmp 13) (.tmp 13) 39 rfl w.heap.size 38 i0 _ 1 Try.underlying39 hi hz0 hz1 .i64 .i64 (m : Int) (m : Int) m rfl rfl rfl rfl (by rw [hz2]; omega) (by unfold maxLen; omega) hB0.size ?_; intro w2 hown2 hgrow2))
  have hbl : (w.alloc (.cells #[.int .u64 0, .slice none 0 0] 41)).heap.size = w.heap.size + 1 := by simp
  have hzz : Hid (w2.ownsRow w.heap.size 38 1 (.slice (some ⟨w.heap.size + 1, 0, none⟩) m m) m (u64s (mixL (onesL m) (List.replicate m 0) 0))) := by
   rw [mixL_zero, ← hbl]
   have e : u64s (List.replicate m 0) = List.replicate m (.int .u64 0) := by simp [u64s]
   have e2 : (madeCells (Value.int IntKind.u64 0).cells (m * 1)).toList = List.replicate m (.int .u64 0) := by
    rw [Nat.mul_one]
    apply List.ext_getElem
    ·simp [madeCells]
    ·intro i h1 h2
     simp [madeCells, Value.cells, Nat.mod_one]
   rw [e, ← e2]
   exact hown2
  have U0 := Lib.hid ((hgrow2.block _ (Array.getElem?_eq_some_iff.1 T0.out).1 (by simp)).trans T0.out)
  have hB2 : Below w.heap.size w w2 := hB0.grown hgrow2 hB0.size (fun j e => by cases e)
  clear hown2
  go_wp2_with fail
  go_loopw [17] (fun i wr => ∃ k : Nat, k ≤ m ∧ i = .int .i64 k ∧ Hid (wr.ownsRow w.heap.size 38 1 (.slice (some ⟨w.heap.size + 1, 0, none⟩) m m) m (u64s (mixL (onesL m) (List.replicate m 0) k))) ∧ Hid (wr.heap[w.heap.size]? = some (.cells #[.int .u64 0, .slice none 0 0] 41 (0, 0))) ∧ Below w.heap.size w wr) (fun i _ => m - (intOf i).toNat)
  case atStart => exact ⟨0, Nat.zero_le _, rfl, hzz, U0, hB2⟩
  case round =>
   obtain ⟨k, hk, rfl, HO, HR, hb⟩ := hrel
   by_cases hlt : k < m
   ·have hsh : IntKind.u64.wrap ((2 : Int) ^ k) = ((2 ^ k : Nat) : Int) := by
     have hpw : 2 ^ k ≤ 9223372036854775808 := pow_lt64 (by omega)
     rw [IntKind.wrap_u64]
     have e : ((2 : Int) ^ k) = ((2 ^ k : Nat) : Int) := by simp
     rw [e]
     generalize 2 ^ k = q at *
     omega
    have hxk : (List.replicate m 0)[k]? = some 0 := by simp [hlt]
    have HM := Lib.hid (mixL_set (onesL_at hlt) hxk)
    obtain ⟨q, hq⟩ : ∃ q : Nat, 2 ^ k = q := ⟨_, rfl⟩
    rw [hq] at hsh HM
    have q0 := HO.out.frozenAt k
    have d0 := (HO.out.cellAt k (by omega)).trans (u64s_get (mixL_at (by rw [onesL_length]; simp) hxk))
    have g0 : (0 : Int) ≤ (k : Int) := by omega
    have g3 : (k : Int) < (m : Int) := by omega
    have HO2 : Hid ((wr.setCell ⟨w.heap.size + 1, k, none⟩ (.int .u64 (q : Int))).ownsRow w.heap.size 38 1 (.slice (some ⟨w.heap.size + 1, 0, none⟩) m m) m (u64s (mixL (onesL m) (List.replicate m 0) (k + 1)))) := by
     rw [← HM.out, ← u64s_set]
     exact (HO.out.stored k _).1
    have HR2 := Lib.hid (heap_other (B := w.heap.size + 1) (j := k) (c := .int .u64 (q : Int)) HR.out (by omega))
    have hb2 := hb.setCell (p := ⟨w.heap.size + 1, k, none⟩) (by simp) (.int .u64 (q : Int))
    clear hxk hq
    go_wp2
    go_roundw
    case rel => exact ⟨k + 1, by omega, by go_num, HO2, HR2, hb2⟩
    case measure => simp [intOf]; omega
   ·obtain rfl : k = m := by omega
    have HO2 : Hid (wr.ownsRow w.heap.size 38 1 (.slice (some ⟨w.heap.size + 1, 0, none⟩) k k) k (u64s ys)) := by
     have := HO.out
     have e : mixL (onesL k) (List.replicate k 0) k = onesL k := by
      have := mixL_all (ys := onesL k) (xs := List.replicate k 0) (by rw [onesL_length]; simp)
      simpa using this
     rwa [e, HY.out] at this
    obtain ⟨r0, r1, rf⟩ := two_cells HR.out
    have rf0 := rf 0; have rf1 := rf 1
    have N1 := Lib.hid (two_set1 (c := .slice (some ⟨w.heap.size + 1, 0, none⟩) k k) (two_set0 (c := .int .u64 0) HR.out))
    obtain ⟨s0, s1, _⟩ := two_cells N1.out
    have HO5 := Lib.hid ((HO2.out.kept (grownBy_set _ _ 0 (.int .u64 0)) (.inr (not_row HR.out (by decide) HO2.out).symm)).kept (grownBy_set _ w.heap.size 1 (.slice (some ⟨w.heap.size + 1, 0, none⟩) k k)) (.inr (not_row HR.out (by decide) HO2.out).symm))
    have HB5 := Lib.hid ((hb.setCell (p := ⟨w.heap.size, 0, none⟩) (Nat.le_refl _) (.int .u64 0)).setCell (p := ⟨w.heap.size, 1, none⟩) (Nat.le_refl _) (.slice (some ⟨w.heap.size + 1, 0, none⟩) k k))
    clear rf
    go_wp2
    refine bodyPost_ret (v := .tuple #[.agg #[.int .u64 0, .slice (some ⟨w.heap.size + 1, 0, none⟩) k k], .int .i64 0]) ?_ rfl (fown_own (gen := 0) HO5.out HB5.out 0)
    simp [results, Try.results111, go_sem, s0, s1]
theorem oneR_is (n : Int) (w : World) (e0 : Int) (he : oneE n = e0) (ys : List Nat) (hys : oneV n = ys) :
  Calls Try.prog 64 #[.int .i64 n] w (FOwn 0 ys e0 w) := by
 have hB0 : Below w.heap.size w (w.alloc (.cells #[.int .u64 0, .slice none 0 0] 41)) := (Below.refl _ _).alloc (Nat.le_refl _) _
 have T0 := Lib.hid (heapV_new w (.cells #[.int .u64 0, .slice none 0 0] 41))
 obtain ⟨i0, hi, hz0, hz1, hz2⟩ := info_parts infoU
 cases hd : dimB n
 ·obtain rfl : 31 = e0 := by rw [← he, oneE, hd]; rfl
  obtain rfl : [] = ys := by rw [← hys, oneV, hd]; rfl
  have HD := Lib.hid hd
  obtain ⟨d0, d1, df⟩ := two_cells T0.out
  have f0 := df 0; have f1 := df 1
  clear df hd he hys
  go_enter Try.func64, Try.ntmps64
  go_wp2_with fail
  refine (dim_is n false HD.out _).mono ?_
  rintro e w1 ⟨rfl, rfl⟩
  go_wp2
  refine bodyPost_ret (v := .tuple #[.agg #[.int .u64 0, .slice none 0 0], .int .i64 31]) ?_ rfl (fown_nil 31 hB0)
  simp [results, Try.results64, go_sem, d0, d1]
 ·have HD := Lib.hid hd
  obtain ⟨m, rfl, hm⟩ := dim_nat hd
  obtain rfl : 0 = e0 := by rw [← he, oneE, hd]; rfl
  have HY : Hid (onesL m = ys) := by show _ = _; rw [← hys, oneV, hd, if_pos rfl, Int.toNat_natCast]
  have HYL : Hid (ys.length = m) := by show _ = _; rw [← HY.out, onesL_length]
  clear hd he hys
  obtain ⟨t0, t1⟩ := two_boxes w #[.int .u64 0, .slice none 0 0] #[.int .u64 0, .slice none 0 0] 41
  have A0 := Lib.hid t0; have A1 := Lib.hid t1
  clear t0 t1
  go_enter Try.func64, Try.ntmps64
  go_wp2_with fail
  refine (dim_is m true HD.out _).mono ?_
  rintro e w1 ⟨rfl, rfl⟩
  go_wp2_with fail
  go_loopw [5] (fun i wr => ∃ (k : Nat) (v : Value), k ≤ m ∧ i = .int .i64 k ∧ Hid (wr.heap[w.heap.size]? = some (.cells #[.int .u64 0, .slice none 0 0] 41 (0, 0))) ∧ Hid (wr.heap[w.heap.size + 1]? = some (.cells #[.int .u64 0, v] 41 (0, 0))) ∧ Hid (wr.ownsRow w.heap.size 38 1 v k (u64s (ys.take k))) ∧ Below w.heap.size w wr) (fun i _ => m - (intOf i).toNat)
  case atStart => exact ⟨0, .slice none 0 0, Nat.zero_le _, rfl, A0, A1, World.ownsRow_nil _ _ _ _, hB0.alloc (by simp) _⟩
  case round =>
   obtain ⟨k, v, hk, rfl, B1, B2, HO, hb⟩ := hrel
   obtain ⟨e0, e1, ef⟩ := two_cells B2.out
   have ef1 := ef 1
   by_cases hlt : k < m
   ·obtain ⟨y, hy⟩ : ∃ y : Nat, 2 ^ k = y := ⟨_, rfl⟩
    have HYK := Lib.hid hy
    have HT : Hid (ys.take (k + 1) = ys.take k ++ [y]) := by
     show _ = _
     have h2 : ys[k]? = some y := by rw [← HY.out, onesL_at hlt, hy]
     obtain ⟨hk2, e⟩ := List.getElem?_eq_some_iff.1 h2
     rw [List.take_succ_eq_append_getElem hk2, e]
    have q1 : (wr.alloc (.cells #[.int .u64 (y : Int)] 38)).cell? ⟨w.heap.size + 1, 1, none⟩ = some v := (two_cells (heap_allocd B2.out _)).2.1
    clear hy ef
    go_wp2_with fail
    go_region_law (first | (refine step_append_lies (wr.drew.alloc (.cells #[.int .u64 (y : Int)] 38)) ?_ (.tmp 17) (.tmp 20) 39 ?_ w.heap.size 38 i0 _ 1 8 Try.underlying39 hi hz0 hz1 hz2 ?_ ?_ v k (u64s (ys.take k)) ?_ ?_ ⟨wr.heap.size, 0, none⟩ 1 1 [.int .u64 (y : Int)] ?_ ?_ ?_ ?_ ?_ ?_ ?_ ?_ (wr.heap.size + 1) ?_ ?_; rfl; rfl; rfl; omega; rfl; exact (HO.out : (wr.drew).ownsRow _ _ _ _ _ _).alloc _; rfl; rfl; exact (World.news_of_block (cs := #[.int .u64 (y : Int)]) (t := 38) (fr := (0, 0)) (heapV_new wr.drew _)); simp [Value.oneCell']; omega; (unfold maxLen; omega); omega; (have := hb.size; simp; omega); simp; intro gg cp w5 hown1 hgrow hat hlt5; have hB4 : Below w.heap.size w w5 := (hb.drew.alloc hb.size _).grown hgrow (by have := hb.size; simp; omega) (fun j e => (HO.out.lt j e).1); have D1 := Lib.hid (heap_grown (heap_allocd (w := wr.drew) B1.out (.cells #[.int .u64 (y : Int)] 38)) (by decide) ((HO.out : (wr.drew).ownsRow _ _ _ _ _ _).alloc _) hgrow); have D2 := Lib.hid (heap_grown (heap_allocd (w := wr.drew) B2.out (.cells #[.int .u64 (y : Int)] 38)) (by decide) ((HO.out : (wr.drew).ownsRow _ _ _ _ _ _).alloc _) hgrow); obtain ⟨_, d1, df⟩ := two_cells D2.out; have df1 := df 1; clear df) | (go_simp; go_at_call 65; refine (worth_at k k y rfl HYK.out (by omega) _).mono ?_; rintro e w3 ⟨rfl, rfl⟩) | fail)
    all_goals
     have HO5 := Lib.hid (show (w5.setCell ⟨w.heap.size + 1, 1, none⟩ (.slice (some ⟨gg, 0, none⟩) (k + 1) cp)).ownsRow w.heap.size 38 1 (.slice (some ⟨gg, 0, none⟩) (k + 1) cp) (k + 1) (u64s (ys.take (k + 1))) by
      rw [HT.out, u64s_snoc]; exact hown1.kept (grownBy_set w5 _ _ _) (.inr (not_row D2.out (by decide) hown1).symm))
     have N1 := Lib.hid (heap_other (B := w.heap.size + 1) (j := 1) (c := .slice (some ⟨gg, 0, none⟩) (k + 1) cp) D1.out (by omega))
     have N2 := Lib.hid (two_set1 (c := .slice (some ⟨gg, 0, none⟩) (k + 1) cp) D2.out)
     have NB := Lib.hid (hB4.setCell (p := ⟨w.heap.size + 1, 1, none⟩) (by simp) (.slice (some ⟨gg, 0, none⟩) (k + 1) cp))
     clear hown1 hgrow hat d1 df1 q1 e0 e1 ef1
     go_wp2
     go_roundw
     case rel => exact ⟨k + 1, _, by omega, by go_num, N1, N2, HO5, NB.out⟩
     case measure => simp [intOf]; omega
   ·obtain rfl : k = m := by omega
    obtain ⟨r0, r1, rf⟩ := two_cells B1.out
    have rf0 := rf 0; have rf1 := rf 1
    have HO2 : Hid (wr.ownsRow w.heap.size 38 1 v k (u64s ys)) := by
     have := HO.out
     rwa [List.take_of_length_le (by rw [HYL.out]; exact Nat.le_refl _)] at this
    obtain ⟨a3, cap3, hv3⟩ := own_slice HO2.out
    subst hv3
    have N1 := Lib.hid (two_set1 (c := .slice a3 k cap3) (two_set0 (c := .int .u64 0) B1.out))
    obtain ⟨s0, s1, _⟩ := two_cells N1.out
    have HO5 := Lib.hid ((HO2.out.kept (grownBy_set _ _ 0 (.int .u64 0)) (.inr (not_row B1.out (by decide) HO2.out).symm)).kept (grownBy_set _ w.heap.size 1 (.slice a3 k cap3)) (.inr (not_row B1.out (by decide) HO2.out).symm))
    have HB5 := Lib.hid ((hb.setCell (p := ⟨w.heap.size, 0, none⟩) (Nat.le_refl _) (.int .u64 0)).setCell (p := ⟨w.heap.size, 1, none⟩) (Nat.le_refl _) (.slice a3 k cap3))
    clear rf ef
    go_wp2
    refine bodyPost_ret (v := .tuple #[.agg #[.int .u64 0, .slice a3 k cap3], .int .i64 0]) ?_ rfl (fown_own (gen := 0) HO5.out HB5.out 0)
    simp [results, Try.results64, go_sem, s0, s1]
end Go.Proofs.Ytpkcaabbcoiiiaa
namespace Go.Proofs.Ytpkcaabbcoiiiaa
open Go.RowKit
theorem u64_nat {a : Int} (h : (Lit.int .u64 a).wf = true) : ∃ n : Nat, a = n ∧ n < 18446744073709551616 := by
 simp only [Lit.wf, IntKind.min, IntKind.max, IntKind.signed, IntKind.bits, Bool.and_eq_true, decide_eq_true_eq] at h
 simp at h
 exact ⟨a.toNat, by omega, by omega⟩
end Go.Proofs.Ytpkcaabbcoiiiaa
namespace Go.Proofs.Ytpkcaabbcoiiiaa
open Go.RowKit
theorem same_self (g : Nat) (zs : List Nat) : sameB g zs g zs = true := by simp [sameB]
end Go.Proofs.Ytpkcaabbcoiiiaa
namespace Go.Proofs.Ytpkcaabbcoiiiaa
open Go.RowKit
theorem mem_iff {s i : Nat} : i ∈ mem s ↔ i < 64 ∧ s.testBit i = true := ⟨fun h => ⟨mem_lt h, mem_bit h⟩, fun h => mem_of_bit h.1 h.2⟩
theorem acc_bit (rows : List Nat) (j : Nat) : ∀ (l : List Nat) (g : Nat), (accF rows g l).testBit j = true ↔ g.testBit j = true ∨ ∃ i ∈ l, (rows.getD i 0).testBit j = true
 | [], g => by simp [accF]
 | x :: l, g => by
  have := acc_bit rows j l (g ||| rows.getD x 0)
  rw [show accF rows g (x :: l) = accF rows (g ||| rows.getD x 0) l from rfl, this, Nat.testBit_or, Bool.or_eq_true]
  simp only [List.mem_cons, exists_eq_or_imp]
  exact or_assoc
theorem made_bit {g s j : Nat} {rows : List Nat} : (madeF g rows s).testBit j = true ↔ g.testBit j = true ∨ ∃ i, (i < 64 ∧ s.testBit i = true) ∧ (rows.getD i 0).testBit j = true := by
 rw [madeF, acc_bit]
 simp only [mem_iff]
theorem bit_ext {a b : Nat} (h : ∀ j, a.testBit j = true ↔ b.testBit j = true) : a = b := by
 apply Nat.eq_of_testBit_eq
 intro j
 rw [Bool.eq_iff_iff]; exact h j
theorem andn_iff {a b j : Nat} (ha : a < 18446744073709551616) (hb : b < 18446744073709551616) : (andn a b).testBit j = true ↔ a.testBit j = true ∧ ¬ b.testBit j = true := by
 rw [andn_bit ha hb]; simp
theorem getD_lt {rows : List Nat} (h : ∀ r ∈ rows, r < 18446744073709551616) (i : Nat) : rows.getD i 0 < 18446744073709551616 := by
 rw [List.getD_eq_getElem?_getD]
 cases hx : rows[i]? with
 | none => simp
 | some y => exact h y (List.mem_of_getElem? hx)
theorem getD_canon {g : Nat} {rows : List Nat} (i : Nat) : (canonL g rows).getD i 0 = andn (rows.getD i 0) g := by
 rw [List.getD_eq_getElem?_getD, List.getD_eq_getElem?_getD, canonL, List.getElem?_map]
 cases rows[i]? <;> simp [andn]
theorem made_canon {g : Nat} {rows : List Nat} (hg : g < 18446744073709551616) (hr : ∀ r ∈ rows, r < 18446744073709551616) (s : Nat) : madeF g (canonL g rows) s = madeF g rows s := by
 apply bit_ext; intro j
 rw [made_bit, made_bit]
 constructor
 ·rintro (h | ⟨i, hi, h⟩)
  ·exact .inl h
  ·rw [getD_canon, andn_iff (getD_lt hr i) hg] at h
   exact .inr ⟨i, hi, h.1⟩
 ·rintro (h | ⟨i, hi, h⟩)
  ·exact .inl h
  ·by_cases hj : g.testBit j = true
   ·exact .inl hj
   ·exact .inr ⟨i, hi, by rw [getD_canon, andn_iff (getD_lt hr i) hg]; exact ⟨h, hj⟩⟩
theorem getD_map {f : Nat → Nat} {xs : List Nat} (i : Nat) : (xs.map f).getD i 0 = if i < xs.length then f (xs.getD i 0) else 0 := by
 rw [List.getD_eq_getElem?_getD, List.getD_eq_getElem?_getD, List.getElem?_map]
 split
 ·rename_i h; rw [List.getElem?_eq_getElem h]; rfl
 ·rename_i h; rw [List.getElem?_eq_none (by omega)]; rfl
theorem made_then {ga gb : Nat} {xs ys : List Nat} (s : Nat) : madeF (madeF gb ys ga) (xs.map (madeF gb ys)) s = madeF gb ys (madeF ga xs s) := by
 apply bit_ext; intro j
 rw [made_bit, made_bit, made_bit]
 simp only [made_bit]
 constructor
 ·rintro ((h | ⟨k, ⟨hk, hk2⟩, h⟩) | ⟨i, hi, h⟩)
  ·exact .inl h
  ·exact .inr ⟨k, ⟨hk, .inl hk2⟩, h⟩
  ·rw [getD_map] at h
   split at h
   ·rw [made_bit] at h
    rcases h with h | ⟨k, ⟨hk, hk2⟩, h⟩
    ·exact .inl h
    ·exact .inr ⟨k, ⟨hk, .inr ⟨i, hi, hk2⟩⟩, h⟩
   ·simp at h
 ·rintro (h | ⟨k, ⟨hk, (hk2 | ⟨i, hi, hk2⟩)⟩, h⟩)
  ·exact .inl (.inl h)
  ·exact .inl (.inr ⟨k, ⟨hk, hk2⟩, h⟩)
  ·refine .inr ⟨i, hi, ?_⟩
   rw [getD_map]
   split
   ·rw [made_bit]; exact .inr ⟨k, ⟨hk, hk2⟩, h⟩
   ·rename_i hn
    rw [List.getD_eq_getElem?_getD, List.getElem?_eq_none (by omega)] at hk2
    simp at hk2
structure Good (m : Nat) (g : Nat) (rows : List Nat) : Prop where
 hm : m ≤ 64
 hl : rows.length = m
 hg : g < 2 ^ m
 hr : ∀ r ∈ rows, r < 2 ^ m
 hc : ∀ r ∈ rows, r &&& g = 0
theorem Good.g64 {m g : Nat} {rows : List Nat} (h : Good m g rows) : g < 18446744073709551616 := Nat.lt_of_lt_of_le h.hg (pow_le64 h.hm)
theorem Good.r64 {m g : Nat} {rows : List Nat} (h : Good m g rows) : ∀ r ∈ rows, r < 18446744073709551616 := fun r hr => Nat.lt_of_lt_of_le (h.hr r hr) (pow_le64 h.hm)
theorem good_check {m g : Nat} {rows : List Nat} (h : Good m g rows) : checkE m g rows = 0 := by
 have hd : dimB m = true := by simp [dimB]; have := h.hm; omega
 have h1 : shapeB m g rows = true := by
  unfold shapeB
  simp only [Bool.and_eq_true, decide_eq_true_eq, List.all_eq_true]
  exact ⟨h.hl, (insN_iff h.hm h.g64).2 h.hg, fun r hr => (insN_iff h.hm (h.r64 r hr)).2 (h.hr r hr)⟩
 have h2 : clearB g rows = true := by
  unfold clearB
  rw [List.all_eq_true]
  intro r hr
  have := h.hc r hr
  simp [this]
 unfold checkE
 rw [if_pos hd, Int.toNat_natCast, h1, h2]; rfl
theorem check_good {n : Int} {g : Nat} {rows : List Nat} (hg : g < 18446744073709551616) (hr : ∀ r ∈ rows, r < 18446744073709551616) (h : checkE n g rows = 0) : ∃ m : Nat, n = m ∧ Good m g rows := by
 obtain ⟨hd, hs, hc⟩ := checkE_ok h
 obtain ⟨m, rfl, hm⟩ := dim_nat hd
 rw [Int.toNat_natCast] at hs
 obtain ⟨hl, ig, ir⟩ := shapeB_len hs
 unfold clearB at hc
 rw [List.all_eq_true] at hc
 exact ⟨m, rfl, hm, hl, (insN_iff hm hg).1 ig, fun r h => (insN_iff hm (hr r h)).1 (ir r h), fun r h => by simpa using hc r h⟩
theorem canon_good {m g : Nat} {rows : List Nat} (hm : m ≤ 64) (hl : rows.length = m) (hg : g < 2 ^ m) (hr : ∀ r ∈ rows, r < 2 ^ m) : Good m g (canonL g rows) where
 hm := hm
 hl := by rw [canonL_length, hl]
 hg := hg
 hr := fun r h => by
  obtain ⟨x, hx, rfl⟩ := List.mem_map.1 h
  exact Nat.lt_of_le_of_lt Nat.and_le_left (hr x hx)
 hc := fun r h => by
  obtain ⟨x, hx, rfl⟩ := List.mem_map.1 h
  have h1 := Nat.lt_of_lt_of_le (hr x hx) (pow_le64 hm)
  have h2 := Nat.lt_of_lt_of_le hg (pow_le64 hm)
  apply Nat.eq_of_testBit_eq
  intro j
  rw [Nat.testBit_and, andn_bit h1 h2, Nat.zero_testBit]
  cases x.testBit j <;> cases g.testBit j <;> rfl
theorem acc_small {m : Nat} {rows : List Nat} (hr : ∀ r ∈ rows, r < 2 ^ m) : ∀ (l : List Nat) (g : Nat), g < 2 ^ m → accF rows g l < 2 ^ m
 | [], g, h => h
 | x :: l, g, h => by
  have : rows.getD x 0 < 2 ^ m := by
   rw [List.getD_eq_getElem?_getD]
   cases hx : rows[x]? with
   | none => exact Nat.two_pow_pos m
   | some y => exact hr y (List.mem_of_getElem? hx)
  exact acc_small hr l _ (Nat.or_lt_two_pow h this)
theorem Good.made {m g : Nat} {rows : List Nat} (h : Good m g rows) (s : Nat) : madeF g rows s < 2 ^ m := acc_small h.hr _ _ h.hg
theorem Good.comb {m ga gb : Nat} {xs ys : List Nat} (ha : Good m ga xs) (hb : Good m gb ys) : Good m (ga ||| gb) (canonL (ga ||| gb) (orL xs ys)) :=
 canon_good ha.hm (by rw [orL_len (by rw [ha.hl, hb.hl]), ha.hl]) (Nat.or_lt_two_pow ha.hg hb.hg) (fun r hr => by
  obtain ⟨i, hi⟩ := List.getElem?_of_mem hr
  unfold orL at hi
  rw [List.getElem?_zipWith] at hi
  cases h1 : xs[i]? with
  | none => rw [h1] at hi; simp at hi
  | some a =>
   cases h2 : ys[i]? with
   | none => rw [h1, h2] at hi; simp at hi
   | some b =>
    rw [h1, h2] at hi
    have : a ||| b = r := by simpa using hi
    rw [← this]
    exact Nat.or_lt_two_pow (ha.hr a (List.mem_of_getElem? h1)) (hb.hr b (List.mem_of_getElem? h2)))
theorem Good.ext {m ga gb : Nat} {xs ys : List Nat} (ha : Good m ga xs) (hb : Good m gb ys) : Good m (madeF gb ys ga) (canonL (madeF gb ys ga) (xs.map (madeF gb ys))) :=
 canon_good ha.hm (by rw [List.length_map, ha.hl]) (hb.made ga) (fun r hr => by
  obtain ⟨x, _, rfl⟩ := List.mem_map.1 hr
  exact hb.made x)
theorem both_good {m ga gb : Nat} {xs ys : List Nat} (ha : Good m ga xs) (hb : Good m gb ys) : bothE m ga xs gb ys = 0 := by
 rw [bothE, if_pos (good_check ha)]; exact good_check hb
theorem combG_good {m ga gb : Nat} {xs ys : List Nat} (ha : Good m ga xs) (hb : Good m gb ys) : combG m ga xs gb ys = ga ||| gb := by rw [combG, if_pos (both_good ha hb)]
theorem combV_good {m ga gb : Nat} {xs ys : List Nat} (ha : Good m ga xs) (hb : Good m gb ys) : combV m ga xs gb ys = canonL (ga ||| gb) (orL xs ys) := by rw [combV, if_pos (both_good ha hb)]
theorem extG_good {m ga gb : Nat} {xs ys : List Nat} (ha : Good m ga xs) (hb : Good m gb ys) : extG m ga xs gb ys = madeF gb ys ga := by rw [extG, if_pos (both_good ha hb)]
theorem extV_good {m ga gb : Nat} {xs ys : List Nat} (ha : Good m ga xs) (hb : Good m gb ys) : extV m ga xs gb ys = canonL (madeF gb ys ga) (xs.map (madeF gb ys)) := by rw [extV, if_pos (both_good ha hb)]
theorem Good.combT {m ga gb : Nat} {xs ys : List Nat} (ha : Good m ga xs) (hb : Good m gb ys) : Good m (combG m ga xs gb ys) (combV m ga xs gb ys) := by rw [combG_good ha hb, combV_good ha hb]; exact ha.comb hb
theorem Good.extT {m ga gb : Nat} {xs ys : List Nat} (ha : Good m ga xs) (hb : Good m gb ys) : Good m (extG m ga xs gb ys) (extV m ga xs gb ys) := by rw [extG_good ha hb, extV_good ha hb]; exact ha.ext hb
theorem made_ext {m ga gb : Nat} {xs ys : List Nat} (ha : Good m ga xs) (hb : Good m gb ys) (s : Nat) : madeF (extG m ga xs gb ys) (extV m ga xs gb ys) s = madeF gb ys (madeF ga xs s) := by
 rw [extG_good ha hb, extV_good ha hb, made_canon (madeF_lt hb.r64 hb.g64) (fun r hr => by obtain ⟨x, _, rfl⟩ := List.mem_map.1 hr; exact madeF_lt hb.r64 hb.g64), made_then]
theorem made_zero (g : Nat) (rows : List Nat) : madeF g rows 0 = g := by rw [madeF, mem_zero]; rfl
theorem made_one {m g : Nat} {rows : List Nat} (h : Good m g rows) {i r : Nat} (hi : rows[i]? = some r) : madeF g rows (2 ^ i) = g ||| r := by
 have hil := (List.getElem?_eq_some_iff.1 hi).1
 have hi64 : i < 64 := by have := h.hl; have := h.hm; omega
 apply bit_ext; intro j
 rw [made_bit, Nat.testBit_or, Bool.or_eq_true]
 constructor
 ·rintro (h1 | ⟨k, ⟨hk, h2⟩, h3⟩)
  ·exact .inl h1
  ·rw [Nat.testBit_two_pow] at h2
   have e : i = k := by simpa using h2
   subst e
   rw [List.getD_eq_getElem?_getD, hi] at h3
   exact .inr h3
 ·rintro (h1 | h1)
  ·exact .inl h1
  ·exact .inr ⟨i, ⟨hi64, by rw [Nat.testBit_two_pow]; simp⟩, by rw [List.getD_eq_getElem?_getD, hi]; exact h1⟩
theorem good_ext {m g h : Nat} {xs ys : List Nat} (hx : Good m g xs) (hy : Good m h ys) (e : ∀ s, madeF g xs s = madeF h ys s) : g = h ∧ xs = ys := by
 have e0 := e 0
 rw [made_zero, made_zero] at e0
 subst e0
 refine ⟨rfl, list_eq_of (by rw [hx.hl, hy.hl]) fun i x y hi hj => ?_⟩
 have e1 := e (2 ^ i)
 rw [made_one hx hi, made_one hy hj] at e1
 have c1 := hx.hc x (List.mem_of_getElem? hi)
 have c2 := hy.hc y (List.mem_of_getElem? hj)
 apply Nat.eq_of_testBit_eq
 intro j
 have b1 := congrArg (fun n => n.testBit j) e1
 have b2 := congrArg (fun n => n.testBit j) c1
 have b3 := congrArg (fun n => n.testBit j) c2
 simp only [Nat.testBit_or, Nat.testBit_and, Nat.zero_testBit] at b1 b2 b3
 cases h1 : x.testBit j <;> cases h2 : y.testBit j <;> cases h3 : g.testBit j <;> simp_all
end Go.Proofs.Ytpkcaabbcoiiiaa
namespace Go.Proofs.Ytpkcaabbcoiiiaa
open Go.RowKit
theorem ones_bit {m i j : Nat} : ((onesL m).getD i 0).testBit j = true ↔ i < m ∧ i = j := by
 rw [List.getD_eq_getElem?_getD]
 rcases Nat.lt_or_ge i m with h | h
 ·rw [onesL_at h]
  simp only [Option.getD_some, Nat.testBit_two_pow, decide_eq_true_eq]
  exact ⟨fun e => ⟨h, e⟩, fun e => e.2⟩
 ·rw [List.getElem?_eq_none (by rw [onesL_length]; exact h)]
  simp only [Option.getD_none, Nat.zero_testBit]
  exact ⟨fun e => (Bool.false_ne_true e).elim, fun e => (by omega)⟩
theorem made_ones {m s : Nat} (hm : m ≤ 64) (hs : s < 2 ^ m) : madeF 0 (onesL m) s = s := by
 apply bit_ext; intro j
 rw [made_bit]
 simp only [ones_bit, Nat.zero_testBit]
 constructor
 ·rintro (h | ⟨i, ⟨_, h2⟩, _, rfl⟩)
  ·cases h
  ·exact h2
 ·intro h
  have hj : j < m := by
   rcases Nat.lt_or_ge j m with h1 | h1
   ·exact h1
   ·rw [Nat.testBit_lt_two_pow (Nat.lt_of_lt_of_le hs (Nat.pow_le_pow_right (by omega) h1))] at h; cases h
  exact .inr ⟨j, ⟨by omega, h⟩, hj, rfl⟩
theorem ones_good {m : Nat} (hm : m ≤ 64) : Good m 0 (onesL m) where
 hm := hm
 hl := onesL_length m
 hg := Nat.two_pow_pos m
 hr := fun r hr => by
  obtain ⟨i, hi, rfl⟩ := List.mem_map.1 hr
  exact Nat.pow_lt_pow_right (by omega) (List.mem_range.1 hi)
 hc := fun r _ => Nat.and_zero r
theorem one_good {m : Nat} (hm : m ≤ 64) : oneE m = 0 ∧ oneV m = onesL m := by
 have hd : dimB m = true := by simp [dimB]; omega
 exact ⟨by rw [oneE, if_pos hd], by rw [oneV, if_pos hd, Int.toNat_natCast]⟩
section
variable {m ga gb gc : Nat} {xs ys zs : List Nat}
theorem mem_cut {m s : Nat} (hm : m ≤ 64) (g : Nat) (rows : List Nat) (hl : rows.length = m) : madeF g rows s = madeF g rows (s % 2 ^ m) := by
 apply bit_ext; intro j
 rw [made_bit, made_bit]
 constructor
 ·rintro (h | ⟨i, ⟨hi, h2⟩, h3⟩)
  ·exact .inl h
  ·have him : i < m := by
    rcases Nat.lt_or_ge i m with h1 | h1
    ·exact h1
    ·rw [List.getD_eq_getElem?_getD, List.getElem?_eq_none (by omega)] at h3; simp at h3
   exact .inr ⟨i, ⟨hi, by rw [Nat.testBit_mod_two_pow]; simp [him, h2]⟩, h3⟩
 ·rintro (h | ⟨i, ⟨hi, h2⟩, h3⟩)
  ·exact .inl h
  ·rw [Nat.testBit_mod_two_pow, Bool.and_eq_true] at h2
   exact .inr ⟨i, ⟨hi, h2.2⟩, h3⟩
theorem ring_oneL (a : Good m ga xs) : extG m 0 (onesL m) ga xs = ga ∧ extV m 0 (onesL m) ga xs = xs :=
 good_ext ((ones_good a.hm).extT a) a fun s => by
  rw [made_ext (ones_good a.hm) a, mem_cut a.hm 0 (onesL m) (onesL_length m), made_ones a.hm (Nat.mod_lt _ (Nat.two_pow_pos m)), ← mem_cut a.hm ga xs a.hl]
end
end Go.Proofs.Ytpkcaabbcoiiiaa
