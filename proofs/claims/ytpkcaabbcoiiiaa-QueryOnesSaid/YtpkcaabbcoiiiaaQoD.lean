import Derived.Orders
import Derived.Below
import Derived.Deep.RegionHeld
import Derived.WalkKit
import Derived.KernelRfl
import Derived.Laws.Rows
import Derived.Laws.AppendOwn
import Derived.Laws.Strings
import Derived.Laws.Small
import Derived.Lib.Hide
import Derived.IntWalk
import Derived.Laws.Tables
import Derived.Laws.Concat
import Derived.Laws.MakeOwn
import Derived.Test.YtpkcaabbcoiiiaaProg
import Derived.Lib.TrailingZeros
import Derived.Test.YtpkcaabbcoiiiaaRows
import Derived.Lib.LaidTab
import Derived.Lib.ItoaNum
import Derived.Stop.LaidErr
import Derived.WalkSmall
import Derived.LaidMore
import Derived.Shelf.Spec.TrailingZeros
import Derived.Laws.BitsAllLaws
import Derived.Laws.Bits64
import Derived.Deep.QuietTactic
import Derived.BigQuiet
import Derived.RegionTactic
import Derived.BigRegion
import Derived.Deep.RegionHeld3
import Derived.ChangeAlike
import Derived.RangeFuncNested
import Derived.RangeFuncBound
import Derived.RangeFuncCalls
import Derived.RangeFuncLeaves
import Derived.Shelf.Abstract
import Derived.Shelf.RegionOpen
import Derived.OwnWalkIn
import Derived.TacticsInMore
import Derived.LoopNIn
import Derived.LoopIn
import Derived.Laws.Bits128
import Derived.Deep.AppendLies
import Derived.Maps.AppendAt
import Derived.Sort.Grow
import Derived.Ground.Names2Prog
import Derived.Shelf.Slices.Clone
import Derived.Lib.OthersKept
import Derived.Laws.IdiomStrings
import Derived.StillTailTactics
import Derived.Deep.RegionLaw
import Derived.Deep.DeepCutAuto
import Derived.Deep.CutRange
import Derived.Deep.RegionWith
import Derived.Laws.Bits64b
import Derived.Deep.DrawnRows
import Derived.Lib.SliceRun
import Derived.Laws.OwnMore
import Derived.OwnWalk
import Derived.WalkSpells
import Derived.Lib.Join
import Derived.Lib.OwnBridge
import Derived.WideKeyEntry
import Derived.DeepKeys4
import Derived.Lib.AppendZeros
import Derived.Lib.ItoaLen
import Derived.Lib.UnsafeStr
import Derived.Lib.AppendIntMem
import Derived.Test.YtpkcaabbcoiiiaaQoA
import Derived.Test.YtpkcaabbcoiiiaaQoB
import Derived.Test.YtpkcaabbcoiiiaaQoC
set_option maxRecDepth 100000
set_option maxHeartbeats 4000000
set_option linter.unusedVariables false
set_option linter.unusedVariables false
set_option linter.unusedSimpArgs false
set_option linter.unusedSectionVars false
set_option linter.unnecessarySimpa false
namespace Go.Proofs.Ytpkcaabbcoiiiaa
open Go Go.RowKit
theorem confA_c (P0 : PV) (p : Int) (wa : Option Addr) (wl wc : Nat) (ws : List Int) (w : World) (hrow : Row w wa ws) (hlen : ws.length = wl) :
  Calls Try.prog 74 #[P0.val, .agg #[.int .i64 p, .slice wa wl wc]] w (fun e w' => e = .returned (.bool (confB P0 ⟨p, wa, wl, wc, ws⟩)) ∧ Below w.heap.size w w') := by
 refine enterF (args := [P0.val, .agg #[.int .i64 p, .slice wa wl wc]]) Try.func74 rfl Try.ntmps74 rfl ?_
 have hS := St.start w
 refine seqF (regF ?_)
 refine op_box (cs := [_, _, _, _, _, _]) hS rfl rfl rfl ?_
 clear hS; intro B1 W1 hS
 refine op_box (cs := [_, _]) hS rfl rfl rfl ?_
 clear hS; intro B2 W2 hS
 refine op_assign rfl rfl ?_
 refine endF (XF.thenN ?_)
 refine seqF ?_
 refine seqF (regF ?_)
 refine op_field (o' := 0) fa_49_0 rfl rfl rfl ?_
 refine op_load Try.isAgg3 rfl (cell_own (hS.at_ 0 rfl) rfl) rfl ?_
 refine op_lss rfl rfl rfl ?_
 refine op_move rfl rfl ?_
 refine op_cases (d := 10) rfl (fun hc => ?_) (fun hc => ?_)
 ·have hg10 := of_decide_eq_true hc; clear hc
  have e1 : inQ p P0.st = false := by simp [inQ]; omega
  iterate 5 refine op_notF (d := 10) rfl rfl rfl rfl ?_
  refine op_pickT rfl rfl rfl ?_
  refine op_move rfl rfl ?_
  iterate 4 refine op_notF (d := 17) rfl rfl rfl rfl ?_
  refine op_pickT rfl rfl rfl ?_
  refine endF (XF.thenN ?_)
  refine condT rfl ?_
  refine seqF (regF ?_)
  refine op_assign rfl rfl ?_
  refine endF (XF.thenN ?_)
  refine retF ?_
  refine XF.thenR ?_
  refine XF.res (res1 Try.results74 rfl) ?_
  exact ⟨rbool (by simp [confB, e1]), hS.below⟩
 ·have hg10 := of_decide_eq_false hc; clear hc
  refine op_wantedF (d := 10) rfl rfl ?_
  refine op_field (o' := 0) fa_49_0 rfl rfl rfl ?_
  refine op_wantedF (d := 10) rfl rfl ?_
  refine op_load Try.isAgg3 rfl (cell_own (hS.at_ 0 rfl) rfl) rfl ?_
  refine op_wantedF (d := 10) rfl rfl ?_
  refine op_field (o' := 3) fa_28_1 rfl rfl rfl ?_
  refine op_wantedF (d := 10) rfl rfl ?_
  refine op_load Try.isAgg3 rfl (cell_own (hS.at_ 1 rfl) rfl) rfl ?_
  refine op_wantedF (d := 10) rfl rfl ?_
  refine op_geq rfl rfl rfl ?_
  refine op_pickF rfl rfl rfl ?_
  refine op_move rfl rfl ?_
  refine op_cases (d := 17) rfl (fun hc => ?_) (fun hc => ?_)
  ·have hg17 := of_decide_eq_true hc; clear hc
   have e1 : inQ p P0.st = false := by simp [inQ]; omega
   iterate 4 refine op_notF (d := 17) rfl rfl rfl rfl ?_
   refine op_pickT rfl rfl rfl ?_
   refine endF (XF.thenN ?_)
   refine condT rfl ?_
   refine seqF (regF ?_)
   refine op_assign rfl rfl ?_
   refine endF (XF.thenN ?_)
   refine retF ?_
   refine XF.thenR ?_
   refine XF.res (res1 Try.results74 rfl) ?_
   exact ⟨rbool (by simp [confB, e1]), hS.below⟩
  ·have hg17 := of_decide_eq_false hc; clear hc
   have e1 : inQ p P0.st = true := by simp [inQ]; omega
   refine op_wantedF (d := 17) rfl rfl ?_
   refine op_field (o' := 1) fa_49_1 rfl rfl rfl ?_
   refine op_wantedF (d := 17) rfl rfl ?_
   refine op_load Try.isAgg29 rfl (cell_own (hS.at_ 0 rfl) rfl) rfl ?_
   refine op_wantedF (d := 17) rfl rfl ?_
   refine op_len Try.underlying29 rfl rfl ?_
   refine op_wantedF (d := 17) rfl rfl ?_
   refine op_gtr rfl rfl rfl ?_
   refine op_pickF rfl rfl rfl ?_
   refine endF (XF.thenN ?_)
   refine condF rfl (fun hc => ?_) (fun hc => ?_)
   ·have hc22 := of_decide_eq_true hc; clear hc
    have e4 : decide (wl ≤ 4096) = false := by simp; omega
    refine seqF (regF ?_)
    refine op_assign rfl rfl ?_
    refine endF (XF.thenN ?_)
    refine retF ?_
    refine XF.thenR ?_
    refine XF.res (res1 Try.results74 rfl) ?_
    exact ⟨rbool (by simp [confB, e4]), hS.below⟩
   ·have hc22 := of_decide_eq_false hc; clear hc
    have e4 : decide (wl ≤ 4096) = true := by simp; omega
    refine skipF ?_
    refine XF.thenN ?_
    refine seqF ?_
    refine seqF (regF ?_)
    refine op_field (o' := 1) fa_49_1 rfl rfl rfl ?_
    refine op_load Try.isAgg29 rfl (cell_own (hS.at_ 0 rfl) rfl) rfl ?_
    refine op_len Try.underlying29 rfl rfl ?_
    refine op_move rfl rfl ?_
    refine endF (XF.thenN ?_)
    refine blockF ?_
    refine loopF (fun m l W => ∃ i : Nat, i ≤ wl ∧ m = wl - i ∧ l = [(2, .pointer (some ⟨B1, 0, none⟩)), (24, .slice wa wl wc), (25, .int .i64 (wl : Int)), (26, .int .i64 (i : Int))] ∧ (ws.take i).all (fun y => inQ y P0.sy) = true ∧ St w [(B2, [.int .i64 p, .slice wa wl wc], 49), (B1, P0.six, 28)] [] [] W) (wl - 0) ([(2, _), (24, _), (25, _), (26, _)]) ⟨rfl, rfl, rfl, rfl, trivial⟩ (⟨0, Nat.zero_le _, rfl, rfl, rfl, hS.clear⟩) ?_
    clear hS
    rintro m l W ⟨i, hi, rfl, rfl, hall, hS⟩
    refine seqF (regF ?_)
    refine op_lss rfl rfl rfl ?_
    refine endF (XF.thenN ?_)
    refine seqF ?_
    refine condF rfl (fun hc => ?_) (fun hc => ?_)
    ·have hc27 := of_decide_eq_true hc; clear hc
     have hk : i < wl := by omega
     obtain ⟨b, off, y, rfl, hy, hyc⟩ := hrow.at1 (show i < ws.length by omega)
     have k1 := hS.old hyc
     refine skipF ?_
     refine XF.thenN ?_
     refine seqF ?_
     refine blockF ?_
     refine seqF (regF ?_)
     refine op_indexA  Try.underlying29 Try.sizeOf3 rfl rfl rfl (by omega) rfl rfl ?_
     refine op_load Try.isAgg3 rfl (by first | assumption | exact hS.old (by assumption)) rfl ?_
     refine op_assign rfl rfl ?_
     refine endF (XF.thenN ?_)
     refine seqF (regF ?_)
     refine op_move rfl rfl ?_
     refine op_lss rfl rfl rfl ?_
     refine op_move rfl rfl ?_
     refine op_cases (d := 32) rfl (fun hc => ?_) (fun hc => ?_)
     ·have hg32 := of_decide_eq_true hc; clear hc
      have e5 : inQ y P0.sy = false := by simp [inQ]; omega
      iterate 4 refine op_notF (d := 32) rfl rfl rfl rfl ?_
      refine op_pickT rfl rfl rfl ?_
      refine endF (XF.thenN ?_)
      refine condT rfl ?_
      refine seqF (regF ?_)
      refine op_assign rfl rfl ?_
      refine endF (XF.thenN ?_)
      refine retF ?_
      refine XF.blkR ?_
      iterate 2 refine XF.thenR ?_
      refine XF.blkR ?_
      refine XF.thenR ?_
      refine XF.res (res1 Try.results74 rfl) ?_
      exact ⟨rbool (by simp only [confB]; rw [all_false_at hy e5]; simp), hS.below⟩
     ·have hg32 := of_decide_eq_false hc; clear hc
      refine op_wantedF (d := 32) rfl rfl ?_
      refine op_move rfl rfl ?_
      refine op_wantedF (d := 32) rfl rfl ?_
      refine op_field (o' := 4) fa_28_2 rfl rfl rfl ?_
      refine op_wantedF (d := 32) rfl rfl ?_
      refine op_load Try.isAgg3 rfl (cell_own (hS.at_ 1 rfl) rfl) rfl ?_
      refine op_wantedF (d := 32) rfl rfl ?_
      refine op_geq rfl rfl rfl ?_
      refine op_pickF rfl rfl rfl ?_
      refine endF (XF.thenN ?_)
      refine condF rfl (fun hc => ?_) (fun hc => ?_)
      ·have hc37 := of_decide_eq_true hc; clear hc
       have e5 : inQ y P0.sy = false := by simp [inQ]; omega
       refine seqF (regF ?_)
       refine op_assign rfl rfl ?_
       refine endF (XF.thenN ?_)
       refine retF ?_
       refine XF.blkR ?_
       iterate 2 refine XF.thenR ?_
       refine XF.blkR ?_
       refine XF.thenR ?_
       refine XF.res (res1 Try.results74 rfl) ?_
       exact ⟨rbool (by simp only [confB]; rw [all_false_at hy e5]; simp), hS.below⟩
      ·have hc37 := of_decide_eq_false hc; clear hc
       have e5 : inQ y P0.sy = true := by simp [inQ]; omega
       refine skipF ?_
       refine XF.blkN ?_
       refine XF.thenN ?_
       refine regF ?_
       refine op_add rfl rfl (IntWalk.i64_in _ (by omega)) rfl ?_
       refine op_move rfl rfl ?_
       refine endF ?_
       exact XF.round (wl - (i + 1)) [(2, _), (24, _), (25, _), (26, _)] (by omega) ⟨rfl, rfl, rfl, rfl, trivial⟩ ⟨i + 1, by omega, rfl, rfl, all_take_at hy hall e5, hS.clear⟩
    ·have hc27 := of_decide_eq_false hc; clear hc
     refine exitF ?_
     iterate 2 refine XF.thenX ?_
     refine XF.blkX ?_
     refine XF.thenN ?_
     refine seqF (regF ?_)
     refine op_assign rfl rfl ?_
     refine endF (XF.thenN ?_)
     refine retF ?_
     refine XF.res (res1 Try.results74 rfl) ?_
     rw [List.take_of_length_le (by omega)] at hall
     exact ⟨rbool (by simp [confB, e1, e4, hall]), hS.below⟩
theorem confA_is (p : PV) (c : CV) (w : World) (h : CIn w c) : Calls Try.prog 74 #[p.val, c.val] w (fun e w' => e = .returned (.bool (confB p c)) ∧ Below w.heap.size w w') := confA_c p _ _ _ _ _ w h.row h.len
theorem stepA_is (ds d : Nat) (p : PV) (c : CV) (w : World) (hp : PvIn w ds d p) (hcf : CIn w c) :
  Calls Try.prog 45 #[p.val, c.val] w (fun e w' => e = .returned (.int .i64 (stepE p c)) ∧ Below w.heap.size w w') := by
 refine enterF (args := [p.val, c.val]) Try.func45 rfl Try.ntmps45 rfl ?_
 have hS := St.start w
 refine seqF (regF ?_)
 refine op_box (cs := [_, _, _, _, _, _]) hS rfl rfl rfl ?_
 clear hS; intro B1 W1 hS
 refine op_box (cs := [_, _]) hS rfl rfl rfl ?_
 clear hS; intro B2 W2 hS
 refine op_assign rfl rfl ?_
 refine endF (XF.thenN ?_)
 refine seqF ?_
 refine seqF (regF ?_)
 refine op_loadA (vs := [_, _, _, _, _, _]) Try.isAgg28 Try.sizeOf28 rfl (CellsAt.own (j := 0) (m := 6) (hS.at_ 1 rfl) rfl) rfl ?_
 refine op_call (vs := [_]) hS goes_30 rfl (pdsA_is ds d p _ (hp.below hS.below)) rfl ?_
 rintro e W3 ⟨rfl, hb⟩
 refine ⟨_, rfl, hb, fun hS' => ?_⟩
 clear hS; have hS := hS'; clear hS' hb
 refine op_assign rfl rfl ?_
 refine endF (XF.thenN ?_)
 refine seqF (regF ?_)
 refine op_move rfl rfl ?_
 refine op_neq rfl rfl rfl ?_
 refine endF (XF.thenN ?_)
 refine condF rfl (fun hc => ?_) (fun hc => ?_)
 ·have hc9 := of_decide_eq_true hc; clear hc
  refine seqF (regF ?_)
  refine op_move rfl rfl ?_
  refine op_assign rfl rfl ?_
  refine endF (XF.thenN ?_)
  refine retF ?_
  refine XF.thenR ?_
  refine XF.res (res1 Try.results45 rfl) ?_
  exact ⟨rint (by simp only [stepE]; rw [if_pos hc9]), hS.below⟩
 ·have hc9 := of_decide_eq_false hc; clear hc
  refine skipF ?_
  refine XF.thenN ?_
  refine seqF ?_
  refine seqF (regF ?_)
  refine op_loadA (vs := [_, _, _, _, _, _]) Try.isAgg28 Try.sizeOf28 rfl (CellsAt.own (j := 0) (m := 6) (hS.at_ 1 rfl) rfl) rfl ?_
  refine op_loadA (vs := [_, _]) Try.isAgg49 Try.sizeOf49 rfl (CellsAt.own (j := 0) (m := 2) (hS.at_ 0 rfl) rfl) rfl ?_
  refine op_call (vs := [_, _]) hS goes_74 rfl (confA_is p c _ (hcf.below hS.below)) rfl ?_
  rintro e W4 ⟨rfl, hb⟩
  refine ⟨_, rfl, hb, fun hS' => ?_⟩
  clear hS; have hS := hS'; clear hS' hb
  refine op_not rfl rfl ?_
  refine endF (XF.thenN ?_)
  refine condF rfl (fun hc => ?_) (fun hc => ?_)
  ·have hc14 := hc; clear hc
   refine seqF (regF ?_)
   refine op_assign rfl rfl ?_
   refine endF (XF.thenN ?_)
   refine retF ?_
   refine XF.thenR ?_
   refine XF.res (res1 Try.results45 rfl) ?_
   exact ⟨rint (by simp only [stepE]; rw [if_neg hc9, if_neg (by simpa using hc14)]), hS.below⟩
  ·have hc14 := hc; clear hc
   refine skipF ?_
   refine XF.thenN ?_
   refine seqF (regF ?_)
   refine op_assign rfl rfl ?_
   refine endF (XF.thenN ?_)
   refine retF ?_
   refine XF.res (res1 Try.results45 rfl) ?_
   exact ⟨rint (by simp only [stepE]; rw [if_neg hc9, if_pos (by simpa using hc14)]), hS.below⟩
theorem stepR_c (ds d : Nat) (P0 : PV) (p : Int) (wa : Option Addr) (wl wc : Nat) (ws : List Int) (w : World) (hp : PvIn w ds d P0) (hrow : Row w wa ws) (hlen : ws.length = wl) :
  Calls Try.prog 21 #[P0.val, .agg #[.int .i64 p, .slice wa wl wc]] w (fun e w' => e = .returned (.int .i64 (stepE P0 ⟨p, wa, wl, wc, ws⟩)) ∧ Below w.heap.size w w') := by
 refine enterF (args := [P0.val, .agg #[.int .i64 p, .slice wa wl wc]]) Try.func21 rfl Try.ntmps21 rfl ?_
 have hS := St.start w
 refine seqF (regF ?_)
 refine op_box (cs := [_, _, _, _, _, _]) hS rfl rfl rfl ?_
 clear hS; intro B1 W1 hS
 refine op_box (cs := [_, _]) hS rfl rfl rfl ?_
 clear hS; intro B2 W2 hS
 refine op_assign rfl rfl ?_
 refine endF (XF.thenN ?_)
 refine seqF (regF ?_)
 refine op_loadA (vs := [_, _, _, _, _, _]) Try.isAgg28 Try.sizeOf28 rfl (CellsAt.own (j := 0) (m := 6) (hS.at_ 1 rfl) rfl) rfl ?_
 refine op_call (vs := [_]) hS goes_41 rfl (pdsR_is ds d P0 _ (hp.below hS.below)) rfl ?_
 rintro e W3 ⟨rfl, hb⟩
 refine ⟨_, rfl, hb, fun hS' => ?_⟩
 clear hS; have hS := hS'; clear hS' hb
 refine op_assign rfl rfl ?_
 refine endF (XF.thenN ?_)
 refine seqF ?_
 refine seqF (regF ?_)
 refine op_move rfl rfl ?_
 refine op_neq rfl rfl rfl ?_
 refine endF (XF.thenN ?_)
 refine condF rfl (fun hc => ?_) (fun hc => ?_)
 ·have hc10 := of_decide_eq_true hc; clear hc
  refine seqF (regF ?_)
  refine op_move rfl rfl ?_
  refine op_assign rfl rfl ?_
  refine endF (XF.thenN ?_)
  refine retF ?_
  refine XF.thenR ?_
  refine XF.res (res1 Try.results21 rfl) ?_
  exact ⟨rint (by simp only [stepE]; rw [if_pos hc10]), hS.below⟩
 ·have hc10 := of_decide_eq_false hc; clear hc
  refine skipF ?_
  refine XF.thenN ?_
  refine seqF ?_
  refine seqF (regF ?_)
  refine op_field (o' := 0) fa_49_0 rfl rfl rfl ?_
  refine op_load Try.isAgg3 rfl (cell_own (hS.at_ 0 rfl) rfl) rfl ?_
  refine op_lss rfl rfl rfl ?_
  refine op_move rfl rfl ?_
  refine op_cases (d := 15) rfl (fun hc => ?_) (fun hc => ?_)
  ·have hg15 := of_decide_eq_true hc; clear hc
   have e1 : inQ p P0.st = false := by simp [inQ]; omega
   iterate 5 refine op_notF (d := 15) rfl rfl rfl rfl ?_
   refine op_pickT rfl rfl rfl ?_
   refine op_move rfl rfl ?_
   iterate 4 refine op_notF (d := 22) rfl rfl rfl rfl ?_
   refine op_pickT rfl rfl rfl ?_
   refine endF (XF.thenN ?_)
   refine condT rfl ?_
   refine seqF (regF ?_)
   refine op_assign rfl rfl ?_
   refine endF (XF.thenN ?_)
   refine retF ?_
   refine XF.thenR ?_
   refine XF.res (res1 Try.results21 rfl) ?_
   exact ⟨rint (by simp only [stepE]; rw [if_neg hc10, if_neg (by simp [confB, e1])]), hS.below⟩
  ·have hg15 := of_decide_eq_false hc; clear hc
   refine op_wantedF (d := 15) rfl rfl ?_
   refine op_field (o' := 0) fa_49_0 rfl rfl rfl ?_
   refine op_wantedF (d := 15) rfl rfl ?_
   refine op_load Try.isAgg3 rfl (cell_own (hS.at_ 0 rfl) rfl) rfl ?_
   refine op_wantedF (d := 15) rfl rfl ?_
   refine op_field (o' := 3) fa_28_1 rfl rfl rfl ?_
   refine op_wantedF (d := 15) rfl rfl ?_
   refine op_load Try.isAgg3 rfl (cell_own (hS.at_ 1 rfl) rfl) rfl ?_
   refine op_wantedF (d := 15) rfl rfl ?_
   refine op_geq rfl rfl rfl ?_
   refine op_pickF rfl rfl rfl ?_
   refine op_move rfl rfl ?_
   refine op_cases (d := 22) rfl (fun hc => ?_) (fun hc => ?_)
   ·have hg22 := of_decide_eq_true hc; clear hc
    have e1 : inQ p P0.st = false := by simp [inQ]; omega
    iterate 4 refine op_notF (d := 22) rfl rfl rfl rfl ?_
    refine op_pickT rfl rfl rfl ?_
    refine endF (XF.thenN ?_)
    refine condT rfl ?_
    refine seqF (regF ?_)
    refine op_assign rfl rfl ?_
    refine endF (XF.thenN ?_)
    refine retF ?_
    refine XF.thenR ?_
    refine XF.res (res1 Try.results21 rfl) ?_
    exact ⟨rint (by simp only [stepE]; rw [if_neg hc10, if_neg (by simp [confB, e1])]), hS.below⟩
   ·have hg22 := of_decide_eq_false hc; clear hc
    have e1 : inQ p P0.st = true := by simp [inQ]; omega
    refine op_wantedF (d := 22) rfl rfl ?_
    refine op_field (o' := 1) fa_49_1 rfl rfl rfl ?_
    refine op_wantedF (d := 22) rfl rfl ?_
    refine op_load Try.isAgg29 rfl (cell_own (hS.at_ 0 rfl) rfl) rfl ?_
    refine op_wantedF (d := 22) rfl rfl ?_
    refine op_len Try.underlying29 rfl rfl ?_
    refine op_wantedF (d := 22) rfl rfl ?_
    refine op_gtr rfl rfl rfl ?_
    refine op_pickF rfl rfl rfl ?_
    refine endF (XF.thenN ?_)
    refine condF rfl (fun hc => ?_) (fun hc => ?_)
    ·have hc27 := of_decide_eq_true hc; clear hc
     have e4 : decide (wl ≤ 4096) = false := by simp; omega
     refine seqF (regF ?_)
     refine op_assign rfl rfl ?_
     refine endF (XF.thenN ?_)
     refine retF ?_
     refine XF.thenR ?_
     refine XF.res (res1 Try.results21 rfl) ?_
     exact ⟨rint (by simp only [stepE]; rw [if_neg hc10, if_neg (by simp [confB, e4])]), hS.below⟩
    ·have hc27 := of_decide_eq_false hc; clear hc
     have e4 : decide (wl ≤ 4096) = true := by simp; omega
     refine skipF ?_
     refine XF.thenN ?_
     refine seqF ?_
     refine seqF (regF ?_)
     refine op_assign rfl rfl ?_
     refine endF (XF.thenN ?_)
     refine blockF ?_
     refine loopF (fun m l W => ∃ i : Nat, i ≤ wl ∧ m = wl - i ∧ l = [(2, .pointer (some ⟨B1, 0, none⟩)), (3, .pointer (some ⟨B2, 0, none⟩)), (6, .int .i64 (i : Int))] ∧ (ws.take i).all (fun y => inQ y P0.sy) = true ∧ St w [(B2, [.int .i64 p, .slice wa wl wc], 49), (B1, P0.six, 28)] [] [] W) (wl - 0) ([(2, _), (3, _), (6, _)]) ⟨rfl, rfl, rfl, trivial⟩ (⟨0, Nat.zero_le _, rfl, rfl, rfl, hS.clear⟩) ?_
     clear hS
     rintro m l W ⟨i, hi, rfl, rfl, hall, hS⟩
     refine seqF ?_
     refine seqF (regF ?_)
     refine op_move rfl rfl ?_
     refine op_field (o' := 1) fa_49_1 rfl rfl rfl ?_
     refine op_load Try.isAgg29 rfl (cell_own (hS.at_ 0 rfl) rfl) rfl ?_
     refine op_len Try.underlying29 rfl rfl ?_
     refine op_lss rfl rfl rfl ?_
     refine endF (XF.thenN ?_)
     refine condF rfl (fun hc => ?_) (fun hc => ?_)
     ·have hc32 := of_decide_eq_true hc; clear hc
      have hk : i < wl := by omega
      obtain ⟨b, off, y, rfl, hy, hyc⟩ := hrow.at1 (show i < ws.length by omega)
      have k1 := hS.old hyc
      refine skipF ?_
      refine XF.thenN ?_
      refine seqF ?_
      refine blockF ?_
      refine seqF ?_
      by_cases hy0 : y < 0
      ·have e5 : inQ y P0.sy = false := by simp [inQ]; omega
       refine regB (m := 16) followsM hS (by kernel_rfl) (by kernel_rfl) rfl ?_
       refine bl_cons 1 rfl (isV _) (stab_isV _) (rgV (li := [(3, _)]) rfl (w_free rfl) ⟨g_fr (by kernel_rfl) rfl, trivial⟩ (fun w hw => rn_field (o' := 1) fa_49_1 rfl rfl) (at_top rfl)) ?_
       refine bl_cons 2 rfl (isV _) (stab_isV _) (rgV (li := [(35, _)]) rfl (w_free rfl) ⟨g_dep 0 (by kernel_rfl) (at_dep rfl rfl rfl), trivial⟩ (fun w hw => rn_load Try.isAgg29 rfl ((below_agree hw 0).cell (Nat.zero_le _) (cell_own (hS.at_ 0 rfl) rfl))) (at_top rfl)) ?_
       refine bl_cons 3 rfl (isV _) (stab_isV _) (rgV (li := [(6, _)]) rfl (w_free rfl) ⟨g_fr (by kernel_rfl) rfl, trivial⟩ (fun w hw => rn_move rfl) (at_top rfl)) ?_
       refine bl_cons 4 rfl (isV _) (stab_isV _) (rgV (li := [(36, _), (37, _)]) rfl (w_free rfl) ⟨g_dep 1 (by kernel_rfl) (at_dep rfl rfl rfl), g_dep 2 (by kernel_rfl) (at_dep rfl rfl rfl), trivial⟩ (fun w hw => rn_indexA  Try.underlying29 Try.sizeOf3 rfl rfl rfl (by omega) rfl) (at_top rfl)) ?_
       refine bl_cons 5 rfl (isV _) (stab_isV _) (rgV (li := [(38, _)]) rfl (w_free rfl) ⟨g_dep 3 (by kernel_rfl) (at_dep rfl rfl rfl), trivial⟩ (fun w hw => rn_load Try.isAgg3 rfl ((below_agree hw 0).cell (Nat.zero_le _) (by assumption))) (at_top rfl)) ?_
       refine bl_cons 6 rfl (isV (.bool true)) (stab_isV _) (rgVe (li := [(39, _)]) rfl (w_free rfl) ⟨g_dep 4 (by kernel_rfl) (at_dep rfl rfl rfl), trivial⟩ (fun w hw => rn_lss rfl rfl) (by rw [decide_eq_true hy0]) (at_top rfl)) ?_
       refine bl_cons 7 rfl (isV _) (stab_isV _) (rgV (li := [(40, _)]) rfl (w_free rfl) ⟨g_dep 5 (by kernel_rfl) (at_dep rfl rfl rfl), trivial⟩ (fun w hw => rn_move rfl) (at_top rfl)) ?_
       refine bl_cons 8 rfl (isV undef) (stab_isV _) (rg_no rfl (w_no 41 rfl (by kernel_rfl) (by kernel_rfl) (at_dep rfl rfl rfl) rfl) (at_top rfl)) ?_
       refine bl_cons 9 rfl (isV undef) (stab_isV _) (rg_no rfl (w_no 41 rfl (by kernel_rfl) (by kernel_rfl) (at_dep rfl rfl rfl) rfl) (at_top rfl)) ?_
       refine bl_cons 10 rfl (isV undef) (stab_isV _) (rg_no rfl (w_no 41 rfl (by kernel_rfl) (by kernel_rfl) (at_dep rfl rfl rfl) rfl) (at_top rfl)) ?_
       refine bl_cons 11 rfl (isV undef) (stab_isV _) (rg_no rfl (w_no 41 rfl (by kernel_rfl) (by kernel_rfl) (at_dep rfl rfl rfl) rfl) (at_top rfl)) ?_
       refine bl_cons 12 rfl (isV undef) (stab_isV _) (rg_no rfl (w_no 41 rfl (by kernel_rfl) (by kernel_rfl) (at_dep rfl rfl rfl) rfl) (at_top rfl)) ?_
       refine bl_cons 13 rfl (isV undef) (stab_isV _) (rg_no rfl (w_no 41 rfl (by kernel_rfl) (by kernel_rfl) (at_dep rfl rfl rfl) rfl) (at_top rfl)) ?_
       refine bl_cons 14 rfl (isV undef) (stab_isV _) (rg_no rfl (w_no 41 rfl (by kernel_rfl) (by kernel_rfl) (at_dep rfl rfl rfl) rfl) (at_top rfl)) ?_
       refine bl_cons 15 rfl (isV undef) (stab_isV _) (rg_no rfl (w_no 41 rfl (by kernel_rfl) (by kernel_rfl) (at_dep rfl rfl rfl) rfl) (at_top rfl)) ?_
       refine bl_cons 16 rfl (isV _) (stab_isV _) (rgV (li := [(41, _)]) rfl (w_free rfl) ⟨g_dep 6 (by kernel_rfl) (at_dep rfl rfl rfl), trivial⟩ (fun w hw => rn_pickT rfl rfl) (at_top rfl)) ?_
       refine bl_nil ?_
       intro W4 hbR hS'
       clear hS; have hS := hS'; clear hS'
       iterate 16 refine fin_v ?_
       refine fin_nil ?_
       refine XF.thenN ?_
       refine condT rfl ?_
       refine seqF (regF ?_)
       refine op_assign rfl rfl ?_
       refine endF (XF.thenN ?_)
       refine retF ?_
       refine XF.blkR ?_
       iterate 2 refine XF.thenR ?_
       refine XF.blkR ?_
       refine XF.thenR ?_
       refine XF.res (res1 Try.results21 rfl) ?_
       exact ⟨rint (by simp only [stepE]; rw [if_neg hc10, if_neg (by simp only [confB]; rw [all_false_at hy e5]; simp)]), hS.below⟩
      ·skip
       refine regB (m := 16) followsM hS (by kernel_rfl) (by kernel_rfl) rfl ?_
       refine bl_cons 1 rfl (isV _) (stab_isV _) (rgV (li := [(3, _)]) rfl (w_free rfl) ⟨g_fr (by kernel_rfl) rfl, trivial⟩ (fun w hw => rn_field (o' := 1) fa_49_1 rfl rfl) (at_top rfl)) ?_
       refine bl_cons 2 rfl (isV _) (stab_isV _) (rgV (li := [(35, _)]) rfl (w_free rfl) ⟨g_dep 0 (by kernel_rfl) (at_dep rfl rfl rfl), trivial⟩ (fun w hw => rn_load Try.isAgg29 rfl ((below_agree hw 0).cell (Nat.zero_le _) (cell_own (hS.at_ 0 rfl) rfl))) (at_top rfl)) ?_
       refine bl_cons 3 rfl (isV _) (stab_isV _) (rgV (li := [(6, _)]) rfl (w_free rfl) ⟨g_fr (by kernel_rfl) rfl, trivial⟩ (fun w hw => rn_move rfl) (at_top rfl)) ?_
       refine bl_cons 4 rfl (isV _) (stab_isV _) (rgV (li := [(36, _), (37, _)]) rfl (w_free rfl) ⟨g_dep 1 (by kernel_rfl) (at_dep rfl rfl rfl), g_dep 2 (by kernel_rfl) (at_dep rfl rfl rfl), trivial⟩ (fun w hw => rn_indexA  Try.underlying29 Try.sizeOf3 rfl rfl rfl (by omega) rfl) (at_top rfl)) ?_
       refine bl_cons 5 rfl (isV _) (stab_isV _) (rgV (li := [(38, _)]) rfl (w_free rfl) ⟨g_dep 3 (by kernel_rfl) (at_dep rfl rfl rfl), trivial⟩ (fun w hw => rn_load Try.isAgg3 rfl ((below_agree hw 0).cell (Nat.zero_le _) (by assumption))) (at_top rfl)) ?_
       refine bl_cons 6 rfl (isV (.bool false)) (stab_isV _) (rgVe (li := [(39, _)]) rfl (w_free rfl) ⟨g_dep 4 (by kernel_rfl) (at_dep rfl rfl rfl), trivial⟩ (fun w hw => rn_lss rfl rfl) (by rw [decide_eq_false hy0]) (at_top rfl)) ?_
       refine bl_cons 7 rfl (isV _) (stab_isV _) (rgV (li := [(40, _)]) rfl (w_free rfl) ⟨g_dep 5 (by kernel_rfl) (at_dep rfl rfl rfl), trivial⟩ (fun w hw => rn_move rfl) (at_top rfl)) ?_
       refine bl_cons 8 rfl (isV _) (stab_isV _) (rgV (li := [(3, _)]) rfl (w_yes 41 rfl (by kernel_rfl) (by kernel_rfl) (at_dep rfl rfl rfl)) ⟨g_fr (by kernel_rfl) rfl, trivial⟩ (fun w hw => rn_field (o' := 1) fa_49_1 rfl rfl) (at_top rfl)) ?_
       refine bl_cons 9 rfl (isV _) (stab_isV _) (rgV (li := [(42, _)]) rfl (w_yes 41 rfl (by kernel_rfl) (by kernel_rfl) (at_dep rfl rfl rfl)) ⟨g_dep 7 (by kernel_rfl) (at_dep rfl rfl rfl), trivial⟩ (fun w hw => rn_load Try.isAgg29 rfl ((below_agree hw 0).cell (Nat.zero_le _) (cell_own (hS.at_ 0 rfl) rfl))) (at_top rfl)) ?_
       refine bl_cons 10 rfl (isV _) (stab_isV _) (rgV (li := [(6, _)]) rfl (w_yes 41 rfl (by kernel_rfl) (by kernel_rfl) (at_dep rfl rfl rfl)) ⟨g_fr (by kernel_rfl) rfl, trivial⟩ (fun w hw => rn_move rfl) (at_top rfl)) ?_
       refine bl_cons 11 rfl (isV _) (stab_isV _) (rgV (li := [(43, _), (44, _)]) rfl (w_yes 41 rfl (by kernel_rfl) (by kernel_rfl) (at_dep rfl rfl rfl)) ⟨g_dep 8 (by kernel_rfl) (at_dep rfl rfl rfl), g_dep 9 (by kernel_rfl) (at_dep rfl rfl rfl), trivial⟩ (fun w hw => rn_indexA  Try.underlying29 Try.sizeOf3 rfl rfl rfl (by omega) rfl) (at_top rfl)) ?_
       refine bl_cons 12 rfl (isV _) (stab_isV _) (rgV (li := [(45, _)]) rfl (w_yes 41 rfl (by kernel_rfl) (by kernel_rfl) (at_dep rfl rfl rfl)) ⟨g_dep 10 (by kernel_rfl) (at_dep rfl rfl rfl), trivial⟩ (fun w hw => rn_load Try.isAgg3 rfl ((below_agree hw 0).cell (Nat.zero_le _) (by assumption))) (at_top rfl)) ?_
       refine bl_cons 13 rfl (isV _) (stab_isV _) (rgV (li := [(2, _)]) rfl (w_yes 41 rfl (by kernel_rfl) (by kernel_rfl) (at_dep rfl rfl rfl)) ⟨g_fr (by kernel_rfl) rfl, trivial⟩ (fun w hw => rn_field (o' := 4) fa_28_2 rfl rfl) (at_top rfl)) ?_
       refine bl_cons 14 rfl (isV _) (stab_isV _) (rgV (li := [(47, _)]) rfl (w_yes 41 rfl (by kernel_rfl) (by kernel_rfl) (at_dep rfl rfl rfl)) ⟨g_dep 12 (by kernel_rfl) (at_dep rfl rfl rfl), trivial⟩ (fun w hw => rn_load Try.isAgg3 rfl ((below_agree hw 0).cell (Nat.zero_le _) (cell_own (hS.at_ 1 rfl) rfl))) (at_top rfl)) ?_
       refine bl_cons 15 rfl (isV _) (stab_isV _) (rgV (li := [(46, _), (48, _)]) rfl (w_yes 41 rfl (by kernel_rfl) (by kernel_rfl) (at_dep rfl rfl rfl)) ⟨g_dep 11 (by kernel_rfl) (at_dep rfl rfl rfl), g_dep 13 (by kernel_rfl) (at_dep rfl rfl rfl), trivial⟩ (fun w hw => rn_geq rfl rfl) (at_top rfl)) ?_
       refine bl_cons 16 rfl (isV _) (stab_isV _) (rgV (li := [(41, _), (49, _)]) rfl (w_free rfl) ⟨g_dep 6 (by kernel_rfl) (at_dep rfl rfl rfl), g_dep 14 (by kernel_rfl) (at_dep rfl rfl rfl), trivial⟩ (fun w hw => rn_pickF rfl rfl) (at_top rfl)) ?_
       refine bl_nil ?_
       intro W5 hbR hS'
       clear hS; have hS := hS'; clear hS'
       iterate 16 refine fin_v ?_
       refine fin_nil ?_
       refine XF.thenN ?_
       refine condF rfl (fun hc => ?_) (fun hc => ?_)
       ·have hc50 := hc; clear hc
        have e5 : inQ y P0.sy = false := by have := of_decide_eq_true hc50; simp [inQ]; omega
        refine seqF (regF ?_)
        refine op_assign rfl rfl ?_
        refine endF (XF.thenN ?_)
        refine retF ?_
        refine XF.blkR ?_
        iterate 2 refine XF.thenR ?_
        refine XF.blkR ?_
        refine XF.thenR ?_
        refine XF.res (res1 Try.results21 rfl) ?_
        exact ⟨rint (by simp only [stepE]; rw [if_neg hc10, if_neg (by simp only [confB]; rw [all_false_at hy e5]; simp)]), hS.below⟩
       ·have hc50 := hc; clear hc
        have e5 : inQ y P0.sy = true := by have := of_decide_eq_false hc50; simp [inQ]; omega
        refine skipF ?_
        refine XF.blkN ?_
        refine XF.thenN ?_
        refine regF ?_
        refine op_move rfl rfl ?_
        refine op_add rfl rfl (IntWalk.i64_in _ (by omega)) rfl ?_
        refine op_assign rfl rfl ?_
        refine endF ?_
        exact XF.round (wl - (i + 1)) [(2, _), (3, _), (6, _)] (by omega) ⟨rfl, rfl, rfl, trivial⟩ ⟨i + 1, by omega, rfl, rfl, all_take_at hy hall e5, hS.clear⟩
     ·have hc32 := of_decide_eq_false hc; clear hc
      refine exitF ?_
      iterate 2 refine XF.thenX ?_
      refine XF.blkX ?_
      refine XF.thenN ?_
      refine seqF (regF ?_)
      refine op_assign rfl rfl ?_
      refine endF (XF.thenN ?_)
      refine retF ?_
      refine XF.res (res1 Try.results21 rfl) ?_
      rw [List.take_of_length_le (by omega)] at hall
      exact ⟨rint (by simp only [stepE]; rw [if_neg hc10, if_pos (by simp [confB, e1, e4, hall])]), hS.below⟩
theorem stepR_is (ds d : Nat) (p : PV) (c : CV) (w : World) (hp : PvIn w ds d p) (h : CIn w c) : Calls Try.prog 21 #[p.val, c.val] w (fun e w' => e = .returned (.int .i64 (stepE p c)) ∧ Below w.heap.size w w') := stepR_c ds d p _ _ _ _ _ w hp h.row h.len
end Go.Proofs.Ytpkcaabbcoiiiaa
namespace Go.Proofs.Ytpkcaabbcoiiiaa
open Go Go.RowKit
theorem okW_plain {f : SF} {ps : List SV} {x : WV} (hp : plainB f.tag f.dim f.len = true) (ho : okW (.mk f ps) x = true) : pwOk f.tag f.dim x.f = true := by
 have h : (if plainB f.tag f.dim f.len = true then pwOk f.tag f.dim x.f else (match (generalizing := false) ps with | [p, q] => pairOk p q x.f x.ps | _ => false)) = true := ho
 rw [if_pos hp] at h
 exact h
theorem space_of {w : World} {d : Nat} {s : SV} (hs : SIn w d s) (hse : spaceE s = 0) : ∃ S : PS, S.ok ∧ SIs w S s.f ∧ ∀ (x : WV) (e : Nat), WIn w e x → okW s x = true → ∃ y, XIs w S x.f y := by
 match d, s, hs with
 | d + 1, .mk f ps, hs =>
  by_cases hp : plainB f.tag f.dim f.len = true
  ·obtain ⟨t, n, a, l, c⟩ := f
   dsimp only at hp
   obtain rfl : l = 0 := (plainB_tag hp).1
   refine ⟨.one t n, hp, ⟨a, c, rfl⟩, fun x e hx ho => ?_⟩
   match e, x, hx, ho with
   | e + 1, .mk g qs, hx, ho =>
    exact ⟨.one g.pf, PIs.of hp hx.1 (okW_plain (f := ⟨t, n, a, 0, c⟩) hp ho)⟩
  ·have hse' : (if plainB f.tag f.dim f.len = true then (0 : Int) else if f.tag = 5 ∧ f.dim = 0 ∧ ps.length = 2 ∧ ps.all SV.pl = true then 0 else 50) = 0 := hse
   rw [if_neg hp] at hse'
   split at hse'
   ·rename_i hq
    obtain ⟨h5, h0, h2, hall⟩ := hq
    obtain ⟨t, n, a, l, c⟩ := f
    dsimp only at h5 h0 hp
    subst h5; subst h0
    obtain ⟨p, q, rfl⟩ := two_of h2
    have hl : 2 = l := hs.1
    subst hl
    simp only [List.all_cons, List.all_nil, Bool.and_true, Bool.and_eq_true] at hall
    obtain ⟨_, b, off, ha, _, hp3, hq3, _, _⟩ := hs.two
    dsimp only at ha
    subst ha
    obtain ⟨⟨pt, pn, pa, pl, pc⟩, pps⟩ := p
    obtain ⟨⟨qt, qn, qa, ql, qc⟩, qps⟩ := q
    have e1 : plainB pt pn pl = true := hall.1
    have e2 : plainB qt qn ql = true := hall.2
    obtain rfl : pl = 0 := (plainB_tag e1).1
    obtain rfl : ql = 0 := (plainB_tag e2).1
    refine ⟨.two pt pn qt qn, ⟨e1, e2⟩, ⟨b, off, c, pa, pc, qa, qc, rfl, hp3, hq3⟩, fun x e hx ho => ?_⟩
    match e, x, hx, ho with
    | e + 1, .mk g qs, hx, ho =>
     have ho' : (if plainB 5 0 2 = true then pwOk 5 0 g else pairOk (.mk ⟨pt, pn, pa, 0, pc⟩ pps) (.mk ⟨qt, qn, qa, 0, qc⟩ qps) g qs) = true := ho
     rw [if_neg (show ¬ plainB 5 0 2 = true from hp)] at ho'
     unfold pairOk at ho'
     simp only [Bool.and_eq_true, Bool.not_eq_true', decide_eq_true_eq] at ho'
     obtain ⟨hbare, hz, h2q, o1, o2⟩ := ho'
     obtain ⟨x1, x2, rfl⟩ := two_of h2q
     obtain ⟨hpl, wb, wo, hpa, _, h6, h7, hx1, hx2⟩ := hx.two
     have hat := hx.1
     have hg : g.c = 0 ∧ g.g = 0 ∧ g.rl = 0 ∧ g.cl = 0 := by
      simp only [bareB, onlyB, hz, Bool.not_false, Bool.true_and, Bool.and_eq_true, Bool.or_eq_true, decide_eq_true_eq] at hbare
      obtain ⟨k1, k2, k3, _⟩ := hbare
      exact ⟨k1.resolve_left (by decide), (k2.resolve_left (by decide)).1, (k2.resolve_left (by decide)).2, k3.resolve_left (by decide)⟩
     have hr0 : g.rows = [] := List.eq_nil_of_length_eq_zero (by have := hat.rl; omega)
     have hc0 : g.cells = [] := List.eq_nil_of_length_eq_zero (by have := hat.cl; omega)
     refine ⟨.two x1.f.pf x2.f.pf, ?_, hg.2.2.1, hg.2.2.2, hpl, wb, wo, x1.f, x2.f, hpa, h6, h7, PIs.of e1 (WIn.at_ hx1) o1, PIs.of e2 (WIn.at_ hx2) o2⟩
     show (⟨g.z, g.c, g.g, g.rows, g.cells⟩ : PF) = pC 0
     unfold pC
     rw [hz, hg.1, hg.2.1, hr0, hc0]
   ·cases hse'
theorem holds3 {p q r : Asr} {vs : List Value} {w : World} (h : Holds [p, q, r] vs w) : ∃ a b c, vs = [a, b, c] ∧ p a w ∧ q b w ∧ r c w := by
 match vs, h with
 | [a, b, c], h => exact ⟨a, b, c, rfl, h.1, h.2.1, h.2.2.1⟩
section
variable {n : Nat} {Q : Exit → Act → World → Prop} {l : Fr} {W : World} {ops : Array Oper} {L : List Asr} {i d : Nat} {ty : TypeId} {pos : String} {aft : Array Edge} {gd : Option (Nat × Bool)} {S : PS} {x y z : PX} {p q r : Operand}
end
section
variable {w : World} {S : PS} {sf : SF} {x y z : PX} {vs : List Value}
end
end Go.Proofs.Ytpkcaabbcoiiiaa
namespace Go.Proofs.Ytpkcaabbcoiiiaa
open Go Go.RowKit
section
variable {P : Program} {ops : Array Oper} {Q : Exit → Act → World → Prop} {σ : Type}
structure RInvG (ops : Array Oper) (t0 : Array Value) (d0 : List Deferred) (G : σ → World → Prop) (I : σ → Nat → Value → World → Prop) (V : σ → Array Bool → Prop) (s : σ) (L : Array Bool) (a : Act) (w : World) : Prop where
 size : a.tmps.size = t0.size
 defers : a.defers = d0
 frame : ∀ t, freeT ops t = true → a.tmps.getD t undef = t0.getD t undef
 glob : G s w
 cons : V s L
 done : ∀ i d, (ops[i]?).bind (·.dst) = some d → L.getD i false = true → I s i (a.tmps.getD d undef) w
def ClosedG (ops : Array Oper) (L : Array Bool) : Prop := ∀ j, L.getD j false = true → ∀ x ∈ aft ops j, L.getD x false = true
def ReadyG (ops : Array Oper) (L : Array Bool) (i : Nat) : Prop := L.getD i false = false ∧ ∀ x ∈ aft ops i, L.getD x false = true
def GStep (P : Program) (ops : Array Oper) (Q : Exit → Act → World → Prop) (t0 : Array Value) (G : σ → World → Prop) (I : σ → Nat → Value → World → Prop) (V : σ → Array Bool → Prop) (i : Nat) : Prop :=
 ∀ s L (a : Act) w, (∀ t, freeT ops t = true → a.eval (.tmp t) = t0.getD t undef) → G s w → V s L → L.size = ops.size → ClosedG ops L → ReadyG ops L i → (∀ j d, waitsFor ops i j d = true → I s j (a.eval (.tmp d)) w) →
  wpOp P ops Q i (fun a' w' => ∃ s' v, a' = a.put ((ops[i]?).bind (·.dst)) v ∧ V s' (L.setIfInBounds i true) ∧ G s' w' ∧ (∀ d, (ops[i]?).bind (·.dst) = some d → I s' i v w') ∧ (∀ j d, (ops[j]?).bind (·.dst) = some d → I s j (a.tmps.getD d undef) w → I s' j (a.tmps.getD d undef) w')) a w
def tailT (ops : Array Oper) (k : Nat) : Bool := (List.range ops.size).all fun j => decide (j < k) || (List.range j).all fun i => (earlyL ops j).contains i
theorem tail_early {k j i : Nat} (h : tailT ops k = true) (hj : j < ops.size) (hk : k ≤ j) (hi : i < j) : i ∈ earlyL ops j := by
 have h1 := List.all_eq_true.1 h j (List.mem_range.2 hj)
 rw [Bool.or_eq_true, decide_eq_true_eq] at h1
 rcases h1 with h1 | h1
 ·omega
 ·exact List.contains_iff_mem.1 (List.all_eq_true.1 h1 i (List.mem_range.2 hi))
theorem ready_g {L : Array Bool} {i : Nat} (h : i ∈ Region.ready .any ops L) (hs : L.size = ops.size) : i < ops.size ∧ ReadyG ops L i := by
 obtain ⟨h1, o, ho, hdep⟩ := mem_ready.1 h
 have his : i < ops.size := (Array.getElem?_eq_some_iff.1 ho).1
 refine ⟨his, ?_, fun x hx => ?_⟩
 ·rw [Array.getD_eq_getD_getElem?, Array.getElem?_eq_getElem (by omega)] at h1 ⊢
  simpa using h1
 ·obtain ⟨e, he, h5, h6⟩ := aft_mem ho hx
  have h7 := hdep e he h6
  rw [h5] at h7
  exact h7
theorem cnt_getD {L : Array Bool} {i : Nat} (hi : i < L.size) (h : L.getD i false = false) : L.toList[i]? = some false := by
 rw [Array.getD_eq_getD_getElem?, Array.getElem?_eq_getElem hi] at h
 rw [Array.getElem?_toList, Array.getElem?_eq_getElem hi]
 simpa using h
theorem ClosedG.next {L : Array Bool} {i : Nat} (h : ClosedG ops L) (hr : ReadyG ops L i) (hi : i < L.size) : ClosedG ops (L.setIfInBounds i true) := fun j hj x hx => by
 have hx2 : L.getD x false = true := by
  by_cases hji : j = i
  ·subst hji; exact hr.2 x hx
  ·rw [getD_set_ne false (Ne.symm hji)] at hj
   exact h j hj x hx
 by_cases hxi : x = i
 ·subst hxi
  rw [Array.getD_eq_getD_getElem?, Array.getElem?_setIfInBounds_self_of_lt hi]; rfl
 ·rw [getD_set_ne false (Ne.symm hxi)]; exact hx2
theorem ready_early {L : Array Bool} {i : Nat} (h : ClosedG ops L) (hr : ReadyG ops L i) : ∀ x ∈ earlyL ops i, L.getD x false = true :=
 early_done (D := fun x => L.getD x false = true) hr.2 (fun j hj x hx => h j hj x hx)
theorem tail_run (ht : ∀ n, tidyR ops n = true → True) {k : Nat} (hl : tailT ops k = true) {n0 : Nat} (htd : tidyR ops n0 = true) : ∀ (m j fuel : Nat) (L : Array Bool) (a : Act) (w : World), ops.size = j + m → k ≤ j → m ≤ fuel → L.size = ops.size → ClosedG ops L → (∀ i, i < j → L.getD i false = true) → (∀ i, j ≤ i → L.getD i false = false) →
  wpList P ops Q (ops.toList.drop j) a w → wpAny P .any ops Q fuel L a w
 | 0, j, fuel, L, a, w, hm, hk, hf, hs, hc, hd, hn, h => by
  have hnil : Region.ready .any ops L = [] := by
   cases hr : Region.ready .any ops L with
   | nil => rfl
   | cons i rest =>
    obtain ⟨h1, h2⟩ := ready_g (by rw [hr]; exact List.mem_cons_self) hs
    have h3 := h2.1
    rw [hd i (by omega)] at h3
    cases h3
  rw [List.drop_of_length_le (by simp; omega)] at h
  cases fuel with
  | zero => exact ⟨hnil, h⟩
  | succ fuel => exact ⟨fun _ => h, by rw [hnil]; simp⟩
 | m + 1, j, 0, L, a, w, hm, hk, hf, hs, hc, hd, hn, h => by omega
 | m + 1, j, fuel + 1, L, a, w, hm, hk, hf, hs, hc, hd, hn, h => by
  have hj : j < ops.size := by omega
  have only : ∀ i ∈ Region.ready .any ops L, i = j := fun i hi => by
   obtain ⟨h1, h2⟩ := ready_g hi hs
   rcases Nat.lt_trichotomy i j with h3 | h3 | h3
   ·have h4 := h2.1
    rw [hd i h3] at h4; cases h4
   ·exact h3
   ·have := ready_early hc h2 j (tail_early hl h1 (by omega) h3)
    rw [hn j (Nat.le_refl _)] at this; cases this
  refine ⟨fun hr => ?_, fun i hi => ?_⟩
  ·have := ready_nil htd hs hr j hj
   have h2 := hn j (Nat.le_refl _)
   rw [Array.getD_eq_getD_getElem?, Array.getElem?_eq_getElem (by omega)] at this h2
   simp at this h2
   rw [this] at h2; cases h2
  ·obtain ⟨h1, h2⟩ := ready_g hi hs
   obtain rfl := only i hi
   have e : ops.toList.drop i = ops[i] :: ops.toList.drop (i + 1) := by
    rw [List.drop_eq_getElem_cons (by simpa using hj)]; simp
   rw [e] at h
   have key : wpOp P ops Q i (fun a' w' => wpList P ops Q (ops.toList.drop (i + 1)) a' w') a w := by
    unfold wpOp
    rw [Array.getElem?_eq_getElem hj]
    exact h
   refine wpOp_mono ?_ key
   intro a' w' hq
   refine tail_run ht hl htd m (i + 1) fuel _ a' w' (by omega) (by omega) (by omega) (by simpa using hs) (hc.next h2 (by omega)) (fun x hx => ?_) (fun x hx => ?_) hq
   ·by_cases hxi : x = i
    ·subst hxi
     rw [Array.getD_eq_getD_getElem?, Array.getElem?_setIfInBounds_self_of_lt (by omega)]; rfl
    ·rw [getD_set_ne false (Ne.symm hxi)]; exact hd x (by omega)
   ·rw [getD_set_ne false (by omega)]; exact hn x (by omega)
theorem region_ghost {t0 : Array Value} {d0 : List Deferred} {G : σ → World → Prop} {I : σ → Nat → Value → World → Prop} {V : σ → Array Bool → Prop} {k : Nat} (hk : k < ops.size) (hl : tailT ops k = true) (ht : tidyR ops t0.size = true)
  (hstep : ∀ i, i < k → GStep P ops Q t0 G I V i)
  (hfin : ∀ s L a w, RInvG ops t0 d0 G I V s L a w → (∀ i, i < k → L.getD i false = true) → (∀ i, k ≤ i → L.getD i false = false) → wpList P ops Q (ops.toList.drop k) a w) :
  ∀ (fuel : Nat) (s : σ) (L : Array Bool) (a : Act) (w : World), L.size = ops.size → L.toList.count false ≤ fuel → ClosedG ops L → (∀ i, k ≤ i → L.getD i false = false) → RInvG ops t0 d0 G I V s L a w → wpAny P .any ops Q fuel L a w := by
 intro fuel
 induction fuel with
 | zero =>
  intro s L a w hs hc hcl hn h
  have := cnt_set _ _ (cnt_getD (by omega) (hn k (Nat.le_refl _)))
  omega
 | succ fuel ih =>
  intro s L a w hs hc hcl hn h
  by_cases hall : ∀ i, i < k → L.getD i false = true
  ·have hcnt : ops.size - k ≤ L.toList.count false := by
    have key : ∀ (l : List Bool) (k : Nat), (∀ i, k ≤ i → i < l.length → l[i]? = some false) → l.length - k ≤ l.count false := by
     intro l
     induction l with
     | nil => intro k _; simp
     | cons b l ihl =>
      intro k hk
      cases k with
      | zero =>
       have h0 := hk 0 (Nat.le_refl _) (by simp)
       simp at h0; subst h0
       have := ihl 0 (fun i _ hi => by have := hk (i + 1) (by omega) (by simpa using hi); simpa using this)
       simp at this ⊢; omega
      | succ k =>
       have := ihl k (fun i hi hi2 => by have := hk (i + 1) (by omega) (by simpa using hi2); simpa using this)
       rw [List.count_cons]; simp; omega
    have := key L.toList k (fun i h1 h2 => cnt_getD (by simpa using h2) (hn i h1))
    simpa [hs] using this
   exact tail_run (fun _ _ => trivial) hl ht (ops.size - k) k (fuel + 1) L a w (by omega) (Nat.le_refl _) (by omega) hs hcl hall hn (hfin s L a w h hall hn)
  ·refine ⟨fun hr => ?_, fun i hi => ?_⟩
   ·exfalso; apply hall
    intro i hi
    have h1 := ready_nil ht hs hr i (by omega)
    rw [Array.getD_eq_getD_getElem?, Array.getElem?_eq_getElem (by omega)] at h1 ⊢
    simpa using h1
   ·obtain ⟨his, hr⟩ := ready_g hi hs
    have hik : i < k := by
     rcases Nat.lt_or_ge i k with h1 | h1
     ·exact h1
     ·exfalso; apply hall
      intro x hx
      exact ready_early hcl hr x (tail_early hl his h1 (by omega))
    have hc1 := cnt_set _ _ (cnt_getD (by omega) hr.1)
    refine wpOp_mono ?_ (hstep i hik s L a w (fun t ht => h.frame t ht) h.glob h.cons hs hcl hr (fun j d hw => ?_))
    ·rintro a' w' ⟨s', v, rfl, hV, hG, hI, hst⟩
     refine ih s' _ _ _ (by simpa using hs) ?_ (hcl.next hr (by omega)) (fun x hx => by rw [getD_set_ne false (by omega)]; exact hn x hx) ⟨by rw [put_size]; exact h.size, by rw [put_defers]; exact h.defers, fun t hf => ?_, hG, hV, fun j d hd hj => ?_⟩
     ·rw [Array.toList_setIfInBounds]; omega
     ·rw [put_other ?_]
      ·exact h.frame t hf
      ·intro hd
       obtain ⟨o, ho, hd⟩ := Option.bind_eq_some_iff.1 hd
       have := Array.all_eq_true'.1 hf o (Array.mem_of_getElem? ho)
       simp [hd] at this
     ·by_cases hji : j = i
      ·subst hji
       rw [put_at hd (by rw [h.size]; exact (tidy_dst ht hd).1)]
       exact hI d hd
      ·rw [getD_set_ne false (Ne.symm hji)] at hj
       rw [put_other (fun e => hji ((tidy_dst ht e).2 j hd))]
       exact hst j d hd (h.done j d hd hj)
    ·have : j ∈ aft ops i := by
      unfold waitsFor at hw
      unfold aft
      cases ho : ops[i]? with
      | none => simp [ho] at hw
      | some o =>
       simp only [ho, Bool.and_eq_true, beq_iff_eq] at hw
       obtain ⟨e, he, h2⟩ := Array.any_eq_true'.1 hw.1
       simp only [Bool.and_eq_true, beq_iff_eq] at h2
       exact List.mem_map.2 ⟨e, List.mem_filter.2 ⟨Array.mem_toList_iff.2 he, h2.2⟩, h2.1⟩
     have hd : (ops[j]?).bind (·.dst) = some d := by
      unfold waitsFor at hw
      simp only [Bool.and_eq_true, beq_iff_eq] at hw
      exact hw.2
     exact h.done j d hd (hr.2 j this)
end
structure Sg where
 ev : Option Value
 bs : List (Nat × Nat)
def OE (ca : Nat → Option Value → List Value) (ta : Nat → TypeId) (Os : Option Value → Own) (s : Sg) : Own := s.bs.map (fun q => (q.2, ca q.1 s.ev, ta q.1)) ++ Os s.ev
def XB (O : Own) (G : Grows) (b : Nat) : Prop := (∃ p ∈ O, p.1 = b) ∨ (∃ g ∈ G, g.v.ownBlock = some b)
def SameX (lo : Nat) (X : Nat → Prop) (w w' : World) : Prop := (w'.os = w.os ∧ w'.tape = w.tape ∧ w'.output = w.output) ∧ w.heap.size ≤ w'.heap.size ∧ ∀ b, lo ≤ b → b < w.heap.size → ¬ X b → w'.heap[b]? = w.heap[b]?
def AwS (lo : Nat) (X : Nat → Prop) (p : Asr) : Asr := fun v w => ∀ w', SameX lo X w w' → p v w'
section
variable {lo : Nat} {X X' : Nat → Prop} {w w' w'' : World} {p : Asr} {v c : Value}
theorem SameX.refl (lo : Nat) (X : Nat → Prop) (w : World) : SameX lo X w w := ⟨⟨rfl, rfl, rfl⟩, Nat.le_refl _, fun _ _ _ _ => rfl⟩
theorem sameX_of (h : Below w.heap.size w w') : SameX lo X w w' := ⟨⟨h.os, h.tape, h.output⟩, h.size, fun b _ hb _ => h.block b hb⟩
theorem SameX.trans (h : SameX lo X w w') (k : SameX lo X' w' w'') (hx : ∀ b, X' b → X b ∨ w.heap.size ≤ b) : SameX lo X w w'' :=
 ⟨⟨k.1.1.trans h.1.1, k.1.2.1.trans h.1.2.1, k.1.2.2.trans h.1.2.2⟩, Nat.le_trans h.2.1 k.2.1, fun b h1 h2 h3 => (k.2.2 b h1 (Nat.lt_of_lt_of_le h2 h.2.1) (fun hb => (hx b hb).elim h3 (fun h4 => by omega))).trans (h.2.2 b h1 h2 h3)⟩
theorem SameX.mono (h : SameX 0 X w w') : SameX lo X w w' := ⟨h.1, h.2.1, fun b _ hb hx => h.2.2 b (Nat.zero_le _) hb hx⟩
theorem AwS.here (h : AwS lo X p v w) : p v w := h w (SameX.refl _ _ _)
theorem AwS.next (h : AwS lo X p v w) (hs : SameX 0 X w w') (hx : ∀ b, X' b → X b ∨ w.heap.size ≤ b) : AwS lo X' p v w' := fun w2 h2 => h w2 (hs.mono.trans h2 hx)
theorem awS_isV : AwS lo X (isV c) c w := fun _ _ => rfl
end
section
variable {P : Program} {n : Nat} {Q : Exit → Act → World → Prop} {l : Fr} {w0 W : World} {ops : Array Oper} {os : List Oper} {K : List (Nat × World)} {L : List Asr} {i : Nat}
variable {al : List Nat} {ca : Nat → Option Value → List Value} {ta : Nat → TypeId} {Os : Option Value → Own} {Gs : Option Value → Grows} {lo ef jy : Nat} {s : Sg}
theorem St.drops {O : Own} {G : Grows} {w : World} : ∀ (A : Own), St w0 (A ++ O) G K w → St w0 O G K w
 | [], h => h
 | _ :: A, h => St.drops A h.tail
def GG (w0 : World) (K : List (Nat × World)) (lo : Nat) (ca : Nat → Option Value → List Value) (ta : Nat → TypeId) (Os : Option Value → Own) (Gs : Option Value → Grows) (s : Sg) (w : World) : Prop := St w0 (OE ca ta Os s) (Gs s.ev) K w ∧ lo ≤ w.heap.size ∧ ∀ q ∈ s.bs, lo ≤ q.2
def VG (al : List Nat) (ef : Nat) (s : Sg) (L : Array Bool) : Prop := (∀ a ∈ al, L.getD a false = true ↔ ∃ B, (a, B) ∈ s.bs) ∧ (∀ q ∈ s.bs, q.1 ∈ al) ∧ s.bs.Pairwise (fun p q => p.1 ≠ q.1) ∧ (L.getD ef false = true ↔ s.ev.isSome = true)
def IG (al : List Nat) (ef jy lo : Nat) (ca : Nat → Option Value → List Value) (ta : Nat → TypeId) (Os : Option Value → Own) (Gs : Option Value → Grows) (L : List Asr) (s : Sg) (i : Nat) (v : Value) (w : World) : Prop :=
 (i ∈ al → ∃ B, (i, B) ∈ s.bs ∧ v = .pointer (some ⟨B, 0, none⟩)) ∧ (i = ef → s.ev = some v) ∧ (i = jy → ∀ y, s.ev = some y → v = y) ∧ (i ∉ al → i ≠ ef → AwS lo (XB (OE ca ta Os s) (Gs s.ev)) (atI L i) v w)
def Tr (ops : Array Oper) (jy : Nat) (ca : Nat → Option Value → List Value) (ta : Nat → TypeId) (Os : Option Value → Own) (Gs : Option Value → Grows) (s s' : Sg) (a : Act) (w w' : World) : Prop :=
 SameX 0 (XB (OE ca ta Os s) (Gs s.ev)) w w' ∧ (∀ b, XB (OE ca ta Os s') (Gs s'.ev) b → XB (OE ca ta Os s) (Gs s.ev) b ∨ w.heap.size ≤ b) ∧ (∀ q ∈ s.bs, q ∈ s'.bs) ∧ (s'.ev = s.ev ∨ (s.ev = none ∧ ∃ y, s'.ev = some y ∧ ∀ d, (ops[jy]?).bind (·.dst) = some d → a.eval (.tmp d) = y))
theorem Tr.refl {a : Act} {w w' : World} (h : Below w.heap.size w w') : Tr ops jy ca ta Os Gs s s a w w' := ⟨sameX_of h, fun b hb => .inl hb, fun q hq => hq, .inl rfl⟩
def SG (P : Program) (n : Nat) (ops : Array Oper) (Q : Exit → Act → World → Prop) (l : Fr) (w0 : World) (K : List (Nat × World)) (lo : Nat) (al : List Nat) (ef jy : Nat) (ca : Nat → Option Value → List Value) (ta : Nat → TypeId) (Os : Option Value → Own) (Gs : Option Value → Grows) (L : List Asr) (i : Nat) : Prop :=
 ∀ t0, Has n l t0 → ∀ s LB (a : Act) w, (∀ t, freeT ops t = true → a.eval (.tmp t) = t0.tmps.getD t undef) → GG w0 K lo ca ta Os Gs s w → VG al ef s LB → LB.size = ops.size → ClosedG ops LB → ReadyG ops LB i → (∀ j d, waitsFor ops i j d = true → IG al ef jy lo ca ta Os Gs L s j (a.eval (.tmp d)) w) →
  wpOp P ops Q i (fun a' w' => ∃ s' v, a' = a.put ((ops[i]?).bind (·.dst)) v ∧ VG al ef s' (LB.setIfInBounds i true) ∧ GG w0 K lo ca ta Os Gs s' w' ∧ Tr ops jy ca ta Os Gs s s' a w w' ∧ (∀ d, (ops[i]?).bind (·.dst) = some d → IG al ef jy lo ca ta Os Gs L s' i v w')) a w
theorem SG.step (h : SG P n ops Q l w0 K lo al ef jy ca ta Os Gs L i) : ∀ a, Has n l a → GStep P ops Q a.tmps (GG w0 K lo ca ta Os Gs) (IG al ef jy lo ca ta Os Gs L) (VG al ef) i := fun t0 h0 s LB a w hF hG hV hs hc hr hD => by
 refine wpOp_mono ?_ (h t0 h0 s LB a w hF hG hV hs hc hr hD)
 rintro a' w' ⟨s', v, h1, h2, h3, ⟨t1, t2, t3, t4⟩, h5⟩
 refine ⟨s', v, h1, h2, h3, h5, fun j d hd hj => ⟨fun hj1 => ?_, fun hj1 => ?_, fun hj1 y hy => ?_, fun h6 h7 => (hj.2.2.2 h6 h7).next t1 t2⟩⟩
 ·obtain ⟨B, hB, e⟩ := hj.1 hj1
  exact ⟨B, t3 _ hB, e⟩
 ·rcases t4 with t4 | ⟨t4, _⟩
  ·rw [t4]; exact hj.2.1 hj1
  ·have := hj.2.1 hj1; rw [t4] at this; cases this
 ·rcases t4 with t4 | ⟨t4, y', t5, t6⟩
  ·rw [t4] at hy; exact hj.2.2.1 hj1 y hy
  ·rw [t5] at hy; cases hy
   subst hj1
   exact t6 d hd
theorem SG.ext {L1 L2 : List Asr} (ht : tidyR ops n = true) (hag : ∀ j, j ≤ i → atI L1 j = atI L2 j) (h : SG P n ops Q l w0 K lo al ef jy ca ta Os Gs L1 i) : SG P n ops Q l w0 K lo al ef jy ca ta Os Gs L2 i := fun t0 h0 s LB a w hF hG hV hs hc hr hD => by
 have hlt : ∀ j d, waitsFor ops i j d = true → j < i := fun j d hw => by
  cases ho : ops[i]? with
  | none => simp [waitsFor, ho] at hw
  | some o =>
   simp only [waitsFor, ho, Bool.and_eq_true, beq_iff_eq] at hw
   obtain ⟨e, he, h2⟩ := Array.any_eq_true'.1 hw.1
   simp only [Bool.and_eq_true, beq_iff_eq] at h2
   rw [← h2.1]; exact tidy_after ht ho e he h2.2
 have h2 := h t0 h0 s LB a w hF hG hV hs hc hr (fun j d hw => by unfold IG; rw [hag j (Nat.le_of_lt (hlt j d hw))]; exact hD j d hw)
 unfold IG at h2
 rw [hag i (Nat.le_refl _)] at h2
 exact h2
def earlyE (ops : Array Oper) (ef i : Nat) : Bool := Nat.ble ops.size ef || (earlyL ops ef).contains i
def earlyJ (ops : Array Oper) (ef jy i : Nat) : Bool := !Nat.beq i jy || earlyE ops ef i
theorem earlyJ_of (h : earlyJ ops ef jy i = true) : i = jy → earlyE ops ef i = true := fun e => by
 unfold earlyJ at h
 rw [e, Nat.beq_refl] at h
 rw [e]; exact h
theorem ev_none {L : Array Bool} (hV : VG al ef s L) (hs : L.size = ops.size) (hc : ClosedG ops L) (hi : L.getD i false = false) (he : earlyE ops ef i = true) : s.ev = none := by
 cases hev : s.ev with
 | none => rfl
 | some v =>
  have hd : L.getD ef false = true := hV.2.2.2.2 (by rw [hev]; rfl)
  unfold earlyE at he
  rw [Bool.or_eq_true] at he
  rcases he with he | he
  ·have h1 : ops.size ≤ ef := Nat.le_of_ble_eq_true he
   rw [Array.getD_eq_getD_getElem?, Array.getElem?_eq_none (by omega)] at hd
   cases hd
  ·have := early_done (D := fun x => L.getD x false = true) (hc ef hd) (fun j hj x hx => hc j hj x hx) i (List.contains_iff_mem.1 he)
   rw [hi] at this; cases this
theorem deps_has {t0 : Act} (h0 : Has n l t0) {a : Act} {w : World} (hF : ∀ t, freeT ops t = true → a.eval (.tmp t) = t0.tmps.getD t undef) (hD : ∀ j d, waitsFor ops i j d = true → IG al ef jy lo ca ta Os Gs L s j (a.eval (.tmp d)) w)
  (hn : ∀ j d, waitsFor ops i j d = true → j ∈ al ∨ j = ef → atI L j = anyA) : ∀ j d, waitsFor ops i j d = true → atI L j (a.eval (.tmp d)) w := fun j d hw => by
 by_cases h1 : j ∈ al ∨ j = ef
 ·rw [hn j d hw h1]; trivial
 ·rw [not_or] at h1
  exact ((hD j d hw).2.2.2 h1.1 h1.2).here
def NoAsr (al : List Nat) (ef : Nat) (L : List Asr) : Prop := ∀ j, j ∈ al ∨ j = ef → atI L j = anyA
theorem vg_other {L : Array Bool} (hV : VG al ef s L) (hi : i ∉ al) (he : i ≠ ef) : VG al ef s (L.setIfInBounds i true) :=
 ⟨fun a ha => by rw [getD_set_ne false (fun e => hi (by rw [e]; exact ha))]; exact hV.1 a ha, hV.2.1, hV.2.2.1, by rw [getD_set_ne false he]; exact hV.2.2.2⟩
variable {d : Nat} {op : Op} {ty : TypeId} {pos : String} {aft_ : Array Edge} {v : Value} {gd : Option (Nat × Bool)}
theorem sg_base (hal : i ∉ al) (hie : i ≠ ef) (hij : i = jy → earlyE ops ef i = true) (hi : ops[i]? = some ⟨some d, op, ty, pos, aft_, gd⟩) (hNo : NoAsr al ef L)
  (h : ∀ (t0 a : Act) s w, Has n l t0 → (∀ t, freeT ops t = true → a.eval (.tmp t) = t0.tmps.getD t undef) → GG w0 K lo ca ta Os Gs s w → (earlyE ops ef i = true → s.ev = none) → (∀ j d, waitsFor ops i j d = true → IG al ef jy lo ca ta Os Gs L s j (a.eval (.tmp d)) w) → (∀ j d, waitsFor ops i j d = true → atI L j (a.eval (.tmp d)) w) →
   wpOp P ops Q i (fun a' w' => ∃ v, a' = a.put (some d) v ∧ AwS lo (XB (OE ca ta Os s) (Gs s.ev)) (atI L i) v w' ∧ Below w.heap.size w w') a w) : SG P n ops Q l w0 K lo al ef jy ca ta Os Gs L i := fun t0 h0 s LB a w hF hG hV hs hc hr hD => by
 refine wpOp_mono ?_ (h t0 a s w h0 hF hG (fun he => ev_none hV hs hc hr.1 he) hD (deps_has h0 hF hD fun j d _ hj => hNo j hj))
 rintro a' w' ⟨v, rfl, hA, hb⟩
 refine ⟨s, v, by rw [hi]; rfl, vg_other hV hal hie, ⟨hG.1.grow hb, Nat.le_trans hG.2.1 hb.size, hG.2.2⟩, Tr.refl hb, fun _ _ => ⟨fun h => absurd h hal, fun h => absurd h hie, (fun h y hy => by rw [ev_none hV hs hc hr.1 (hij h)] at hy; cases hy), fun _ _ => hA⟩⟩
theorem wp_val {o : Oper} {a : Act} {w w' : World} {K' : Act → World → Prop} (hi : ops[i]? = some o) (hw : Region.wanted o (yielded ops a.tmps) = true) (hr : (execOp a.eval o).run P w = .ok (.value v) w') (hK : K' (a.put o.dst v) w') : wpOp P ops Q i K' a w := by
 unfold wpOp
 simp only [hi, hw, if_true]
 refine .inl ?_
 unfold Oper.wp
 rw [hr]
 exact hK
theorem sgV (li : Fr) (hal : al.contains i = false) (hie : Nat.beq i ef = false) (hij : earlyJ ops ef jy i = true) (hi : ops[i]? = some ⟨some d, op, ty, pos, aft_, gd⟩) (hNo : NoAsr al ef L) (hw : Wants ops L i ⟨some d, op, ty, pos, aft_, gd⟩) (hli : AllO n ops l L i li)
  (hr : ∀ ev w, (earlyE ops ef i = true → ev = none) → St w0 (Os ev) (Gs ev) K w → Runs P li ⟨some d, op, ty, pos, #[], none⟩ w v w) (hI : atI L i = isV v) : SG P n ops Q l w0 K lo al ef jy ca ta Os Gs L i :=
 sg_base (fun h => by rw [List.contains_iff_mem.2 h] at hal; cases hal) (fun e => by rw [e, Nat.beq_refl] at hie; cases hie) (earlyJ_of hij) hi hNo fun t0 a s w h0 hF hG he hD hD' => by
  have hS : St w0 (Os s.ev) (Gs s.ev) K w := St.drops _ hG.1
  exact wp_val hi (hw.yes hD') (by rw [execOp_guard a.eval _ _ _ _ pos _ #[] _ none]; exact hr s.ev w he hS a.eval (allO_has h0 hF hD' hli)) ⟨v, rfl, by rw [hI]; exact awS_isV, Below.refl _ _⟩
theorem sg_call {f : FuncId} {xs : List Operand} {ts : Array TypeId} (ps : List Asr) (hal : al.contains i = false) (hie : Nat.beq i ef = false) (hij : earlyJ ops ef jy i = true) (hi : ops[i]? = some ⟨some d, .call { callee := .value (.func f), args := xs.toArray, argTypes := ts }, ty, pos, aft_, gd⟩) (hNo : NoAsr al ef L) (hgo : goesIn P f = true)
  (hw : Wants ops L i ⟨some d, .call { callee := .value (.func f), args := xs.toArray, argTypes := ts }, ty, pos, aft_, gd⟩) (hp : AllP n ops l L i xs ps)
  {p : Asr} (hc : ∀ vs ev w, (earlyE ops ef i = true → ev = none) → St w0 (Os ev) (Gs ev) K w → lo ≤ w.heap.size → Holds ps vs w → Calls P f vs.toArray w (GivesN p w)) (hI : atI L i = p) : SG P n ops Q l w0 K lo al ef jy ca ta Os Gs L i :=
 sg_base (fun h => by rw [List.contains_iff_mem.2 h] at hal; cases hal) (fun e => by rw [e, Nat.beq_refl] at hie; cases hie) (earlyJ_of hij) hi hNo fun t0 a s w h0 hF hG he hD hD' => by
  have hS : St w0 (Os s.ev) (Gs s.ev) K w := St.drops _ hG.1
  have h1 := hc (xs.map a.eval) s.ev w he hS hG.2.1 (allP_holds h0 hF hD' hp)
  rw [show (xs.map a.eval).toArray = xs.toArray.map a.eval by simp] at h1
  unfold wpOp
  simp only [hi, hw.yes hD', if_true]
  refine .inl ?_
  unfold Oper.wp
  rw [run_call P a.eval w f xs.toArray ts _ rfl rfl hgo, Oper.upon_enter]
  refine h1.mono ?_
  rintro e w' ⟨v, rfl, hv, hb⟩
  refine ⟨v, by simp, ?_, hb⟩
  rw [hI]
  intro w2 h2
  refine hv w2 ⟨h2.2.1, fun b h3 h4 => h2.2.2 b (Nat.le_trans hG.2.1 h3) h4 (fun hx => ?_)⟩
  rcases hx with ⟨q, hq, rfl⟩ | ⟨g, hg, hgb⟩
  ·have := lt_of_heap (hG.1.own q hq).2; omega
  ·have := (hG.1.glt hg hgb).2; omega
theorem sg_alloc {T : TypeId} {z : Value} (hal : al.contains i = true) (hie : Nat.beq i ef = false) (hij : Nat.beq i jy = false) (hi : ops[i]? = some ⟨some d, .alloc T, ty, pos, aft_, none⟩) (hT : ta i = T) (hz : ∀ w, (zeroValue T).run P w = .ok z w) (hc : ∀ ev, (earlyE ops ef i = true → ev = none) → z.cells = (ca i ev).toArray) : SG P n ops Q l w0 K lo al ef jy ca ta Os Gs L i := fun t0 h0 s LB a w hF hG hV hs hcl hr hD => by
 have hal' : i ∈ al := List.contains_iff_mem.1 hal
 have hie' : i ≠ ef := fun e => by rw [e, Nat.beq_refl] at hie; cases hie
 have hcz := hc s.ev (fun he => ev_none hV hs hcl hr.1 he)
 have hB : Below w.heap.size w (w.alloc (.cells (ca i s.ev).toArray T)) := (Below.refl _ _).alloc (Nat.le_refl _) _
 have hnot : ¬ ∃ B, (i, B) ∈ s.bs := fun h => by have := (hV.1 i hal').2 h; rw [hr.1] at this; cases this
 refine wp_val hi rfl (v := .pointer (some ⟨w.heap.size, 0, none⟩)) (w' := w.alloc (.cells (ca i s.ev).toArray T)) (by unfold execOp; simp only []; simp [Instr.alloc, newVar, newRow, hz, hcz]) ?_
 have hX : ∀ b, XB (OE ca ta Os ⟨s.ev, (i, w.heap.size) :: s.bs⟩) (Gs s.ev) b → XB (OE ca ta Os s) (Gs s.ev) b ∨ w.heap.size ≤ b := by
  rintro b (⟨q, hq, rfl⟩ | h)
  ·unfold OE at hq
   rw [List.map_cons, List.cons_append] at hq
   rcases List.mem_cons.1 hq with rfl | hq
   ·exact .inr (Nat.le_refl _)
   ·exact .inl (.inl ⟨q, hq, rfl⟩)
  ·exact .inl (.inr h)
 refine ⟨⟨s.ev, (i, w.heap.size) :: s.bs⟩, _, by rw [hi]; rfl, ⟨fun a ha => ?_, fun q hq => ?_, List.Pairwise.cons (fun q hq e => hnot ⟨q.2, by rw [show i = q.1 from e]; exact hq⟩) hV.2.2.1, by rw [getD_set_ne false hie']; exact hV.2.2.2⟩, ⟨?_, Nat.le_trans hG.2.1 hB.size, fun q hq => ?_⟩, ⟨sameX_of hB, hX, fun q hq => List.mem_cons_of_mem _ hq, .inl rfl⟩, fun _ _ => ⟨fun _ => ⟨w.heap.size, List.mem_cons_self, rfl⟩, fun h => absurd h hie', fun h => absurd hij (by rw [h, Nat.beq_refl]; decide), fun h => absurd hal' h⟩⟩
 ·by_cases hai : a = i
  ·subst hai
   rw [Array.getD_eq_getD_getElem?, Array.getElem?_setIfInBounds_self_of_lt (by rw [hs]; exact (Array.getElem?_eq_some_iff.1 hi).1)]
   exact ⟨fun _ => ⟨_, List.mem_cons_self⟩, fun _ => rfl⟩
  ·rw [getD_set_ne false (Ne.symm hai), hV.1 a ha]
   constructor
   ·rintro ⟨B, hB⟩; exact ⟨B, List.mem_cons_of_mem _ hB⟩
   ·rintro ⟨B, hB⟩
    rcases List.mem_cons.1 hB with h | h
    ·exact absurd (congrArg Prod.fst h) hai
    ·exact ⟨B, h⟩
 ·rcases List.mem_cons.1 hq with rfl | hq
  ·exact hal'
  ·exact hV.2.1 q hq
 ·have h1 := hG.1.alloc (ca i s.ev) (ta i)
  rw [hT] at h1
  unfold OE
  rw [List.map_cons, List.cons_append, hT]
  exact h1
 ·rcases List.mem_cons.1 hq with rfl | hq
  ·exact hG.2.1
  ·exact hG.2.2 q hq
theorem sg_eff {o : Oper} (hal : al.contains ef = false) (hij : Nat.beq ef jy = false) (hi : ops[ef]? = some o)
  (h : ∀ (t0 a : Act) bs w, Has n l t0 → (∀ t, freeT ops t = true → a.eval (.tmp t) = t0.tmps.getD t undef) → GG w0 K lo ca ta Os Gs ⟨none, bs⟩ w → bs.Pairwise (fun p q => p.1 ≠ q.1) → (∀ j d, waitsFor ops ef j d = true → IG al ef jy lo ca ta Os Gs L ⟨none, bs⟩ j (a.eval (.tmp d)) w) →
   wpOp P ops Q ef (fun a' w' => ∃ v y, a' = a.put o.dst v ∧ (∀ d, o.dst = some d → v = y) ∧ St w0 (OE ca ta Os ⟨some y, bs⟩) (Gs (some y)) K w' ∧ SameX 0 (XB (OE ca ta Os ⟨none, bs⟩) (Gs none)) w w' ∧ (∀ b, XB (OE ca ta Os ⟨some y, bs⟩) (Gs (some y)) b → XB (OE ca ta Os ⟨none, bs⟩) (Gs none) b ∨ w.heap.size ≤ b) ∧ (∀ d, (ops[jy]?).bind (·.dst) = some d → a.eval (.tmp d) = y)) a w) : SG P n ops Q l w0 K lo al ef jy ca ta Os Gs L ef := fun t0 h0 s LB a w hF hG hV hs hc hr hD => by
 have hal' : ef ∉ al := fun h => by rw [List.contains_iff_mem.2 h] at hal; cases hal
 obtain ⟨ev, bs⟩ := s
 have hev : ev = none := by
  cases ev with
  | none => rfl
  | some v => have := hV.2.2.2.2 rfl; rw [hr.1] at this; cases this
 subst hev
 refine wpOp_mono ?_ (h t0 a bs w h0 hF hG hV.2.2.1 hD)
 rintro a' w' ⟨v, y, rfl, hvy, hSt, hsame, hX, hy⟩
 refine ⟨⟨some y, bs⟩, v, by rw [hi]; rfl, ⟨fun a ha => by rw [getD_set_ne false (fun e => hal' (by rw [e]; exact ha))]; exact hV.1 a ha, hV.2.1, hV.2.2.1, ?_⟩, ⟨hSt, Nat.le_trans hG.2.1 hsame.2.1, hG.2.2⟩, ⟨hsame, hX, fun q hq => hq, .inr ⟨rfl, y, rfl, hy⟩⟩, fun d hd => ⟨fun h => absurd h hal', fun _ => ?_, fun h => absurd hij (by rw [h, Nat.beq_refl]; decide), fun _ h => absurd rfl h⟩⟩
 ·rw [Array.getD_eq_getD_getElem?, Array.getElem?_setIfInBounds_self_of_lt (by rw [hs]; exact (Array.getElem?_eq_some_iff.1 hi).1)]
  exact ⟨fun _ => rfl, fun _ => rfl⟩
 ·rw [hi] at hd
  rw [hvy d hd]
theorem St.perm {O O' : Own} {G : Grows} {w : World} (h : St w0 O G K w) (hp : O.Perm O') : St w0 O' G K w where
 below := h.below
 own := fun p hp' => h.own p (hp.mem_iff.2 hp')
 dist := h.dist.perm hp (fun h => Ne.symm h)
 kept := fun q hq => ⟨(h.kept q hq).1, fun p hp' => (h.kept q hq).2 p (hp.mem_iff.2 hp')⟩
 rows := fun g hg => ⟨(h.rows g hg).1, fun b hb => ⟨fun p hp' => ((h.rows g hg).2 b hb).1 p (hp.mem_iff.2 hp'), ((h.rows g hg).2 b hb).2⟩⟩
 gdist := h.gdist
def dropF (ds : List Nat) : Fr → Fr
 | [] => []
 | p :: l => bif ds.contains p.1 then dropF ds l else p :: dropF ds l
theorem look_dropF {ds : List Nat} {t : Nat} {v : Value} : ∀ {l : Fr}, look (dropF ds l) t = some v → t ∉ ds → look l t = some v
 | [], h, _ => by cases h
 | p :: l, h, ht => by
  unfold dropF at h
  unfold look
  cases hc : ds.contains p.1 with
  | true =>
   rw [hc, cond_true] at h
   cases hb : Nat.beq p.1 t with
   | true =>
    rw [Nat.eq_of_beq_eq_true hb] at hc
    exact absurd (List.contains_iff_mem.1 hc) ht
   | false => rw [cond_false]; exact look_dropF h ht
  | false =>
   rw [hc, cond_false] at h
   unfold look at h
   cases hb : Nat.beq p.1 t with
   | true => rw [hb, cond_true] at h; rw [cond_true]; exact h
   | false => rw [hb, cond_false] at h; rw [cond_false]; exact look_dropF h ht
theorem look_dropF_not {ds : List Nat} {t : Nat} {v : Value} : ∀ {l : Fr}, look (dropF ds l) t = some v → t ∉ ds
 | [], h => by cases h
 | p :: l, h => by
  unfold dropF at h
  cases hc : ds.contains p.1 with
  | true => rw [hc, cond_true] at h; exact look_dropF_not h
  | false =>
   rw [hc, cond_false] at h
   unfold look at h
   cases hb : Nat.beq p.1 t with
   | true =>
    intro hm
    rw [← Nat.eq_of_beq_eq_true hb] at hm
    rw [List.contains_iff_mem.2 hm] at hc; cases hc
   | false => rw [hb, cond_false] at h; exact look_dropF_not h
def finL (al : List Nat) (ef jy lo : Nat) (X : Nat → Prop) (Bf : Nat → Nat) (y : Value) : Nat → List Asr → List Asr
 | _, [] => []
 | j, q :: L => (bif al.contains j then isV (.pointer (some ⟨Bf j, 0, none⟩)) else bif Nat.beq j ef then isV y else bif Nat.beq j jy then (fun v w => v = y ∧ AwS lo X q v w) else AwS lo X q) :: finL al ef jy lo X Bf y (j + 1) L
theorem atI_finL {X : Nat → Prop} {Bf : Nat → Nat} {y : Value} : ∀ (L : List Asr) (j i : Nat), i < L.length → atI (finL al ef jy lo X Bf y j L) i = (bif al.contains (i + j) then isV (.pointer (some ⟨Bf (i + j), 0, none⟩)) else bif Nat.beq (i + j) ef then isV y else bif Nat.beq (i + j) jy then (fun v w => v = y ∧ AwS lo X (atI L i) v w) else AwS lo X (atI L i))
 | [], j, i, h => by simp at h
 | q :: L, j, 0, h => by rw [Nat.zero_add]; rfl
 | q :: L, j, i + 1, h => by
  show atI (finL al ef jy lo X Bf y (j + 1) L) i = _
  rw [atI_finL L (j + 1) i (by simpa using h), show i + 1 + j = i + (j + 1) by omega]
  rfl
theorem cuts : ∀ (Bs : List Nat) (lo : Nat) (w : World), ∃ Ks : List (Nat × World), (∀ q ∈ Ks, lo ≤ q.1 ∧ Agree q.1 q.2 w ∧ ∀ B ∈ Bs, B < q.1 ∨ q.2.heap.size ≤ B) ∧ (∃ q ∈ Ks, q.2 = w) ∧ ∀ b, lo ≤ b → b < w.heap.size → b ∉ Bs → ∃ q ∈ Ks, q.1 ≤ b ∧ b < q.2.heap.size
 | [], lo, w => ⟨[(lo, w)], fun q hq => by
   simp only [List.mem_cons, List.not_mem_nil, or_false] at hq
   subst hq
   exact ⟨Nat.le_refl _, Agree.refl _ _, fun B hB => by cases hB⟩, ⟨(lo, w), List.mem_cons_self, rfl⟩, fun b h1 h2 _ => ⟨(lo, w), List.mem_cons_self, h1, h2⟩⟩
 | B :: Bs, lo, w => by
  by_cases hB : B < w.heap.size
  ·obtain ⟨A, hA, hA1⟩ := cut_world w (B := B) (lo := lo) (Nat.le_of_lt hB)
   obtain ⟨K1, k1, _, k2⟩ := cuts Bs lo A
   obtain ⟨K2, k3, ⟨q0, k5, k6⟩, k4⟩ := cuts Bs (max lo (B + 1)) w
   refine ⟨K1 ++ K2, fun q hq => ?_, ⟨q0, List.mem_append_right _ k5, k6⟩, fun b h1 h2 h3 => ?_⟩
   ·rcases List.mem_append.1 hq with hq | hq
    ·obtain ⟨e1, e2, e3⟩ := k1 q hq
     refine ⟨e1, e2.trans (hA1.mono e1), fun B' hB' => ?_⟩
     rcases List.mem_cons.1 hB' with rfl | hB'
     ·right; rw [← hA]; exact e2.1
     ·exact e3 B' hB'
    ·obtain ⟨e1, e2, e3⟩ := k3 q hq
     refine ⟨by omega, e2, fun B' hB' => ?_⟩
     rcases List.mem_cons.1 hB' with rfl | hB'
     ·left; omega
     ·exact e3 B' hB'
   ·have h4 : b ≠ B := fun e => h3 (by rw [e]; exact List.mem_cons_self)
    have h5 : b ∉ Bs := fun e => h3 (List.mem_cons_of_mem _ e)
    rcases Nat.lt_or_ge b B with h6 | h6
    ·obtain ⟨q, hq, h7⟩ := k2 b h1 (by omega) h5
     exact ⟨q, List.mem_append_left _ hq, h7⟩
    ·obtain ⟨q, hq, h7⟩ := k4 b (by omega) h2 h5
     exact ⟨q, List.mem_append_right _ hq, h7⟩
  ·obtain ⟨K1, k1, k5, k2⟩ := cuts Bs lo w
   refine ⟨K1, fun q hq => ?_, k5, fun b h1 h2 h3 => k2 b h1 h2 (fun e => h3 (List.mem_cons_of_mem _ e))⟩
   obtain ⟨e1, e2, e3⟩ := k1 q hq
   refine ⟨e1, e2, fun B' hB' => ?_⟩
   rcases List.mem_cons.1 hB' with rfl | hB'
   ·right; have := e2.1; omega
   ·exact e3 B' hB'
theorem St.more {O : Own} {G : Grows} {w : World} (h : St w0 O G K w) (Ks : List (Nat × World)) (hk : ∀ q ∈ Ks, Agree q.1 q.2 w ∧ (∀ p ∈ O, p.1 < q.1 ∨ q.2.heap.size ≤ p.1) ∧ ∀ g ∈ G, ∀ b, g.v.ownBlock = some b → b < q.1 ∨ q.2.heap.size ≤ b) : St w0 O G (Ks ++ K) w where
 below := h.below
 own := h.own
 dist := h.dist
 kept := fun q hq => by
  rcases List.mem_append.1 hq with hq | hq
  ·exact ⟨(hk q hq).1, (hk q hq).2.1⟩
  ·exact h.kept q hq
 rows := fun g hg => ⟨(h.rows g hg).1, fun b hb => ⟨((h.rows g hg).2 b hb).1, fun q hq => by
  rcases List.mem_append.1 hq with hq | hq
  ·exact (hk q hq).2.2 g hg b hb
  ·exact ((h.rows g hg).2 b hb).2 q hq⟩⟩
 gdist := h.gdist
theorem atI_len : ∀ {L : List Asr} {j : Nat}, L.length ≤ j → atI L j = anyA
 | [], _, _ => rfl
 | _ :: L, 0, h => by simp at h
 | _ :: L, j + 1, h => atI_len (L := L) (by simpa using h)
def BLS (P : Program) (n : Nat) (ops : Array Oper) (Q : Exit → Act → World → Prop) (l : Fr) (w0 : World) (K : List (Nat × World)) (lo : Nat) (al : List Nat) (ef jy : Nat) (ca : Nat → Option Value → List Value) (ta : Nat → TypeId) (Os : Option Value → Own) (Gs : Option Value → Grows) (Goal : List Asr → Prop) : Nat → List Asr → Nat → Prop
 | 0, Lr, _ => Goal Lr
 | m + 1, Lr, k => ∃ q, ((k ∈ al ∨ k = ef) → q = anyA) ∧ (NoAsr al ef (q :: Lr).reverse → SG P n ops Q l w0 K lo al ef jy ca ta Os Gs (q :: Lr).reverse k) ∧ BLS P n ops Q l w0 K lo al ef jy ca ta Os Gs Goal m (q :: Lr) (k + 1)
variable {Goal : List Asr → Prop}
theorem bls_nil {Lr : List Asr} {k : Nat} (h : Goal Lr) : BLS P n ops Q l w0 K lo al ef jy ca ta Os Gs Goal 0 Lr k := h
theorem bls_cons {m k : Nat} {Lr : List Asr} (k' : Nat) (hk : k + 1 = k') (hne : (al.contains k || Nat.beq k ef) = false) (q : Asr) (h : NoAsr al ef (q :: Lr).reverse → SG P n ops Q l w0 K lo al ef jy ca ta Os Gs (q :: Lr).reverse k) (hr : BLS P n ops Q l w0 K lo al ef jy ca ta Os Gs Goal m (q :: Lr) k') : BLS P n ops Q l w0 K lo al ef jy ca ta Os Gs Goal (m + 1) Lr k := by
 subst hk
 refine ⟨q, fun hc => ?_, h, hr⟩
 rw [Bool.or_eq_false_iff] at hne
 rcases hc with hc | hc
 ·rw [List.contains_iff_mem.2 hc] at hne; cases hne.1
 ·rw [hc, Nat.beq_refl] at hne; cases hne.2
theorem bls_any {m k : Nat} {Lr : List Asr} (k' : Nat) (hk : k + 1 = k') (h : SG P n ops Q l w0 K lo al ef jy ca ta Os Gs (anyA :: Lr).reverse k) (hr : BLS P n ops Q l w0 K lo al ef jy ca ta Os Gs Goal m (anyA :: Lr) k') : BLS P n ops Q l w0 K lo al ef jy ca ta Os Gs Goal (m + 1) Lr k := by
 subst hk; exact ⟨anyA, fun _ => rfl, fun _ => h, hr⟩
theorem bls_run (ht : tidyR ops n = true) : ∀ (m k : Nat) (Lr : List Asr), Lr.length = k → NoAsr al ef Lr.reverse → (∀ i, i < k → SG P n ops Q l w0 K lo al ef jy ca ta Os Gs Lr.reverse i) → BLS P n ops Q l w0 K lo al ef jy ca ta Os Gs Goal m Lr k →
  ∃ Lr', Lr'.length = k + m ∧ (∀ i, i < k + m → SG P n ops Q l w0 K lo al ef jy ca ta Os Gs Lr'.reverse i) ∧ Goal Lr'
 | 0, k, Lr, hl, hs, hg, h => ⟨Lr, hl, hg, h⟩
 | m + 1, k, Lr, hl, hs, hg, ⟨q, hq, hr, hn⟩ => by
  have hap : ∀ j, j < k → atI Lr.reverse j = atI (q :: Lr).reverse j := fun j hj => by rw [List.reverse_cons, atI_append (by simp; omega)]
  have hs' : NoAsr al ef (q :: Lr).reverse := fun j hj => by
   rcases Nat.lt_trichotomy j k with h1 | h1 | h1
   ·rw [← hap j h1]; exact hs j hj
   ·subst h1; rw [at_top hl]; exact hq hj
   ·exact atI_len (by simp; omega)
  obtain ⟨L', h1, h3, h4⟩ := bls_run ht m (k + 1) (q :: Lr) (by simp [hl]) hs' (fun i hi => by
   by_cases hik : i = k
   ·subst hik; exact hr hs'
   ·exact SG.ext ht (fun j hj => hap j (by omega)) (hg i (by omega))) hn
  exact ⟨L', by omega, fun i hi => h3 i (by omega), h4⟩
theorem fin_hasS {a : Act} {Kk : Fr → World → Prop} {G : Prop} : ∀ (os : List Oper) (L : List Asr) (l : Fr), (∀ i d, i < os.length → (os[i]?).bind (·.dst) = some d → atI L i (a.tmps.getD d undef) W) → (∀ i, i < os.length → (os[i]?).bind (·.dst) = none → ∃ v, atI L i v W) → a.tmps.size = n → a.defers = [] →
  (∀ t v, look l t = some v → (∀ o ∈ os, o.dst ≠ some t) → a.tmps.getD t undef = v) → (hK : ∀ l', Kk l' W → Has n l' a → G) → FinI os L l Kk W → G
 | [], L, l, hI, _, hs, hd, hl, hK, h => hK l h ⟨hs, hd, fun t v hv => hl t v hv (fun o ho => by cases ho)⟩
 | o :: os, L, l, hI, hN, hs, hd, hl, hK, h => by
  cases hod : o.dst with
  | none =>
   obtain ⟨v, hv⟩ := hN 0 (by simp) (by simp [hod])
   have h1 := h v hv
   rw [hod] at h1
   refine fin_hasS os L.tail _ (fun i e hi he => by rw [atI_tail]; exact hI (i + 1) e (by simpa using hi) (by simpa using he)) (fun i hi he => by rw [atI_tail]; exact hN (i + 1) (by simpa using hi) (by simpa using he)) hs hd ?_ hK h1
   intro t v hv hno
   refine hl t v hv (fun o' ho' => ?_)
   rcases List.mem_cons.1 ho' with rfl | ho'
   ·rw [hod]; simp
   ·exact hno o' ho'
  | some d =>
   have h0 := hI 0 d (by simp) (by simp [hod])
   have h1 := h _ h0
   refine fin_hasS os L.tail _ (fun i e hi he => by rw [atI_tail]; exact hI (i + 1) e (by simpa using hi) (by simpa using he)) (fun i hi he => by rw [atI_tail]; exact hN (i + 1) (by simpa using hi) (by simpa using he)) hs hd ?_ hK h1
   intro t v hv hno
   rw [hod] at hv
   simp only [List.cons_append, List.nil_append] at hv
   unfold look at hv
   cases hb : Nat.beq d t with
   | true =>
    simp only [hb, cond_true, Option.some.injEq] at hv
    rw [← Nat.eq_of_beq_eq_true hb]; exact hv
   | false =>
    simp only [hb, cond_false] at hv
    refine hl t v hv (fun o' ho' => ?_)
    rcases List.mem_cons.1 ho' with rfl | ho'
    ·rw [hod]; intro e; rw [Option.some.inj e, Nat.beq_refl] at hb; cases hb
    ·exact hno o' ho'
def bAt (bs : List (Nat × Nat)) (a : Nat) : Nat := ((bs.find? (fun q => Nat.beq q.1 a)).map (·.2)).getD 0
theorem bAt_mem : ∀ {bs : List (Nat × Nat)} {a : Nat}, (∃ B, (a, B) ∈ bs) → (a, bAt bs a) ∈ bs
 | [], _, ⟨B, h⟩ => by cases h
 | q :: bs, a, ⟨B, h⟩ => by
  unfold bAt
  rw [List.find?_cons]
  cases hb : Nat.beq q.1 a with
  | true =>
   have := Nat.eq_of_beq_eq_true hb
   subst this
   exact List.mem_cons_self
  | false =>
   rcases List.mem_cons.1 h with h | h
   ·rw [← h, Nat.beq_refl] at hb; cases hb
   ·exact List.mem_cons_of_mem _ (bAt_mem ⟨B, h⟩)
theorem bAt_uniq {bs : List (Nat × Nat)} (hp : bs.Pairwise (fun p q => p.1 ≠ q.1)) {p q : Nat × Nat} (h1 : p ∈ bs) (h2 : q ∈ bs) (he : p.1 = q.1) : p = q := by
 induction hp with
 | nil => cases h1
 | cons ha hb ih =>
  rcases List.mem_cons.1 h1 with h3 | h3 <;> rcases List.mem_cons.1 h2 with h4 | h4
  ·rw [h3, h4]
  ·subst h3; exact absurd he (ha _ h4)
  ·subst h4; exact absurd he.symm (ha _ h3)
  ·exact ih h3 h4
theorem regS {id k : Nat} {ds : List Nat} (hm : P.follows .mixedOrders = true) (hlo : lo = W.heap.size) (hS : St w0 (Os none) (Gs none) K W) (hk : Nat.blt k os.length = true) (htl : tailT os.toArray k = true) (ht : tidyR os.toArray n = true) (hal : al.all (fun a => Nat.blt a k) = true) (hnd : al.Nodup) (hea : al.contains ef = false)
  (evE : Value → Option Value) (hev : (Nat.blt ef k = true ∧ evE = some) ∨ (Nat.ble os.length ef = true ∧ Nat.ble os.length jy = true ∧ evE = fun _ => none)) (hdst : (List.range k).all (fun j => Nat.beq j ef || ((os.toArray[j]?).bind (·.dst)).isSome) = true) (hds : (os.drop k).all (fun o => match o.dst with | some d => ds.contains d | none => true) = true)
  (h : BLS P n os.toArray Q l w0 K lo al ef jy ca ta Os Gs (fun Lr => ∀ (Bf : Nat → Nat) (y : Value) (W' : World) (Ks : List (Nat × World)), W.heap.size ≤ W'.heap.size → (∀ q ∈ Ks, lo ≤ q.1) → St w0 (al.map (fun a => (Bf a, ca a (evE y), ta a)) ++ Os (evE y)) (Gs (evE y)) (Ks ++ K) W' →
   (∀ {O2 G2 K2 W2}, St w0 O2 G2 K2 W2 → (∀ q ∈ Ks, q ∈ K2) → SameX lo (XB (al.map (fun a => (Bf a, ca a (evE y), ta a)) ++ Os (evE y)) (Gs (evE y))) W' W2) →
   FinI (os.take k) (finL al ef jy lo (XB (al.map (fun a => (Bf a, ca a (evE y), ta a)) ++ Os (evE y)) (Gs (evE y))) Bf y 0 Lr.reverse) (dropF ds l) (fun l' W' => OpsF P n os.toArray Q (os.drop k) l' W') W') k [] 0) : CodeF P n (.region id os.toArray true) Q l W := by
 obtain ⟨Lr, h1, h2, hfin⟩ := bls_run ht k 0 [] rfl (fun j _ => by rfl) (fun i hi => by omega) h
 rw [Nat.zero_add] at h1 h2
 have hk' : k < os.length := Nat.lt_of_lt_of_le (Nat.lt_succ_self _) (Nat.le_of_ble_eq_true hk)
 have hal' : ∀ a ∈ al, a < k := fun a ha => Nat.lt_of_lt_of_le (Nat.lt_succ_self _) (Nat.le_of_ble_eq_true (List.all_eq_true.1 hal a ha))
 have hea' : ef ∉ al := fun h => by rw [List.contains_iff_mem.2 h] at hea; cases hea
 intro a ha
 refine wp_region_any hm (region_ghost (t0 := a.tmps) (d0 := a.defers) (V := VG al ef) (I := IG al ef jy lo ca ta Os Gs Lr.reverse) (G := GG w0 K lo ca ta Os Gs) (k := k) (by simpa using hk') htl (by rw [ha.size]; exact ht) (fun i hi => (h2 i hi).step a ha) ?_ _ ⟨none, []⟩ _ _ _ (by simp) (count_rep _) (fun j hj => by rw [Array.getD_eq_getD_getElem?, Array.getElem?_replicate] at hj; split at hj <;> simp at hj) (fun i _ => by rw [Array.getD_eq_getD_getElem?, Array.getElem?_replicate]; split <;> rfl) ⟨rfl, rfl, fun _ _ => rfl, ⟨by unfold OE; exact hS.drew, by rw [hlo]; exact Nat.le_refl _, (fun q hq => by cases hq)⟩, ⟨fun a _ => ?_, (fun q hq => by cases hq), List.Pairwise.nil, ?_⟩, fun i d _ hj => ?_⟩)
 ·intro s LB a' W' hR hdone hnot
  obtain ⟨hG, hG2, hG3⟩ := hR.glob
  obtain ⟨v1, v2, v3, v4⟩ := hR.cons
  obtain ⟨ev, bs⟩ := s
  have hall : ∀ x ∈ al, (x, bAt bs x) ∈ bs := fun x hx => bAt_mem ((v1 x hx).1 (hdone x (hal' x hx)))
  obtain ⟨y, hy⟩ : ∃ y, ev = evE y := by
   rcases hev with ⟨e1, e2⟩ | ⟨e1, e3, e2⟩
   ·have h3 : ev.isSome = true := v4.1 (hdone ef (Nat.lt_of_lt_of_le (Nat.lt_succ_self _) (Nat.le_of_ble_eq_true e1)))
    obtain ⟨y, hy⟩ := Option.isSome_iff_exists.1 h3
    exact ⟨y, by rw [hy, e2]⟩
   ·refine ⟨undef, ?_⟩
    rw [e2]
    have h3 := hnot ef (by have := Nat.le_of_ble_eq_true e1; omega)
    cases ev with
    | none => rfl
    | some v => have := v4.2 rfl; rw [h3] at this; cases this
  subst hy
  have hperm : bs.Perm (al.map (fun x => (x, bAt bs x))) := by
   refine (List.perm_ext_iff_of_nodup (v3.imp (fun h e => h (by rw [e]))) ?_).2 fun q => ?_
   ·refine List.Pairwise.map _ (fun x y (hxy : x ≠ y) => ?_) hnd
    intro e; exact hxy (congrArg Prod.fst e)
   ·constructor
    ·intro hq
     have h3 := hall q.1 (v2 q hq)
     have h4 := bAt_uniq v3 hq h3 rfl
     rw [h4]
     exact List.mem_map.2 ⟨q.1, v2 q hq, rfl⟩
    ·intro hq
     obtain ⟨x, hx, rfl⟩ := List.mem_map.1 hq
     exact hall x hx
  have hO : (OE ca ta Os ⟨evE y, bs⟩).Perm (al.map (fun a => (bAt bs a, ca a (evE y), ta a)) ++ Os (evE y)) := by
   unfold OE
   refine List.Perm.append_right _ ?_
   have := hperm.map (fun q : Nat × Nat => (q.2, ca q.1 (evE y), ta q.1))
   rw [List.map_map] at this
   exact this
  have hG' := hG.perm hO
  have hX : ∀ b, XB (OE ca ta Os ⟨evE y, bs⟩) (Gs (evE y)) b ↔ XB (al.map (fun a => (bAt bs a, ca a (evE y), ta a)) ++ Os (evE y)) (Gs (evE y)) b := fun b => by
   unfold XB
   constructor
   ·rintro (⟨p, hp, e⟩ | h); exact .inl ⟨p, hO.mem_iff.1 hp, e⟩; exact .inr h
   ·rintro (⟨p, hp, e⟩ | h); exact .inl ⟨p, hO.mem_iff.2 hp, e⟩; exact .inr h
  obtain ⟨Ks, c1, ⟨qw, c2, c3⟩, c4⟩ := cuts (((al.map (fun a => (bAt bs a, ca a (evE y), ta a)) ++ Os (evE y)).map (·.1)) ++ (Gs (evE y)).filterMap (fun g => g.v.ownBlock)) lo W'
  have hG4 := hG'.more Ks (fun q hq => ⟨(c1 q hq).2.1, fun p hp => (c1 q hq).2.2 p.1 (List.mem_append_left _ (List.mem_map.2 ⟨p, hp, rfl⟩)), fun g hg b hb => (c1 q hq).2.2 b (List.mem_append_right _ (List.mem_filterMap.2 ⟨g, hg, hb⟩))⟩)
  have hcov : ∀ {O2 G2 K2 W2}, St w0 O2 G2 K2 W2 → (∀ q ∈ Ks, q ∈ K2) → SameX lo (XB (al.map (fun a => (bAt bs a, ca a (evE y), ta a)) ++ Os (evE y)) (Gs (evE y))) W' W2 := fun {O2 G2 K2 W2} h2 hq => by
   refine ⟨⟨h2.below.os.trans hG.below.os.symm, h2.below.tape.trans hG.below.tape.symm, h2.below.output.trans hG.below.output.symm⟩, ?_, fun b b1 b2 b3 => ?_⟩
   ·have := (h2.kept qw (hq qw c2)).1.1; rw [c3] at this; exact this
   ·obtain ⟨q, q1, q2, q3⟩ := c4 b b1 b2 (fun hb => b3 (by
     rcases List.mem_append.1 hb with hb | hb
     ·obtain ⟨p, hp, rfl⟩ := List.mem_map.1 hb
      exact .inl ⟨p, hp, rfl⟩
     ·obtain ⟨g, hg, e⟩ := List.mem_filterMap.1 hb
      exact .inr ⟨g, hg, e⟩))
    exact ((h2.kept q (hq q q1)).1.2 b q2 q3).trans ((c1 q q1).2.1.2 b q2 q3).symm
  have htk : (os.take k).length = k := by simp; omega
  refine fin_hasS (os.take k) (finL al ef jy lo (XB (al.map (fun a => (bAt bs a, ca a (evE y), ta a)) ++ Os (evE y)) (Gs (evE y))) (bAt bs) y 0 Lr.reverse) (dropF ds l) (fun i d hi hd' => ?_) (fun i hi hd' => ?_) (hR.size.trans ha.size) (hR.defers.trans ha.defers) ?_ (fun l' h ha' => ?_) (hfin (bAt bs) y W' Ks (by rw [← hlo]; exact hG2) (fun q hq => (c1 q hq).1) hG4 hcov)
  ·have hik : i < k := by omega
   have hd2 : (os.toArray[i]?).bind (·.dst) = some d := by rw [List.getElem?_take, if_pos hik] at hd'; simpa using hd'
   obtain ⟨i1, i2, i3, i4⟩ := hR.done i d hd2 (hdone i hik)
   rw [atI_finL Lr.reverse 0 i (by simp; omega), Nat.add_zero]
   cases hc1 : al.contains i with
   | true =>
    rw [cond_true]
    obtain ⟨B, hB, e⟩ := i1 (List.contains_iff_mem.1 hc1)
    have := bAt_uniq v3 hB (hall i (List.contains_iff_mem.1 hc1)) rfl
    show _ = _
    rw [e, show B = bAt bs i from congrArg Prod.snd this]
   | false =>
    rw [cond_false]
    have hni : i ∉ al := fun hm' => by rw [List.contains_iff_mem.2 hm'] at hc1; cases hc1
    cases hc2 : Nat.beq i ef with
    | true =>
     rw [cond_true]
     have h5 := i2 (Nat.eq_of_beq_eq_true hc2)
     rcases hev with ⟨e1, e2⟩ | ⟨e1, e3, e2⟩
     ·rw [e2] at h5
      exact (Option.some.inj h5).symm
     ·rw [e2] at h5; cases h5
    | false =>
     rw [cond_false]
     have hne : i ≠ ef := fun e => by rw [e, Nat.beq_refl] at hc2; cases hc2
     have h6 : AwS lo (XB (al.map (fun a => (bAt bs a, ca a (evE y), ta a)) ++ Os (evE y)) (Gs (evE y))) (atI Lr.reverse i) (a'.tmps.getD d undef) W' := fun w2 hw2 => i4 hni hne w2 ⟨hw2.1, hw2.2.1, fun b b1 b2 b3 => hw2.2.2 b b1 b2 (fun hb => b3 ((hX b).2 hb))⟩
     cases hc3 : Nat.beq i jy with
     | true =>
      rw [cond_true]
      refine ⟨?_, h6⟩
      rcases hev with ⟨e1, e2⟩ | ⟨e1, e3, e2⟩
      ·exact i3 (Nat.eq_of_beq_eq_true hc3) y (by rw [e2])
      ·have := Nat.le_of_ble_eq_true e3
       have := Nat.eq_of_beq_eq_true hc3
       omega
     | false => rw [cond_false]; exact h6
  ·have hik : i < k := by omega
   have h3 := List.all_eq_true.1 hdst i (List.mem_range.2 hik)
   rw [Bool.or_eq_true] at h3
   have hd2 : (os.toArray[i]?).bind (·.dst) = none := by rw [List.getElem?_take, if_pos hik] at hd'; simpa using hd'
   rcases h3 with h3 | h3
   ·rw [atI_finL Lr.reverse 0 i (by simp; omega), Nat.add_zero]
    have hc1 : al.contains i = false := by rw [Nat.eq_of_beq_eq_true h3]; exact hea
    rw [hc1, cond_false, h3, cond_true]
    exact ⟨y, rfl⟩
   ·rw [hd2] at h3; cases h3
  ·intro t v hv hno
   have hl := look_dropF hv (look_dropF_not hv)
   have hnt := look_dropF_not hv
   rw [hR.frame t ?_]
   ·exact ha.at_ t v hl
   ·unfold freeT; rw [Array.all_eq_true']; intro o' ho'
    have ho2 : o' ∈ os := by simpa using ho'
    rw [← List.take_append_drop k os] at ho2
    rcases List.mem_append.1 ho2 with ho2 | ho2
    ·simpa using hno o' ho2
    ·have h5 := List.all_eq_true.1 hds o' ho2
     cases hx : o'.dst with
     | none => simp
     | some d =>
      rw [hx] at h5
      simp
      intro e; subst e
      exact hnt (List.contains_iff_mem.1 h5)
  ·have := h a' ha'
   simpa using this
 ·rw [Array.getD_eq_getD_getElem?, Array.getElem?_replicate]
  constructor
  ·intro h3; split at h3 <;> simp at h3
  ·rintro ⟨B, hB⟩; cases hB
 ·rw [Array.getD_eq_getD_getElem?, Array.getElem?_replicate]
  constructor
  ·intro h3; split at h3 <;> simp at h3
  ·intro h3; cases h3
 ·rw [Array.getD_eq_getD_getElem?, Array.getElem?_replicate] at hj
  split at hj <;> simp at hj
end
end Go.Proofs.Ytpkcaabbcoiiiaa
namespace Go.Proofs.Ytpkcaabbcoiiiaa
open Go Go.RowKit
section
variable {P : Program} {n : Nat} {Q : Exit → Act → World → Prop} {l : Fr} {w0 W : World} {ops : Array Oper} {os : List Oper} {K : List (Nat × World)} {L : List Asr} {i : Nat} {O : Own} {G : Grows}
variable {al : List Nat} {zc : Nat → List Value} {ta : Nat → TypeId} {lo ef jy : Nat} {d : Nat} {ty : TypeId} {pos : String} {aft_ : Array Edge} {v : Value}
def caNo (zc : Nat → List Value) (a : Nat) : Option Value → List Value := fun _ => zc a
def caSt (zc : Nat → List Value) (a0 a : Nat) : Option Value → List Value
 | none => zc a
 | some y => bif Nat.beq a a0 then splice (zc a) 0 y.cells.toList else zc a
theorem caSt_at (zc : Nat → List Value) (a0 : Nat) (y : Value) : caSt zc a0 a0 (some y) = splice (zc a0) 0 y.cells.toList := by
 show (bif Nat.beq a0 a0 then splice (zc a0) 0 y.cells.toList else zc a0) = _
 rw [Nat.beq_refl, cond_true]
theorem caSt_ne (zc : Nat → List Value) {a0 a : Nat} (y : Value) (h : Nat.beq a a0 = false) : caSt zc a0 a (some y) = zc a := by
 show (bif Nat.beq a a0 then splice (zc a) 0 y.cells.toList else zc a) = _
 rw [h, cond_false]
def osNo (O : Own) : Option Value → Own := fun _ => O
def gsNo (G : Grows) : Option Value → Grows := fun _ => G
theorem setMany_other {B b : Nat} (hb : b ≠ B) : ∀ (vs : List Value) (j : Nat) (w : World), (setMany w B j vs).heap[b]? = w.heap[b]?
 | [], _, _ => rfl
 | v :: vs, j, w => by unfold setMany; rw [setMany_other hb vs (j + 1)]; exact Below.heap_setCell _ _ _ _ hb
theorem setMany_rest : ∀ (vs : List Value) (B j : Nat) (w : World), ((setMany w B j vs).os = w.os ∧ (setMany w B j vs).tape = w.tape ∧ (setMany w B j vs).output = w.output) ∧ (setMany w B j vs).heap.size = w.heap.size
 | [], _, _, _ => ⟨⟨rfl, rfl, rfl⟩, rfl⟩
 | v :: vs, B, j, w => by
  unfold setMany
  obtain ⟨⟨h1, h2, h3⟩, h4⟩ := setMany_rest vs B (j + 1) (w.setCell ⟨B, j, none⟩ v)
  exact ⟨⟨h1, h2, h3⟩, h4.trans (by simp [World.setCell])⟩
theorem setMany_sameX {B j : Nat} {vs : List Value} {w : World} {X : Nat → Prop} (hX : X B) : SameX 0 X w (setMany w B j vs) :=
 ⟨(setMany_rest vs B j w).1, Nat.le_of_eq (setMany_rest vs B j w).2.symm, fun b _ _ hb => setMany_other (fun e => hb (by rw [e]; exact hX)) vs j w⟩
theorem storeAt_many {T : TypeId} {B j m : Nat} {vs cs : List Value} {U : TypeId} {w : World} {y : Value} (hsz : ∀ w, (sizeOf T).run P w = .ok m w) (hc : y.cells = vs.toArray) (hl : vs.length = m) (h1 : vs.all Value.oneCell' = true) (hB : w.heap[B]? = some (.cells cs.toArray U (0, 0))) (hj : j + m ≤ cs.length) :
  (Instr.storeAt T (.pointer (some ⟨B, j, none⟩)) y).run P w = .ok () (setMany w B j vs) := by
 subst hl
 have hst := run_storeMany (P := P) vs 0 j w cs hB (by omega) (fun u hu => List.all_eq_true.1 h1 u hu)
 rw [Nat.add_zero] at hst
 simp [Instr.storeAt, Instr.sureAddr, storeVar, hsz, hc, hst]
theorem wp_store {o : Oper} {a : Act} {w w' : World} {T : TypeId} {x y : Operand} {K' : Act → World → Prop} (hi : ops[i]? = some o) (ho : o.op = .store T x y) (hod : o.dst = none) (hog : o.guard = none) (hr : (Instr.storeAt T (a.eval x) (a.eval y)).run P w = .ok () w') (hK : K' a w') : wpOp P ops Q i K' a w := by
 unfold wpOp
 simp only [hi, wanted_free hog, if_true]
 refine .inl ?_
 obtain ⟨dst, op, ty, pos, aft, gd⟩ := o
 simp only at ho hod
 subst ho; subst hod
 unfold Oper.wp execOp
 simp only [Sem.run_bind, hr, Result.andThen_ok, Sem.run_pure, Oper.upon_skip]
 exact hK
theorem eff_stA {T : TypeId} {tx tyy m : Nat} {py : Asr} (a0 : Nat) (hal : al.contains ef = false) (hij : Nat.beq ef jy = false) (hi : ops[ef]? = some ⟨none, .store T (.tmp tx) (.tmp tyy), ty, pos, aft_, none⟩) (hjy : (ops[jy]?).bind (·.dst) = some tyy)
  (hwx : waitsFor ops ef a0 tx = true) (ha0 : al.contains a0 = true) (hwy : waitsFor ops ef jy tyy = true) (hja : al.contains jy = false) (hLy : atI L jy = py) (hsz : ∀ w, (sizeOf T).run P w = .ok m w) (hzl : Nat.ble m (zc a0).length = true) (hpy : ∀ v w, py v w → ∃ vs : List Value, v.cells = vs.toArray ∧ vs.length = m ∧ vs.all Value.oneCell' = true) : SG P n ops Q l w0 K lo al ef jy (caSt zc a0) ta (osNo O) (gsNo G) L ef :=
 sg_eff hal hij hi fun t0 a bs w h0 hF hG hbs hD => by
  obtain ⟨B, hB, ex⟩ := (hD a0 tx hwx).1 (List.contains_iff_mem.1 ha0)
  have hy := ((hD jy tyy hwy).2.2.2 (fun h => by rw [List.contains_iff_mem.2 h] at hja; cases hja) (fun e => by rw [e, Nat.beq_refl] at hij; cases hij)).here
  rw [hLy] at hy
  obtain ⟨vs, hc, hl, h1⟩ := hpy _ _ hy
  obtain ⟨k, hk⟩ := List.getElem?_of_mem hB
  have hkl := (List.getElem?_eq_some_iff.1 hk).1
  have hOk : (OE (caSt zc a0) ta (osNo O) ⟨none, bs⟩)[k]? = some (B, zc a0, ta a0) := by
   unfold OE
   rw [List.getElem?_append_left (by simpa using hkl), List.getElem?_map, hk]
   rfl
  have hXB : XB (OE (caSt zc a0) ta (osNo O) ⟨none, bs⟩) (gsNo G none) B := .inl ⟨_, List.mem_of_getElem? hOk, rfl⟩
  have hrun := storeAt_many (P := P) hsz hc hl h1 (hG.1.at_ k hOk) (j := 0) (by have := Nat.le_of_ble_eq_true hzl; omega)
  have hO' : OE (caSt zc a0) ta (osNo O) ⟨some (a.eval (.tmp tyy)), bs⟩ = (OE (caSt zc a0) ta (osNo O) ⟨none, bs⟩).set k (B, splice (zc a0) 0 vs, ta a0) := by
   unfold OE
   rw [List.set_append_left _ _ (by simpa using hkl)]
   congr 1
   apply List.ext_getElem?
   intro j
   rw [List.getElem?_set, List.getElem?_map, List.getElem?_map]
   by_cases hj : k = j
   ·subst hj
    rw [if_pos rfl, hk, if_pos (by simpa using hkl)]
    show some (B, caSt zc a0 a0 (some (a.eval (.tmp tyy))), ta a0) = _
    rw [caSt_at, hc]
   ·rw [if_neg hj]
    cases hq : bs[j]? with
    | none => rfl
    | some q =>
     have hne : q.1 ≠ a0 := fun e => by
      have hjl := (List.getElem?_eq_some_iff.1 hq).1
      have e1 := (List.getElem?_eq_some_iff.1 hq).2
      have e2 := (List.getElem?_eq_some_iff.1 hk).2
      have hp := List.pairwise_iff_getElem.1 hbs
      rcases Nat.lt_or_ge j k with h | h
      ·have := hp j k hjl hkl h; rw [e1, e2] at this; exact this e
      ·have := hp k j hkl hjl (by omega); rw [e1, e2] at this; exact this e.symm
     have hb : Nat.beq q.1 a0 = false := by
      cases hb : Nat.beq q.1 a0 with
      | true => exact absurd (Nat.eq_of_beq_eq_true hb) hne
      | false => rfl
     show some (q.2, caSt zc a0 q.1 (some (a.eval (.tmp tyy))), ta q.1) = some (q.2, caSt zc a0 q.1 none, ta q.1)
     rw [caSt_ne _ _ hb]
     rfl
  refine wp_store hi rfl rfl rfl (by rw [ex]; exact hrun) ⟨undef, a.eval (.tmp tyy), rfl, (fun d hd => by cases hd), ?_, setMany_sameX hXB, ?_, fun d hd => ?_⟩
  ·rw [hO']
   exact hG.1.setMany k vs 0 hOk
  ·rintro b (⟨p, hp, rfl⟩ | h)
   ·rw [hO'] at hp
    rcases List.mem_or_eq_of_mem_set hp with hp | rfl
    ·exact .inl (.inl ⟨p, hp, rfl⟩)
    ·exact .inl hXB
   ·exact .inl (.inr h)
  ·rw [hjy] at hd; cases hd; rfl
end
end Go.Proofs.Ytpkcaabbcoiiiaa
namespace Go.Proofs.Ytpkcaabbcoiiiaa
open Go Go.RowKit
theorem ownsRow_sl {w : World} {base size n : Nat} {e : TypeId} {v : Value} {xs : List Value} (h : w.ownsRow base e size v n xs) : ∃ a c, v = .slice a n c ∧ n ≤ c := by
 rcases h.2 with ⟨rfl, rfl⟩ | ⟨g, cap, cur, rfl, _, _, hn, _⟩
 ·exact ⟨none, 0, rfl, Nat.le_refl _⟩
 ·exact ⟨_, cap, rfl, hn⟩
theorem ownsRow_at {w : World} {base size n : Nat} {e : TypeId} {v : Value} {xs : List Value} (h : w.ownsRow base e size v n xs) (hn : 0 < n) : ∃ b c, v = .slice (some ⟨b, 0, none⟩) n c ∧ base ≤ b := by
 rcases h.2 with ⟨rfl, rfl⟩ | ⟨g, cap, cur, rfl, hb, _, _, _⟩
 ·omega
 ·exact ⟨_, cap, rfl, hb⟩
theorem ownsRow_base {w : World} {base base' size n : Nat} {e : TypeId} {v : Value} {xs : List Value} (h : w.ownsRow base e size v n xs) (hb : base' ≤ base) : w.ownsRow base' e size v n xs :=
 ⟨h.1, h.2.imp id fun ⟨g, cap, cur, e, hg, k⟩ => ⟨g, cap, cur, e, Nat.le_trans hb hg, k⟩⟩
theorem ownsRow_agree {w W : World} {lo size n : Nat} {e : TypeId} {v : Value} {xs : List Value} (h : w.ownsRow lo e size v n xs) (hg : Agree lo w W) : W.ownsRow lo e size v n xs := by
 refine ⟨h.1, ?_⟩
 rcases h.2 with h2 | ⟨g, cap, cur, rfl, hb, hh, k⟩
 ·exact .inl h2
 ·exact .inr ⟨g, cap, cur, rfl, hb, (hg.2 g hb (lt_of_heap hh)).trans hh, k⟩
theorem ownsRow_cells {w : World} {base size n : Nat} {e : TypeId} {a : Option Addr} {c : Nat} {xs : List Value} (h : w.ownsRow base e size (.slice a n c) n xs) : (a = none ∧ n = 0) ∨ ∃ b, a = some ⟨b, 0, none⟩ ∧ base ≤ b ∧ ∀ (j : Nat) u, xs[j]? = some u → w.cell? ⟨b, j, none⟩ = some u := by
 rcases h.2 with ⟨e1, e2⟩ | ⟨g, cap, cur, e1, hb, hh, hn, hm, hs, ht⟩
 ·cases e1; exact .inl ⟨rfl, e2⟩
 ·cases e1
  refine .inr ⟨g, rfl, hb, fun j u hj => ?_⟩
  rw [← ht, List.getElem?_take] at hj
  split at hj
  ·simp only [World.cell?, hh]
   simpa using hj
  ·cases hj
theorem castL {os : List Oper} {L L' : List Asr} {l : Fr} {K : Fr → World → Prop} {W : World} (h : L = L') (k : FinI os L' l K W) : FinI os L l K W := h ▸ k
theorem fin_sV {os : List Oper} {L : List Asr} {l : Fr} {W : World} {lo : Nat} {X : Nat → Prop} {c : Value} {K : Fr → World → Prop} {dst : Nat} {op : Op} {ty : TypeId} {pos : String} {aft : Array Edge} {g : Option (Nat × Bool)} (h : FinI os L ((dst, c) :: l) K W) : FinI (⟨some dst, op, ty, pos, aft, g⟩ :: os) (AwS lo X (isV c) :: L) l K W := fun v hv => by
 have : v = c := hv.here
 subst this; exact h
theorem fin_0 {os : List Oper} {L : List Asr} {l : Fr} {W : World} {p : Asr} {K : Fr → World → Prop} {op : Op} {ty : TypeId} {pos : String} {aft : Array Edge} {g : Option (Nat × Bool)} (h : FinI os L l K W) : FinI (⟨none, op, ty, pos, aft, g⟩ :: os) (p :: L) l K W := fun _ _ => h
section
variable {w0 W : World} {O : Own} {G : Grows} {K : List (Nat × World)}
theorem St.castO {O' : Own} (h : St w0 O G K W) (e : O = O') : St w0 O' G K W := e ▸ h
theorem St.castG {G' : Grows} (h : St w0 O G K W) (e : G = G') : St w0 O G' K W := e ▸ h
def Held (w0 : World) (Kk : List (Nat × World)) (p : World → Prop) : Prop := ∀ {O2 : Own} {G2 : Grows} {K2 : List (Nat × World)} {W2 : World}, St w0 O2 G2 K2 W2 → (∀ q ∈ Kk, q ∈ K2) → p W2
theorem Held.now {p : World → Prop} (h : Held w0 K p) (hS : St w0 O G K W) : p W := h hS (fun q hq => hq)
theorem Held.one {p : World → Prop} {lo : Nat} {A : World} (h : ∀ W2, Agree lo A W2 → p W2) : Held w0 [(lo, A)] p := fun h2 hk => h _ (h2.kept (lo, A) (hk _ List.mem_cons_self)).1
theorem Held.more {p : World → Prop} {Kk Kl : List (Nat × World)} (h : Held w0 Kk p) (k : ∀ q ∈ Kk, q ∈ Kl) : Held w0 Kl p := fun h2 hk => h h2 (fun q hq => hk q (k q hq))
end
section
variable {P : Program} {n : Nat} {ops : Array Oper} {Q : Exit → Act → World → Prop} {l : Fr} {w0 W : World} {O : Own} {G : Grows} {K : List (Nat × World)} {os : List Oper} {d : Nat} {ty : TypeId} {pos : String} {aft : Array Edge}
theorem op_callX {f : FuncId} {args : Array Operand} {ts : Array TypeId} {vs : List Value} {R : Ending → World → Prop} (hgo : goesIn P f = true) (ha : args.toList.map (evL l) = vs.map some) (hc : Calls P f vs.toArray W R)
  (hd : Nat.blt d n = true)
  (h : ∀ e W', R e W' → ∃ v, e = .returned v ∧ OpsF P n ops Q os ((d, v) :: l) W') : OpsF P n ops Q (⟨some d, .call { callee := .value (.func f), args := args, argTypes := ts }, ty, pos, aft, none⟩ :: os) l W := fun a hl => by
 refine wpList_plain rfl fun K' hK => ?_
 unfold Oper.wp
 rw [run_call P a.eval W f args ts _ rfl rfl hgo, Oper.upon_enter]
 have hargs : args.map a.eval = vs.toArray := by
  have key : ∀ (xs : List Operand) (us : List Value), xs.map (evL l) = us.map some → xs.map a.eval = us := by
   intro xs
   induction xs with
   | nil => intro us h; cases us <;> simp at h ⊢
   | cons x xs ih =>
    intro us h
    cases us with
    | nil => simp at h
    | cons u us =>
     simp only [List.map_cons, List.cons.injEq] at h
     simp only [List.map_cons, hl.ev x u h.1, ih us h.2]
  apply Array.ext'
  rw [Array.toList_map, key _ _ ha]
 rw [hargs]
 refine hc.mono ?_
 intro e W' hRe
 obtain ⟨v, rfl, hn⟩ := h e W' hRe
 exact hK _ _ (hn _ (hl.put hd))
end
end Go.Proofs.Ytpkcaabbcoiiiaa
namespace Go.Proofs.Ytpkcaabbcoiiiaa
open Go Go.RowKit
section
variable {P : Program} {n : Nat} {Q : Exit → Act → World → Prop} {l : Fr} {w0 W : World} {ops : Array Oper} {os : List Oper} {K : List (Nat × World)} {L : List Asr} {i : Nat}
variable {O : Own} {Gs : List Value → Grows} {efs : List Nat} {lo : Nat} {s : List Value}
variable {d : Nat} {op : Op} {ty : TypeId} {pos : String} {aft_ : Array Edge} {v : Value} {gd : Option (Nat × Bool)}
variable {Goal : List Asr → Prop}
theorem hg0 {Gs : List Value → Grows} {gi : Nat} {g : GR} (h : (Gs [])[gi]? = some g) : ∀ s, s.length = 0 → (Gs s)[gi]? = some g := fun s hs => by rw [List.eq_nil_of_length_eq_zero hs]; exact h
theorem hg1 {Gs : List Value → Grows} {gi : Nat} {g : GR} (h : ∀ a, (Gs [a])[gi]? = some g) : ∀ s, s.length = 1 → (Gs s)[gi]? = some g := fun s hs => by obtain ⟨a, rfl⟩ := List.length_eq_one_iff.1 hs; exact h a
end
end Go.Proofs.Ytpkcaabbcoiiiaa
namespace Go.Proofs.Ytpkcaabbcoiiiaa
open Go Go.RowKit
section
variable {P : Program} {ops : Array Oper} {Q : Exit → Act → World → Prop} {σ : Type}
structure RInvF (fr : Nat → Bool) (ops : Array Oper) (t0 : Array Value) (d0 : List Deferred) (G : σ → World → Prop) (I : σ → Nat → Value → World → Prop) (V : σ → Array Bool → Prop) (s : σ) (L : Array Bool) (a : Act) (w : World) : Prop where
 size : a.tmps.size = t0.size
 defers : a.defers = d0
 frame : ∀ t, fr t = true → a.tmps.getD t undef = t0.getD t undef
 glob : G s w
 cons : V s L
 done : ∀ i d, (ops[i]?).bind (·.dst) = some d → L.getD i false = true → I s i (a.tmps.getD d undef) w
def GStepF (P : Program) (fr : Nat → Bool) (ops : Array Oper) (Q : Exit → Act → World → Prop) (t0 : Array Value) (G : σ → World → Prop) (I : σ → Nat → Value → World → Prop) (V : σ → Array Bool → Prop) (i : Nat) : Prop :=
 ∀ s L (a : Act) w, (∀ t, fr t = true → a.eval (.tmp t) = t0.getD t undef) → G s w → V s L → L.size = ops.size → ClosedG ops L → ReadyG ops L i → (∀ j d, waitsFor ops i j d = true → I s j (a.eval (.tmp d)) w) →
  wpOp P ops Q i (fun a' w' => ∃ s' v, a' = a.put ((ops[i]?).bind (·.dst)) v ∧ V s' (L.setIfInBounds i true) ∧ G s' w' ∧ (∀ d, (ops[i]?).bind (·.dst) = some d → I s' i v w') ∧ (∀ j d, j ≠ i → (ops[j]?).bind (·.dst) = some d → I s j (a.tmps.getD d undef) w → I s' j (a.tmps.getD d undef) w')) a w
theorem region_ghostF {fr : Nat → Bool} {t0 : Array Value} {d0 : List Deferred} {G : σ → World → Prop} {I : σ → Nat → Value → World → Prop} {V : σ → Array Bool → Prop} {k : Nat} (hfr : ∀ i d, i < k → (ops[i]?).bind (·.dst) = some d → fr d = false) (hk : k < ops.size) (hl : tailT ops k = true) (ht : tidyR ops t0.size = true)
  (hstep : ∀ i, i < k → GStepF P fr ops Q t0 G I V i)
  (hfin : ∀ s L a w, RInvF fr ops t0 d0 G I V s L a w → (∀ i, i < k → L.getD i false = true) → (∀ i, k ≤ i → L.getD i false = false) → wpList P ops Q (ops.toList.drop k) a w) :
  ∀ (fuel : Nat) (s : σ) (L : Array Bool) (a : Act) (w : World), L.size = ops.size → L.toList.count false ≤ fuel → ClosedG ops L → (∀ i, k ≤ i → L.getD i false = false) → RInvF fr ops t0 d0 G I V s L a w → wpAny P .any ops Q fuel L a w := by
 intro fuel
 induction fuel with
 | zero =>
  intro s L a w hs hc hcl hn h
  have := cnt_set _ _ (cnt_getD (by omega) (hn k (Nat.le_refl _)))
  omega
 | succ fuel ih =>
  intro s L a w hs hc hcl hn h
  by_cases hall : ∀ i, i < k → L.getD i false = true
  ·have hcnt : ops.size - k ≤ L.toList.count false := by
    have key : ∀ (l : List Bool) (k : Nat), (∀ i, k ≤ i → i < l.length → l[i]? = some false) → l.length - k ≤ l.count false := by
     intro l
     induction l with
     | nil => intro k _; simp
     | cons b l ihl =>
      intro k hk
      cases k with
      | zero =>
       have h0 := hk 0 (Nat.le_refl _) (by simp)
       simp at h0; subst h0
       have := ihl 0 (fun i _ hi => by have := hk (i + 1) (by omega) (by simpa using hi); simpa using this)
       simp at this ⊢; omega
      | succ k =>
       have := ihl k (fun i hi hi2 => by have := hk (i + 1) (by omega) (by simpa using hi2); simpa using this)
       rw [List.count_cons]; simp; omega
    have := key L.toList k (fun i h1 h2 => cnt_getD (by simpa using h2) (hn i h1))
    simpa [hs] using this
   exact tail_run (fun _ _ => trivial) hl ht (ops.size - k) k (fuel + 1) L a w (by omega) (Nat.le_refl _) (by omega) hs hcl hall hn (hfin s L a w h hall hn)
  ·refine ⟨fun hr => ?_, fun i hi => ?_⟩
   ·exfalso; apply hall
    intro i hi
    have h1 := ready_nil ht hs hr i (by omega)
    rw [Array.getD_eq_getD_getElem?, Array.getElem?_eq_getElem (by omega)] at h1 ⊢
    simpa using h1
   ·obtain ⟨his, hr⟩ := ready_g hi hs
    have hik : i < k := by
     rcases Nat.lt_or_ge i k with h1 | h1
     ·exact h1
     ·exfalso; apply hall
      intro x hx
      exact ready_early hcl hr x (tail_early hl his h1 (by omega))
    have hc1 := cnt_set _ _ (cnt_getD (by omega) hr.1)
    refine wpOp_mono ?_ (hstep i hik s L a w (fun t ht => h.frame t ht) h.glob h.cons hs hcl hr (fun j d hw => ?_))
    ·rintro a' w' ⟨s', v, rfl, hV, hG, hI, hst⟩
     refine ih s' _ _ _ (by simpa using hs) ?_ (hcl.next hr (by omega)) (fun x hx => by rw [getD_set_ne false (by omega)]; exact hn x hx) ⟨by rw [put_size]; exact h.size, by rw [put_defers]; exact h.defers, fun t hf => ?_, hG, hV, fun j d hd hj => ?_⟩
     ·rw [Array.toList_setIfInBounds]; omega
     ·rw [put_other ?_]
      ·exact h.frame t hf
      ·intro hd
       rw [hfr i t hik hd] at hf; cases hf
     ·by_cases hji : j = i
      ·subst hji
       rw [put_at hd (by rw [h.size]; exact (tidy_dst ht hd).1)]
       exact hI d hd
      ·rw [getD_set_ne false (Ne.symm hji)] at hj
       rw [put_other (fun e => hji ((tidy_dst ht e).2 j hd))]
       exact hst j d hji hd (h.done j d hd hj)
    ·have hj : j ∈ aft ops i := by
      unfold waitsFor at hw
      unfold aft
      cases ho : ops[i]? with
      | none => simp [ho] at hw
      | some o =>
       simp only [ho, Bool.and_eq_true, beq_iff_eq] at hw
       obtain ⟨e, he, h2⟩ := Array.any_eq_true'.1 hw.1
       simp only [Bool.and_eq_true, beq_iff_eq] at h2
       exact List.mem_map.2 ⟨e, List.mem_filter.2 ⟨Array.mem_toList_iff.2 he, h2.2⟩, h2.1⟩
     have hd : (ops[j]?).bind (·.dst) = some d := by
      unfold waitsFor at hw
      rw [Bool.and_eq_true, beq_iff_eq] at hw
      exact hw.2
     exact h.done j d hd (hr.2 j hj)
end
abbrev Sy := Nat → Option Value
def isE (s : Sy) (e : Nat) : Asr := fun v _ => s e = some v
def LS (E : List Nat) (s : Sy) : Nat → List Asr → List Asr
 | _, [] => []
 | j, q :: L => (bif E.contains j then isE s j else q) :: LS E s (j + 1) L
theorem atI_LS {E : List Nat} {s : Sy} : ∀ (L : List Asr) (j i : Nat), i < L.length → atI (LS E s j L) i = (bif E.contains (i + j) then isE s (i + j) else atI L i)
 | [], j, i, h => by simp at h
 | q :: L, j, 0, h => by rw [Nat.zero_add]; rfl
 | q :: L, j, i + 1, h => by
  show atI (LS E s (j + 1) L) i = _
  rw [atI_LS L (j + 1) i (by simpa using h), show i + 1 + j = i + (j + 1) by omega]
  rfl
theorem LS_length {E : List Nat} {s : Sy} : ∀ (L : List Asr) (j : Nat), (LS E s j L).length = L.length
 | [], _ => rfl
 | q :: L, j => by show (LS E s (j + 1) L).length + 1 = _; rw [LS_length L (j + 1)]; rfl
theorem at_n {E : List Nat} {s : Sy} {L : List Asr} {j : Nat} {p : Asr} (hl : Nat.blt j L.length = true) (he : E.contains j = false) (h : atI L j = p) : atI (LS E s 0 L) j = p := by
 rw [atI_LS L 0 j (Nat.lt_of_lt_of_le (Nat.lt_succ_self _) (Nat.le_of_ble_eq_true hl)), Nat.add_zero, he, cond_false, h]
structure AB where
 a : Nat
 T : TypeId
 zs : List Value
 st : Nat
def blkNo : Value → Nat
 | .pointer (some p) => p.block
 | _ => 0
def AB.cs (q : AB) (s : Sy) : List Value := match s q.st with | none => q.zs | some y => splice q.zs 0 y.cells.toList
def AS (al : List AB) (s : Sy) : Own := al.flatMap fun q => match s q.a with | some v => [(blkNo v, q.cs s, q.T)] | none => []
theorem AS_none (al : List AB) : AS al (fun _ => none) = [] := by
 unfold AS
 induction al with
 | nil => rfl
 | cons q al ih => rw [List.flatMap_cons, ih]; rfl
section
variable {P : Program} {n : Nat} {Q : Exit → Act → World → Prop} {l : Fr} {w0 W : World} {ops opf : Array Oper} {os : List Oper} {K : List (Nat × World)} {L : List Asr} {i : Nat}
variable {Ob : Own} {al : List AB} {G : Sy → Grows} {E : List Nat} {lo : Nat} {s : Sy}
abbrev OY (al : List AB) (Ob : Own) (s : Sy) : Own := AS al s ++ Ob
def GY0 (w0 : World) (K : List (Nat × World)) (lo : Nat) (al : List AB) (Ob : Own) (G : Sy → Grows) (s : Sy) (w : World) : Prop := St w0 (OY al Ob s) (G s) K w ∧ lo ≤ w.heap.size
def GY (w0 : World) (K : List (Nat × World)) (lo : Nat) (al : List AB) (Ob : Own) (G : Sy → Grows) (E : List Nat) (L : List Asr) (s : Sy) (w : World) : Prop := GY0 w0 K lo al Ob G s w ∧ ∀ e ∈ E, ∀ v, s e = some v → AwS lo (XB (OY al Ob s) (G s)) (atI L e) v w
def VY (E : List Nat) (s : Sy) (L : Array Bool) : Prop := (∀ e ∈ E, (L.getD e false = true ↔ (s e).isSome = true)) ∧ ∀ e, e ∉ E → s e = none
def IY (lo : Nat) (al : List AB) (Ob : Own) (G : Sy → Grows) (E : List Nat) (L : List Asr) (s : Sy) (i : Nat) (v : Value) (w : World) : Prop := (i ∈ E → s i = some v) ∧ AwS lo (XB (OY al Ob s) (G s)) (atI L i) v w
structure Kn (ops : Array Oper) (E : List Nat) (i : Nat) (s : Sy) : Prop where
 yes : ∀ e, E.contains e = true → (earlyL ops i).contains e = true → ∃ v, s e = some v
 no : ∀ e, (earlyL ops e).contains i = true → s e = none
 out : ∀ e, E.contains e = false → s e = none
 self : s i = none
def TrY (al : List AB) (Ob : Own) (G : Sy → Grows) (i : Nat) (s s' : Sy) (w w' : World) : Prop := SameX 0 (XB (OY al Ob s) (G s)) w w' ∧ (∀ b, XB (OY al Ob s') (G s') b → XB (OY al Ob s) (G s) b ∨ w.heap.size ≤ b) ∧ ∀ j, j ≠ i → s' j = s j
def SY (P : Program) (n : Nat) (ops opf : Array Oper) (Q : Exit → Act → World → Prop) (l : Fr) (w0 : World) (K : List (Nat × World)) (lo : Nat) (al : List AB) (Ob : Own) (G : Sy → Grows) (E : List Nat) (L : List Asr) (i : Nat) : Prop :=
 ∀ t0, Has n l t0 → ∀ s LB (a : Act) w, (∀ t, freeT opf t = true → a.eval (.tmp t) = t0.tmps.getD t undef) → GY0 w0 K lo al Ob G s w → VY E s LB → LB.size = ops.size → ClosedG ops LB → ReadyG ops LB i → (∀ j d, waitsFor ops i j d = true → IY lo al Ob G E L s j (a.eval (.tmp d)) w) →
  wpOp P ops Q i (fun a' w' => ∃ s' v, a' = a.put ((ops[i]?).bind (·.dst)) v ∧ VY E s' (LB.setIfInBounds i true) ∧ GY0 w0 K lo al Ob G s' w' ∧ TrY al Ob G i s s' w w' ∧ (∀ d, (ops[i]?).bind (·.dst) = some d → IY lo al Ob G E L s' i v w') ∧ (i ∈ E → ∀ y, s' i = some y → AwS lo (XB (OY al Ob s') (G s')) (atI L i) y w')) a w
theorem SY.step (h : SY P n ops opf Q l w0 K lo al Ob G E L i) : ∀ a, Has n l a → GStepF P (freeT opf) ops Q a.tmps (GY w0 K lo al Ob G E L) (IY lo al Ob G E L) (VY E) i := fun t0 h0 s LB a w hF hG hV hs hc hr hD => by
 refine wpOp_mono ?_ (h t0 h0 s LB a w hF hG.1 hV hs hc hr hD)
 rintro a' w' ⟨s', v, h1, h2, h3, ⟨t1, t2, t3⟩, h5, h6⟩
 refine ⟨s', v, h1, h2, ⟨h3, fun e he y hy => ?_⟩, h5, fun j d hji hd hj => ⟨fun hjE => ?_, hj.2.next t1 t2⟩⟩
 ·by_cases hei : e = i
  ·subst hei; exact h6 he y hy
  ·rw [t3 e hei] at hy
   exact (hG.2 e he y hy).next t1 t2
 ·rw [t3 j hji]; exact hj.1 hjE
theorem waits_lt (ht : tidyR ops n = true) {j d : Nat} (hw : waitsFor ops i j d = true) : j < i := by
 cases ho : ops[i]? with
 | none => simp [waitsFor, ho] at hw
 | some o =>
  simp only [waitsFor, ho, Bool.and_eq_true, beq_iff_eq] at hw
  obtain ⟨e, he, h2⟩ := Array.any_eq_true'.1 hw.1
  simp only [Bool.and_eq_true, beq_iff_eq] at h2
  rw [← h2.1]; exact tidy_after ht ho e he h2.2
theorem SY.ext {L1 L2 : List Asr} (ht : tidyR ops n = true) (hag : ∀ j, j ≤ i → atI L1 j = atI L2 j) (h : SY P n ops opf Q l w0 K lo al Ob G E L1 i) : SY P n ops opf Q l w0 K lo al Ob G E L2 i := fun t0 h0 s LB a w hF hG hV hs hc hr hD => by
 have h2 := h t0 h0 s LB a w hF hG hV hs hc hr (fun j d hw => by unfold IY; rw [hag j (Nat.le_of_lt (waits_lt ht hw))]; exact hD j d hw)
 unfold IY at h2
 rw [hag i (Nat.le_refl _)] at h2
 exact h2
theorem kn_of {LB : Array Bool} (hV : VY E s LB) (hs : LB.size = ops.size) (hc : ClosedG ops LB) (hr : ReadyG ops LB i) : Kn ops E i s where
 yes e he h := Option.isSome_iff_exists.1 ((hV.1 e (List.contains_iff_mem.1 he)).1 (ready_early hc hr e (List.contains_iff_mem.1 h)))
 no e h := by
  cases hse : s e with
  | none => rfl
  | some v =>
   have hE : e ∈ E := Decidable.byContradiction fun hn => by rw [hV.2 e hn] at hse; cases hse
   have hd : LB.getD e false = true := (hV.1 e hE).2 (by rw [hse]; rfl)
   have := early_done (D := fun x => LB.getD x false = true) (hc e hd) (fun j hj x hx => hc j hj x hx) i (List.contains_iff_mem.1 h)
   rw [hr.1] at this; cases this
 out e h := hV.2 e (fun hm => by rw [List.contains_iff_mem.2 hm] at h; cases h)
 self := by
  cases hse : s i with
  | none => rfl
  | some v =>
   have hE : i ∈ E := Decidable.byContradiction fun hn => by rw [hV.2 i hn] at hse; cases hse
   have := (hV.1 i hE).2 (by rw [hse]; rfl)
   rw [hr.1] at this; cases this
theorem deps_LS {a : Act} {w : World} (hD : ∀ j d, waitsFor ops i j d = true → IY lo al Ob G E L s j (a.eval (.tmp d)) w) : ∀ j d, waitsFor ops i j d = true → atI (LS E s 0 L) j (a.eval (.tmp d)) w := fun j d hw => by
 rcases Nat.lt_or_ge j L.length with hj | hj
 ·rw [atI_LS L 0 j hj, Nat.add_zero]
  cases hc : E.contains j with
  | true => rw [cond_true]; exact (hD j d hw).1 (List.contains_iff_mem.1 hc)
  | false => rw [cond_false]; exact (hD j d hw).2.here
 ·rw [atI_len (by rw [LS_length]; exact hj)]; trivial
structure Fst (ops opf : Array Oper) : Prop where
 same : ∀ (i : Nat) (o : Oper), opf[i]? = some o → ops[i]? = some o
theorem fst_take {os : List Oper} {k : Nat} : Fst os.toArray (os.take k).toArray := ⟨fun i o h => by
 have h1 : (os.take k)[i]? = some o := by simpa using h
 rw [List.getElem?_take] at h1
 split at h1
 ·simpa using h1
 ·cases h1⟩
theorem Fst.waits (h : Fst ops opf) {i j d : Nat} (hw : waitsFor opf i j d = true) : waitsFor ops i j d = true := by
 unfold waitsFor at hw ⊢
 rw [Bool.and_eq_true] at hw ⊢
 cases ho : opf[i]? with
 | none => simp [ho] at hw
 | some o =>
  rw [ho] at hw
  rw [h.same i o ho]
  refine ⟨hw.1, ?_⟩
  cases hj : opf[j]? with
  | none => simp [hj] at hw
  | some o2 => rw [hj] at hw; rw [h.same j o2 hj]; exact hw.2
variable {d : Nat} {op : Op} {ty : TypeId} {pos : String} {aft_ : Array Edge} {v : Value} {gd : Option (Nat × Bool)}
theorem vy_other {LB : Array Bool} (hV : VY E s LB) (hi : i ∉ E) : VY E s (LB.setIfInBounds i true) :=
 ⟨fun e he => by rw [getD_set_ne false (fun h => hi (by rw [h]; exact he))]; exact hV.1 e he, hV.2⟩
theorem sy_base (hie : E.contains i = false) (hi : ops[i]? = some ⟨some d, op, ty, pos, aft_, gd⟩)
  (h : ∀ (t0 a : Act) s w, Has n l t0 → (∀ t, freeT opf t = true → a.eval (.tmp t) = t0.tmps.getD t undef) → GY0 w0 K lo al Ob G s w → Kn ops E i s → (∀ j d, waitsFor ops i j d = true → IY lo al Ob G E L s j (a.eval (.tmp d)) w) → (∀ j d, waitsFor ops i j d = true → atI (LS E s 0 L) j (a.eval (.tmp d)) w) →
   wpOp P ops Q i (fun a' w' => ∃ v, a' = a.put (some d) v ∧ AwS lo (XB (OY al Ob s) (G s)) (atI L i) v w' ∧ Below w.heap.size w w') a w) : SY P n ops opf Q l w0 K lo al Ob G E L i := fun t0 h0 s LB a w hF hG hV hs hc hr hD => by
 have hie' : i ∉ E := fun h => by rw [List.contains_iff_mem.2 h] at hie; cases hie
 refine wpOp_mono ?_ (h t0 a s w h0 hF hG (kn_of hV hs hc hr) hD (deps_LS hD))
 rintro a' w' ⟨v, rfl, hA, hb⟩
 exact ⟨s, v, by rw [hi]; rfl, vy_other hV hie', ⟨hG.1.grow hb, Nat.le_trans hG.2 hb.size⟩, ⟨sameX_of hb, fun b hb => .inl hb, fun _ _ => rfl⟩, fun _ _ => ⟨fun h => absurd h hie', hA⟩, fun h => absurd h hie'⟩
theorem syV (hf : Fst ops opf) (li : Fr) (hie : E.contains i = false) (hi : ops[i]? = some ⟨some d, op, ty, pos, aft_, gd⟩) (hw : ∀ s, Wants ops (LS E s 0 L) i ⟨some d, op, ty, pos, aft_, gd⟩) (hli : ∀ s, AllO n opf l (LS E s 0 L) i li)
  (hr : ∀ s w, St w0 Ob (G s) K w → Runs P li ⟨some d, op, ty, pos, #[], none⟩ w v w) (hI : atI L i = isV v) : SY P n ops opf Q l w0 K lo al Ob G E L i :=
 sy_base hie hi fun t0 a s w h0 hF hG hk hD hD' => by
  exact wp_val hi ((hw s).yes hD') (by rw [execOp_guard a.eval _ _ _ _ pos _ #[] _ none]; exact hr s w (St.drops _ hG.1) a.eval (allO_has h0 hF (fun j d h => hD' j d (hf.waits h)) (hli s))) ⟨v, rfl, by rw [hI]; exact awS_isV, Below.refl _ _⟩
theorem sy_call {f : FuncId} {xs : List Operand} {ts : Array TypeId} (hf : Fst ops opf) (ps : Sy → List Asr) (hie : E.contains i = false) (hi : ops[i]? = some ⟨some d, .call { callee := .value (.func f), args := xs.toArray, argTypes := ts }, ty, pos, aft_, gd⟩) (hgo : goesIn P f = true)
  (hw : ∀ s, Wants ops (LS E s 0 L) i ⟨some d, .call { callee := .value (.func f), args := xs.toArray, argTypes := ts }, ty, pos, aft_, gd⟩) (hp : ∀ s, AllP n opf l (LS E s 0 L) i xs (ps s))
  {p : Asr} (hc : ∀ vs s w, Kn ops E i s → St w0 Ob (G s) K w → lo ≤ w.heap.size → Holds (ps s) vs w → Calls P f vs.toArray w (GivesN p w)) (hI : atI L i = p) : SY P n ops opf Q l w0 K lo al Ob G E L i :=
 sy_base hie hi fun t0 a s w h0 hF hG hk hD hD' => by
  have h1 := hc (xs.map a.eval) s w hk (St.drops _ hG.1) hG.2 (allP_holds h0 hF (fun j d h => hD' j d (hf.waits h)) (hp s))
  rw [show (xs.map a.eval).toArray = xs.toArray.map a.eval by simp] at h1
  unfold wpOp
  simp only [hi, (hw s).yes hD', if_true]
  refine .inl ?_
  unfold Oper.wp
  rw [run_call P a.eval w f xs.toArray ts _ rfl rfl hgo, Oper.upon_enter]
  refine h1.mono ?_
  rintro e w' ⟨v, rfl, hv, hb⟩
  refine ⟨v, by simp, ?_, hb⟩
  rw [hI]
  intro w2 h2
  refine hv w2 ⟨h2.2.1, fun b h3 h4 => h2.2.2 b (Nat.le_trans hG.2 h3) h4 (fun hx => ?_)⟩
  rcases hx with ⟨q, hq, rfl⟩ | ⟨g, hg, hgb⟩
  ·have := lt_of_heap (hG.1.own q hq).2; omega
  ·have := (hG.1.glt hg hgb).2; omega
def BLY (P : Program) (n : Nat) (ops opf : Array Oper) (Q : Exit → Act → World → Prop) (l : Fr) (w0 : World) (K : List (Nat × World)) (lo : Nat) (al : List AB) (Ob : Own) (G : Sy → Grows) (E : List Nat) (Goal : List Asr → Prop) : Nat → List Asr → Nat → Prop
 | 0, Lr, _ => Goal Lr
 | m + 1, Lr, k => ∃ q, SY P n ops opf Q l w0 K lo al Ob G E (q :: Lr).reverse k ∧ BLY P n ops opf Q l w0 K lo al Ob G E Goal m (q :: Lr) (k + 1)
variable {Goal : List Asr → Prop}
theorem bly_nil {Lr : List Asr} {k : Nat} (h : Goal Lr) : BLY P n ops opf Q l w0 K lo al Ob G E Goal 0 Lr k := h
theorem bly_cons {m k : Nat} {Lr : List Asr} (k' : Nat) (hk : k + 1 = k') (q : Asr) (h : SY P n ops opf Q l w0 K lo al Ob G E (q :: Lr).reverse k) (hr : BLY P n ops opf Q l w0 K lo al Ob G E Goal m (q :: Lr) k') : BLY P n ops opf Q l w0 K lo al Ob G E Goal (m + 1) Lr k := by
 subst hk; exact ⟨q, h, hr⟩
theorem bly_run (ht : tidyR ops n = true) : ∀ (m k : Nat) (Lr : List Asr), Lr.length = k → (∀ i, i < k → SY P n ops opf Q l w0 K lo al Ob G E Lr.reverse i) → BLY P n ops opf Q l w0 K lo al Ob G E Goal m Lr k →
  ∃ Lr', Lr'.length = k + m ∧ (∀ i, i < k + m → SY P n ops opf Q l w0 K lo al Ob G E Lr'.reverse i) ∧ Goal Lr'
 | 0, k, Lr, hl, hg, h => ⟨Lr, hl, hg, h⟩
 | m + 1, k, Lr, hl, hg, ⟨q, hr, hn⟩ => by
  have hap : ∀ j, j < k → atI Lr.reverse j = atI (q :: Lr).reverse j := fun j hj => by rw [List.reverse_cons, atI_append (by simp; omega)]
  obtain ⟨L', h1, h3, h4⟩ := bly_run ht m (k + 1) (q :: Lr) (by simp [hl]) (fun i hi => by
   by_cases hik : i = k
   ·subst hik; exact hr
   ·exact SY.ext ht (fun j hj => hap j (by omega)) (hg i (by omega))) hn
  exact ⟨L', by omega, fun i hi => h3 i (by omega), h4⟩
def finY (E : List Nat) (lo : Nat) (X : Nat → Prop) (s : Sy) : Nat → List Asr → List Asr
 | _, [] => []
 | j, q :: L => (bif E.contains j then isE s j else AwS lo X q) :: finY E lo X s (j + 1) L
theorem atI_finY {X : Nat → Prop} : ∀ (L : List Asr) (j i : Nat), i < L.length → atI (finY E lo X s j L) i = (bif E.contains (i + j) then isE s (i + j) else AwS lo X (atI L i))
 | [], j, i, h => by simp at h
 | q :: L, j, 0, h => by rw [Nat.zero_add]; rfl
 | q :: L, j, i + 1, h => by
  show atI (finY E lo X s (j + 1) L) i = _
  rw [atI_finY L (j + 1) i (by simpa using h), show i + 1 + j = i + (j + 1) by omega]
  rfl
theorem regY {id k : Nat} {ds : List Nat} {G0 : Grows} (hm : P.follows .mixedOrders = true) (hlo : lo = W.heap.size) (hS : St w0 Ob G0 K W) (hG0 : G (fun _ => none) = G0) (hk : Nat.blt k os.length = true) (htl : tailT os.toArray k = true) (ht : tidyR os.toArray n = true) (hE : E.all (fun a => Nat.blt a k) = true)
  (hdst : (List.range k).all (fun j => E.contains j || ((os.toArray[j]?).bind (·.dst)).isSome) = true) (hds : (os.drop k).all (fun o => match o.dst with | some d => ds.contains d | none => true) = true)
  (h : BLY P n os.toArray (os.take k).toArray Q l w0 K lo al Ob G E (fun Lr => ∀ (s : Sy) (W' : World) (Ks : List (Nat × World)), (∀ e, E.contains e = true → ∃ v, s e = some v) → W.heap.size ≤ W'.heap.size → (∀ q ∈ Ks, lo ≤ q.1) → St w0 (OY al Ob s) (G s) (Ks ++ K) W' →
   (∀ {O2 G2 K2 W2}, St w0 O2 G2 K2 W2 → (∀ q ∈ Ks, q ∈ K2) → SameX lo (XB (OY al Ob s) (G s)) W' W2) → (∀ e, E.contains e = true → ∀ v, s e = some v → AwS lo (XB (OY al Ob s) (G s)) (atI Lr.reverse e) v W') → (∀ e, E.contains e = false → s e = none) →
   FinI (os.take k) (finY E lo (XB (OY al Ob s) (G s)) s 0 Lr.reverse) (dropF ds l) (fun l' W' => OpsF P n os.toArray Q (os.drop k) l' W') W') k [] 0) : CodeF P n (.region id os.toArray true) Q l W := by
 obtain ⟨Lr, h1, h2, hfin⟩ := bly_run ht k 0 [] rfl (fun i hi => by omega) h
 rw [Nat.zero_add] at h1 h2
 have hk' : k < os.length := Nat.lt_of_lt_of_le (Nat.lt_succ_self _) (Nat.le_of_ble_eq_true hk)
 have hE' : ∀ a ∈ E, a < k := fun a ha => Nat.lt_of_lt_of_le (Nat.lt_succ_self _) (Nat.le_of_ble_eq_true (List.all_eq_true.1 hE a ha))
 intro a ha
 have hrep : ∀ (m j : Nat), (Array.replicate m false).getD j false = false := fun m j => by
  rw [Array.getD_eq_getD_getElem?, Array.getElem?_replicate]; split <;> rfl
 refine wp_region_any hm (region_ghostF (fr := freeT (os.take k).toArray) (t0 := a.tmps) (d0 := a.defers) (V := VY E) (I := IY lo al Ob G E Lr.reverse) (G := GY w0 K lo al Ob G E Lr.reverse) (k := k) (fun i d hik hd => ?_) (by simpa using hk') htl (by rw [ha.size]; exact ht) (fun i hi => (h2 i hi).step a ha) ?_ _ (fun _ => none) _ _ _ (by simp) (count_rep _) (fun j hj => by rw [hrep] at hj; cases hj) (fun i _ => hrep _ _) ⟨rfl, rfl, fun _ _ => rfl, ⟨⟨by unfold OY; rw [AS_none, hG0]; exact hS.drew, by rw [hlo]; exact Nat.le_refl _⟩, fun _ _ _ h => (by cases h)⟩, ⟨fun e he => ⟨fun h3 => (by rw [hrep] at h3; cases h3), fun h3 => (by cases h3)⟩, fun _ _ => rfl⟩, fun i d _ hj => (by rw [hrep] at hj; cases hj)⟩)
 ·have hd2 : (os[i]?).bind (·.dst) = some d := by simpa using hd
  obtain ⟨o, ho, hod⟩ := Option.bind_eq_some_iff.1 hd2
  have hm2 : o ∈ os.take k := List.mem_of_getElem? (i := i) (by rw [List.getElem?_take, if_pos hik]; exact ho)
  cases hf : freeT (os.take k).toArray d with
  | false => rfl
  | true =>
   unfold freeT at hf
   have := Array.all_eq_true'.1 hf o (by simpa using hm2)
   rw [hod] at this
   simp at this
 intro s LB a' W' hR hdone hnot
 obtain ⟨⟨hG, hG2⟩, hG3⟩ := hR.glob
 obtain ⟨v1, v2⟩ := hR.cons
 have hall : ∀ e, E.contains e = true → ∃ v, s e = some v := fun e he => Option.isSome_iff_exists.1 ((v1 e (List.contains_iff_mem.1 he)).1 (hdone e (hE' e (List.contains_iff_mem.1 he))))
 obtain ⟨Ks, c1, ⟨qw, c2, c3⟩, c4⟩ := cuts (((OY al Ob s).map (·.1)) ++ (G s).filterMap (fun g => g.v.ownBlock)) lo W'
 have hG4 := hG.more Ks (fun q hq => ⟨(c1 q hq).2.1, fun p hp => (c1 q hq).2.2 p.1 (List.mem_append_left _ (List.mem_map.2 ⟨p, hp, rfl⟩)), fun g hg b hb => (c1 q hq).2.2 b (List.mem_append_right _ (List.mem_filterMap.2 ⟨g, hg, hb⟩))⟩)
 have hcov : ∀ {O2 G2 K2 W2}, St w0 O2 G2 K2 W2 → (∀ q ∈ Ks, q ∈ K2) → SameX lo (XB (OY al Ob s) (G s)) W' W2 := fun {O2 G2 K2 W2} h2 hq => by
  refine ⟨⟨h2.below.os.trans hG.below.os.symm, h2.below.tape.trans hG.below.tape.symm, h2.below.output.trans hG.below.output.symm⟩, ?_, fun b b1 b2 b3 => ?_⟩
  ·have := (h2.kept qw (hq qw c2)).1.1; rw [c3] at this; exact this
  ·obtain ⟨q, q1, q2, q3⟩ := c4 b b1 b2 (fun hb => b3 (by
    rcases List.mem_append.1 hb with hb | hb
    ·obtain ⟨p, hp, rfl⟩ := List.mem_map.1 hb
     exact .inl ⟨p, hp, rfl⟩
    ·obtain ⟨g, hg, e⟩ := List.mem_filterMap.1 hb
     exact .inr ⟨g, hg, e⟩))
   exact ((h2.kept q (hq q q1)).1.2 b q2 q3).trans ((c1 q q1).2.1.2 b q2 q3).symm
 have htk : (os.take k).length = k := by simp; omega
 refine fin_hasS (os.take k) (finY E lo (XB (OY al Ob s) (G s)) s 0 Lr.reverse) (dropF ds l) (fun i d hi hd' => ?_) (fun i hi hd' => ?_) (hR.size.trans ha.size) (hR.defers.trans ha.defers) ?_ (fun l' h ha' => ?_) (hfin s W' Ks hall (by rw [← hlo]; exact hG2) (fun q hq => (c1 q hq).1) hG4 hcov (fun e he v hv => hG3 e (List.contains_iff_mem.1 he) v hv) (fun e he => v2 e (fun hm => by rw [List.contains_iff_mem.2 hm] at he; cases he)))
 ·have hik : i < k := by omega
  have hd2 : (os.toArray[i]?).bind (·.dst) = some d := by rw [List.getElem?_take, if_pos hik] at hd'; simpa using hd'
  obtain ⟨i1, i2⟩ := hR.done i d hd2 (hdone i hik)
  rw [atI_finY Lr.reverse 0 i (by simp; omega), Nat.add_zero]
  cases hc1 : E.contains i with
  | true => rw [cond_true]; exact i1 (List.contains_iff_mem.1 hc1)
  | false => rw [cond_false]; exact i2
 ·have hik : i < k := by omega
  have h3 := List.all_eq_true.1 hdst i (List.mem_range.2 hik)
  have hd2 : (os.toArray[i]?).bind (·.dst) = none := by rw [List.getElem?_take, if_pos hik] at hd'; simpa using hd'
  rw [hd2] at h3
  have hc : E.contains i = true := by simpa using h3
  rw [atI_finY Lr.reverse 0 i (by simp; omega), Nat.add_zero, hc, cond_true]
  exact hall i hc
 ·intro t v hv hno
  have hl := look_dropF hv (look_dropF_not hv)
  rw [hR.frame t ?_]
  ·exact ha.at_ t v hl
  ·unfold freeT; rw [Array.all_eq_true']; intro o' ho'
   have ho2 : o' ∈ os.take k := by simpa using ho'
   simpa using hno o' ho2
 ·have := h a' ha'
  simpa using this
end
end Go.Proofs.Ytpkcaabbcoiiiaa
namespace Go.Proofs.Ytpkcaabbcoiiiaa
open Go Go.RowKit
section
variable {P : Program} {n : Nat} {Q : Exit → Act → World → Prop} {l : Fr} {W : World} {ops : Array Oper} {os : List Oper} {d : Nat} {ty : TypeId} {pos : String} {aft : Array Edge} {x y : Operand} {k : IntKind} {a b : Int} {ts : Array TypeId}
theorem rn_min (hx : evL l x = some (.int k a)) (hy : evL l y = some (.int k b)) : Runs P l ⟨some d, .call { callee := .builtin .min, args := #[x, y], argTypes := ts }, ty, pos, aft, none⟩ W (.int k (min a b)) W := fun ev he => by
 have e : (if b < a then b else a) = min a b := by omega
 unfold execOp
 simp only [resolve, invoke, builtin, Sem.run_bind, Sem.run_pure, Result.andThen_ok, List.map_toArray, List.map_cons, List.map_nil, he x _ hx, he y _ hy, run_min_int2, e]
theorem op_min (hx : evL l x = some (.int k a)) (hy : evL l y = some (.int k b)) (hd : Nat.blt d n = true) (h : OpsF P n ops Q os ((d, .int k (min a b)) :: l) W) : OpsF P n ops Q (⟨some d, .call { callee := .builtin .min, args := #[x, y], argTypes := ts }, ty, pos, aft, none⟩ :: os) l W := opV (rn_min hx hy) hd h
end
end Go.Proofs.Ytpkcaabbcoiiiaa
namespace Go.Proofs.Ytpkcaabbcoiiiaa
open Go Go.RowKit
section
variable {P : Program} {n : Nat} {ops : Array Oper} {Q : Exit → Act → World → Prop} {l : Fr} {w0 W : World} {os : List Oper} {d : Nat} {ty : TypeId} {pos : String} {aft : Array Edge}
theorem rn_nilCheck {x : Operand} {p : Addr} (hx : evL l x = some (.pointer (some p))) : Runs P l ⟨some d, .nilCheck x, ty, pos, aft, none⟩ W (.pointer (some p)) W := fun ev he => by
 unfold execOp; simp only []; rw [he x _ hx]; rfl
theorem op_nilCheck {x : Operand} {p : Addr} (hx : evL l x = some (.pointer (some p))) (hd : Nat.blt d n = true) (h : OpsF P n ops Q os ((d, .pointer (some p)) :: l) W) : OpsF P n ops Q (⟨some d, .nilCheck x, ty, pos, aft, none⟩ :: os) l W := opV (rn_nilCheck hx) hd h
end
section
variable {P : Program} {n : Nat} {Q : Exit → Act → World → Prop} {l : Fr} {W : World} {ops : Array Oper} {os : List Oper} {d : Nat} {ty : TypeId} {pos : String} {aft : Array Edge} {x y : Operand} {k : IntKind} {a b : Int} {ts : Array TypeId}
end
def DepsH : List (Nat × Nat × Asr) → (Operand → Value) → World → Prop
 | [], _, _ => True
 | x :: xs, ev, w => x.2.2 (ev (.tmp x.2.1)) w ∧ DepsH xs ev w
def DepsL (ops : Array Oper) (L : List Asr) (i : Nat) : List (Nat × Nat × Asr) → Prop
 | [] => True
 | x :: xs => (waitsFor ops i x.1 x.2.1 = true ∧ atI L x.1 = x.2.2) ∧ DepsL ops L i xs
section
variable {P : Program} {ops opf : Array Oper} {Q : Exit → Act → World → Prop} {n : Nat} {l : Fr} {w0 W : World} {K : List (Nat × World)} {lo : Nat} {al : List AB} {Ob : Own} {G : Sy → Grows} {E : List Nat} {L : List Asr} {i : Nat}
variable {d : Nat} {op : Op} {ty : TypeId} {pos : String} {aft_ : Array Edge}
end
theorem sameX_agree9 {lo : Nat} {X : Nat → Prop} {w w' : World} (h : SameX lo X w w') (hx : ∀ b, lo ≤ b → ¬ X b) : Agree lo w w' := ⟨h.2.1, fun b h1 h2 => h.2.2 b h1 h2 (hx b h1)⟩
theorem xb_lt9 {w0 W : World} {O : Own} {G : Grows} {K : List (Nat × World)} {b : Nat} (h : St w0 O G K W) (hx : XB O G b) : b < W.heap.size := by
 rcases hx with ⟨p, hp, rfl⟩ | ⟨g, hg, hb⟩
 ·exact lt_of_heap (h.own p hp).2
 ·exact (h.glt hg hb).2
end Go.Proofs.Ytpkcaabbcoiiiaa
namespace Go.Proofs.Ytpkcaabbcoiiiaa
open Go Go.RowKit
theorem St.headSl {w0 W : World} {O : Own} {G : Grows} {K : List (Nat × World)} {v : Value} {n size : Nat} {xs : List Value} {e : TypeId} (h : St w0 O (⟨v, n, xs, e, size⟩ :: G) K W) : ∃ a c, v = .slice a n c := by
 obtain ⟨a, c, e9, _⟩ := ownsRow_sl (h.row 0 rfl)
 exact ⟨a, c, e9⟩
section
variable {w0 W : World} {O : Own} {G : Grows} {K : List (Nat × World)}
theorem ownsRow_blk {w : World} {base n b k : Nat} {e : TypeId} {size : Nat} {c : Nat} {xs : List Value} {x : Value} (h : w.ownsRow base e size (.slice (some ⟨b, 0, none⟩) n c) n xs) (hk : xs[k]? = some x) : w.cell? ⟨b, k, none⟩ = some x := by
 rcases ownsRow_cells h with ⟨h1, _⟩ | ⟨b2, h1, _, h3⟩
 ·cases h1
 ·cases h1; exact h3 k x hk
variable {P : Program} {n : Nat} {ops : Array Oper} {Q : Exit → Act → World → Prop} {l : Fr} {os : List Oper} {d : Nat} {ty : TypeId} {pos : String} {aft : Array Edge}
theorem St.oneV (h : St w0 O G K W) (i : Nat) (g : GR) (hi : G[i]? = some g) : g.v.oneCell' = true := by
 rcases (h.rows g (List.mem_of_getElem? hi)).1.2 with ⟨h1, _⟩ | ⟨_, _, _, h1, _⟩ <;> rw [h1] <;> rfl
end
section
variable {P : Program} {ops opf : Array Oper} {Q : Exit → Act → World → Prop} {n : Nat} {l : Fr} {w0 W : World} {K : List (Nat × World)} {lo : Nat} {al : List AB} {Ob : Own} {G : Sy → Grows} {E : List Nat} {L : List Asr} {i : Nat}
variable {d : Nat} {op : Op} {ty : TypeId} {pos : String} {aft_ : Array Edge}
end
end Go.Proofs.Ytpkcaabbcoiiiaa
namespace Go.Proofs.Ytpkcaabbcoiiiaa
open Go Go.RowKit
theorem take_same {xs ys : List Int} {i : Nat} {y z : Int} (h : xs.take i = ys.take i) (hy : xs[i]? = some y) (hz : ys[i]? = some z) (e : y = z) : xs.take (i + 1) = ys.take (i + 1) := by
 rw [List.take_add_one, List.take_add_one, h, hy, hz, e]
theorem sameC_c (p : Int) (wa : Option Addr) (wl wc : Nat) (ws : List Int) (q : Int) (va : Option Addr) (vl vc : Nat) (vs : List Int) (w : World) (hrow : Row w wa ws) (hlen : ws.length = wl) (hrov : Row w va vs) (hlev : vs.length = vl) (hmx : wl ≤ 9223372036854775807) :
  Calls Try.prog 24 #[.agg #[.int .i64 p, .slice wa wl wc], .agg #[.int .i64 q, .slice va vl vc]] w (fun e w' => e = .returned (.bool (decide (p = q ∧ ws = vs))) ∧ Below w.heap.size w w') := by
 refine enterF (args := [.agg #[.int .i64 p, .slice wa wl wc], .agg #[.int .i64 q, .slice va vl vc]]) Try.func24 rfl Try.ntmps24 rfl ?_
 have hS := St.start w
 refine seqF (regF ?_)
 refine op_box (cs := [_, _]) hS rfl rfl rfl ?_
 clear hS; intro B1 W1 hS
 refine op_box (cs := [_, _]) hS rfl rfl rfl ?_
 clear hS; intro B2 W2 hS
 refine op_assign rfl rfl ?_
 refine endF (XF.thenN ?_)
 refine seqF ?_
 refine seqF (regF ?_)
 refine op_field (o' := 0) fa_49_0 rfl rfl rfl ?_
 refine op_load Try.isAgg3 rfl (cell_own (hS.at_ 1 rfl) rfl) rfl ?_
 refine op_field (o' := 0) fa_49_0 rfl rfl rfl ?_
 refine op_load Try.isAgg3 rfl (cell_own (hS.at_ 0 rfl) rfl) rfl ?_
 refine op_neq rfl rfl rfl ?_
 refine op_move rfl rfl ?_
 refine op_cases (d := 11) rfl (fun hc => ?_) (fun hc => ?_)
 ·have hg11 := of_decide_eq_true hc; clear hc
  iterate 7 refine op_notF (d := 11) rfl rfl rfl rfl ?_
  refine op_pickT rfl rfl rfl ?_
  refine endF (XF.thenN ?_)
  refine condT rfl ?_
  refine seqF (regF ?_)
  refine op_assign rfl rfl ?_
  refine endF (XF.thenN ?_)
  refine retF ?_
  refine XF.thenR ?_
  refine XF.res (res1 Try.results24 rfl) ?_
  exact ⟨rbool (decide_eq_false (fun h => absurd h.1 (by omega))).symm, hS.below⟩
 ·have hg11 := of_decide_eq_false hc; clear hc
  refine op_wantedF (d := 11) rfl rfl ?_
  refine op_field (o' := 1) fa_49_1 rfl rfl rfl ?_
  refine op_wantedF (d := 11) rfl rfl ?_
  refine op_load Try.isAgg29 rfl (cell_own (hS.at_ 1 rfl) rfl) rfl ?_
  refine op_wantedF (d := 11) rfl rfl ?_
  refine op_len Try.underlying29 rfl rfl ?_
  refine op_wantedF (d := 11) rfl rfl ?_
  refine op_field (o' := 1) fa_49_1 rfl rfl rfl ?_
  refine op_wantedF (d := 11) rfl rfl ?_
  refine op_load Try.isAgg29 rfl (cell_own (hS.at_ 0 rfl) rfl) rfl ?_
  refine op_wantedF (d := 11) rfl rfl ?_
  refine op_len Try.underlying29 rfl rfl ?_
  refine op_wantedF (d := 11) rfl rfl ?_
  refine op_neq rfl rfl rfl ?_
  refine op_pickF rfl rfl rfl ?_
  refine endF (XF.thenN ?_)
  refine condF rfl (fun hc => ?_) (fun hc => ?_)
  ·have hc19 := of_decide_eq_true hc; clear hc
   refine seqF (regF ?_)
   refine op_assign rfl rfl ?_
   refine endF (XF.thenN ?_)
   refine retF ?_
   refine XF.thenR ?_
   refine XF.res (res1 Try.results24 rfl) ?_
   exact ⟨rbool (decide_eq_false (fun h => absurd (congrArg List.length h.2) (by omega))).symm, hS.below⟩
  ·have hc19 := of_decide_eq_false hc; clear hc
   have hpq : p = q := by omega
   have hll : wl = vl := by omega
   refine skipF ?_
   refine XF.thenN ?_
   refine seqF ?_
   refine seqF (regF ?_)
   refine op_assign rfl rfl ?_
   refine endF (XF.thenN ?_)
   refine blockF ?_
   refine loopF (fun m l W => ∃ i : Nat, i ≤ wl ∧ m = wl - i ∧ l = [(2, .pointer (some ⟨B1, 0, none⟩)), (3, .pointer (some ⟨B2, 0, none⟩)), (5, .int .i64 (i : Int))] ∧ ws.take i = vs.take i ∧ St w [(B2, [.int .i64 q, .slice va vl vc], 49), (B1, [.int .i64 p, .slice wa wl wc], 49)] [] [] W) (wl - 0) ([(2, _), (3, _), (5, _)]) ⟨rfl, rfl, rfl, trivial⟩ (⟨0, Nat.zero_le _, rfl, rfl, rfl, hS.clear⟩) ?_
   clear hS
   rintro m l W ⟨i, hi, rfl, rfl, hall, hS⟩
   refine seqF ?_
   refine seqF (regF ?_)
   refine op_move rfl rfl ?_
   refine op_field (o' := 1) fa_49_1 rfl rfl rfl ?_
   refine op_load Try.isAgg29 rfl (cell_own (hS.at_ 1 rfl) rfl) rfl ?_
   refine op_len Try.underlying29 rfl rfl ?_
   refine op_lss rfl rfl rfl ?_
   refine endF (XF.thenN ?_)
   refine condF rfl (fun hc => ?_) (fun hc => ?_)
   ·have hc24 := of_decide_eq_true hc; clear hc
    have hk : i < wl := by omega
    obtain ⟨b, off, y, rfl, hy, hyc⟩ := hrow.at1 (show i < ws.length by omega)
    obtain ⟨b2, off2, z, rfl, hz, hzc⟩ := hrov.at1 (show i < vs.length by omega)
    have k1 := hS.old hyc
    have k2 := hS.old hzc
    refine skipF ?_
    refine XF.thenN ?_
    refine seqF ?_
    refine blockF ?_
    refine seqF ?_
    refine regB (m := 11) followsM hS (by kernel_rfl) (by kernel_rfl) rfl ?_
    refine bl_cons 1 rfl (isV _) (stab_isV _) (rgV (li := [(2, _)]) rfl (w_free rfl) ⟨g_fr (by kernel_rfl) rfl, trivial⟩ (fun w hw => rn_field (o' := 1) fa_49_1 rfl rfl) (at_top rfl)) ?_
    refine bl_cons 2 rfl (isV _) (stab_isV _) (rgV (li := [(27, _)]) rfl (w_free rfl) ⟨g_dep 0 (by kernel_rfl) (at_dep rfl rfl rfl), trivial⟩ (fun w hw => rn_load Try.isAgg29 rfl ((below_agree hw 0).cell (Nat.zero_le _) (cell_own (hS.at_ 1 rfl) rfl))) (at_top rfl)) ?_
    refine bl_cons 3 rfl (isV _) (stab_isV _) (rgV (li := [(5, _)]) rfl (w_free rfl) ⟨g_fr (by kernel_rfl) rfl, trivial⟩ (fun w hw => rn_move rfl) (at_top rfl)) ?_
    refine bl_cons 4 rfl (isV _) (stab_isV _) (rgV (li := [(28, _), (29, _)]) rfl (w_free rfl) ⟨g_dep 1 (by kernel_rfl) (at_dep rfl rfl rfl), g_dep 2 (by kernel_rfl) (at_dep rfl rfl rfl), trivial⟩ (fun w hw => rn_indexA  Try.underlying29 Try.sizeOf3 rfl rfl rfl (by omega) rfl) (at_top rfl)) ?_
    refine bl_cons 5 rfl (isV _) (stab_isV _) (rgV (li := [(30, _)]) rfl (w_free rfl) ⟨g_dep 3 (by kernel_rfl) (at_dep rfl rfl rfl), trivial⟩ (fun w hw => rn_load Try.isAgg3 rfl ((below_agree hw 0).cell (Nat.zero_le _) (by assumption))) (at_top rfl)) ?_
    refine bl_cons 6 rfl (isV _) (stab_isV _) (rgV (li := [(3, _)]) rfl (w_free rfl) ⟨g_fr (by kernel_rfl) rfl, trivial⟩ (fun w hw => rn_field (o' := 1) fa_49_1 rfl rfl) (at_top rfl)) ?_
    refine bl_cons 7 rfl (isV _) (stab_isV _) (rgV (li := [(32, _)]) rfl (w_free rfl) ⟨g_dep 5 (by kernel_rfl) (at_dep rfl rfl rfl), trivial⟩ (fun w hw => rn_load Try.isAgg29 rfl ((below_agree hw 0).cell (Nat.zero_le _) (cell_own (hS.at_ 0 rfl) rfl))) (at_top rfl)) ?_
    refine bl_cons 8 rfl (isV _) (stab_isV _) (rgV (li := [(5, _)]) rfl (w_free rfl) ⟨g_fr (by kernel_rfl) rfl, trivial⟩ (fun w hw => rn_move rfl) (at_top rfl)) ?_
    refine bl_cons 9 rfl (isV _) (stab_isV _) (rgV (li := [(33, _), (34, _)]) rfl (w_free rfl) ⟨g_dep 6 (by kernel_rfl) (at_dep rfl rfl rfl), g_dep 7 (by kernel_rfl) (at_dep rfl rfl rfl), trivial⟩ (fun w hw => rn_indexA  Try.underlying29 Try.sizeOf3 rfl rfl rfl (by omega) rfl) (at_top rfl)) ?_
    refine bl_cons 10 rfl (isV _) (stab_isV _) (rgV (li := [(35, _)]) rfl (w_free rfl) ⟨g_dep 8 (by kernel_rfl) (at_dep rfl rfl rfl), trivial⟩ (fun w hw => rn_load Try.isAgg3 rfl ((below_agree hw 0).cell (Nat.zero_le _) (by assumption))) (at_top rfl)) ?_
    refine bl_cons 11 rfl (isV _) (stab_isV _) (rgV (li := [(31, _), (36, _)]) rfl (w_free rfl) ⟨g_dep 4 (by kernel_rfl) (at_dep rfl rfl rfl), g_dep 9 (by kernel_rfl) (at_dep rfl rfl rfl), trivial⟩ (fun w hw => rn_neq rfl rfl) (at_top rfl)) ?_
    refine bl_nil ?_
    intro W3 hbR hS'
    clear hS; have hS := hS'; clear hS'
    iterate 11 refine fin_v ?_
    refine fin_nil ?_
    refine XF.thenN ?_
    refine condF rfl (fun hc => ?_) (fun hc => ?_)
    ·have hc37 := hc; clear hc
     refine seqF (regF ?_)
     refine op_assign rfl rfl ?_
     refine endF (XF.thenN ?_)
     refine retF ?_
     refine XF.blkR ?_
     iterate 2 refine XF.thenR ?_
     refine XF.blkR ?_
     refine XF.thenR ?_
     refine XF.res (res1 Try.results24 rfl) ?_
     exact ⟨rbool (decide_eq_false (fun h => absurd (show y = z by have e := h.2 ▸ hy; rw [hz] at e; exact (Option.some.inj e).symm) (by simpa using hc37))).symm, hS.below⟩
    ·have hc37 := hc; clear hc
     refine skipF ?_
     refine XF.blkN ?_
     refine XF.thenN ?_
     refine regF ?_
     refine op_move rfl rfl ?_
     refine op_add rfl rfl (IntWalk.i64_in _ (by omega)) rfl ?_
     refine op_assign rfl rfl ?_
     refine endF ?_
     exact XF.round (wl - (i + 1)) [(2, _), (3, _), (5, _)] (by omega) ⟨rfl, rfl, rfl, trivial⟩ ⟨i + 1, by omega, rfl, rfl, take_same hall hy hz (by simpa using hc37), hS.clear⟩
   ·have hc24 := of_decide_eq_false hc; clear hc
    refine exitF ?_
    iterate 2 refine XF.thenX ?_
    refine XF.blkX ?_
    refine XF.thenN ?_
    refine seqF (regF ?_)
    refine op_assign rfl rfl ?_
    refine endF (XF.thenN ?_)
    refine retF ?_
    refine XF.res (res1 Try.results24 rfl) ?_
    rw [List.take_of_length_le (by omega), List.take_of_length_le (by omega)] at hall
    exact ⟨rbool (decide_eq_true ⟨hpq, hall⟩).symm, hS.below⟩
end Go.Proofs.Ytpkcaabbcoiiiaa
namespace Go.Proofs.Ytpkcaabbcoiiiaa
open Go Go.RowKit
abbrev ringV (sf : SF) (f0 : WF) : Value := .agg #[.int .i64 sf.tag, .int .i64 sf.dim, .slice sf.a sf.len sf.cap, .bool f0.z, .int .i64 f0.c, .int .u64 (f0.g : Int), .slice f0.ra f0.rl f0.rc, .slice f0.ca f0.cl f0.cc, .slice f0.pa f0.pl f0.pc]
theorem ringOf_is (S : PS) (sf : SF) (w : World) (hs : SIs w S sf) (hok : S.ok) :
  Calls Try.prog 31 #[sf.val] w (fun e w' => ∃ f0 : WF, e = .returned (ringV sf f0) ∧ XNew w.heap.size w' S f0 (zeroX S) ∧ Below w.heap.size w w') := by
 refine enterF (args := [sf.val]) Try.func31 rfl Try.ntmps31 rfl ?_
 have hS := St.start w
 refine seqF (regF ?_)
 refine op_box (cs := [_, _, _]) hS rfl rfl rfl ?_
 clear hS; intro B1 W1 hS
 refine op_alloc (cs := [_, _, _, _, _, _, _, _, _]) hS Try.zeroValue84 rfl rfl ?_
 clear hS; intro B2 W2 hS
 refine endF (XF.thenN ?_)
 refine seqF (regF ?_)
 refine op_loadA (vs := [_, _, _]) Try.isAgg25 Try.sizeOf25 rfl (CellsAt.own (j := 0) (m := 3) (hS.at_ 1 rfl) rfl) rfl ?_
 have hsz := hS.below.size
 refine op_call (vs := [_]) hS goes_59 rfl (ZeroW_ok S sf _ (hs.below hS.below) hok) rfl ?_
 rintro e W3 ⟨f0, rfl, hn, hb⟩
 refine ⟨_, rfl, hb, fun hS' => ?_⟩
 clear hS; have hS := hS'; clear hS'
 refine op_move rfl rfl ?_
 iterate 2 refine op_extract rfl rfl rfl ?_
 refine op_alloc (cs := [_, _, _, _, _, _]) hS Try.zeroValue45 rfl rfl ?_
 clear hS; intro B4 W4 hS
 refine op_storeA (i := 0) (vs := [_, _, _, _, _, _]) (cs' := [_, _, _, _, _, _]) (O' := [_, _, _]) hS Try.sizeOf45 rfl rfl rfl rfl rfl rfl rfl ?_
 clear hS; intro W5 hS
 refine op_assign rfl rfl ?_
 refine endF (XF.thenN ?_)
 refine seqF (regF ?_)
 refine op_loadA (vs := [_, _, _]) Try.isAgg25 Try.sizeOf25 rfl (CellsAt.own (j := 0) (m := 3) (hS.at_ 2 rfl) rfl) rfl ?_
 refine op_loadA (vs := [_, _, _, _, _, _]) Try.isAgg45 Try.sizeOf45 rfl (CellsAt.own (j := 0) (m := 6) (hS.at_ 0 rfl) rfl) rfl ?_
 refine op_build (us := [(0, .agg (List.toArray [_, _, _])), (1, .agg (List.toArray [_, _, _, _, _, _]))]) rfl (bld_84_0_1 _ _ _ _ _ _ _ _ _) rfl ?_
 refine op_storeA (i := 1) (vs := [_, _, _, _, _, _, _, _, _]) (cs' := [_, _, _, _, _, _, _, _, _]) (O' := [_, _, _]) hS Try.sizeOf84 rfl rfl rfl rfl rfl rfl rfl ?_
 clear hS; intro W6 hS
 refine endF (XF.thenN ?_)
 refine retF ?_
 refine XF.res (resC1 (vs := [_, _, _, _, _, _, _, _, _]) Try.results31 Try.isAgg84 Try.sizeOf84 rfl (CellsAt.own (j := 0) (m := 9) (hS.at_ 1 rfl) rfl)) ?_
 exact ⟨f0, rfl, (hn.agree (hS.since 0 rfl)).mono hsz, hS.below⟩
theorem ringOne_is (S : PS) (sf : SF) (f0 : WF) (w : World) (hs : SIs w S sf) (hok : S.ok) :
  Calls Try.prog 63 #[ringV sf f0] w (WRet S (oneX S) w) := by
 refine enterF (args := [ringV sf f0]) Try.func63 rfl Try.ntmps63 rfl ?_
 have hS := St.start w
 refine seqF (regF ?_)
 refine op_box (cs := [_, _, _, _, _, _, _, _, _]) hS rfl rfl rfl ?_
 clear hS; intro B1 W1 hS
 refine op_alloc (cs := [_, _, _, _, _, _]) hS Try.zeroValue45 rfl rfl ?_
 clear hS; intro B2 W2 hS
 refine endF (XF.thenN ?_)
 refine seqF (regF ?_)
 refine op_field (o' := 0) fa_84_0 rfl rfl rfl ?_
 refine op_loadA (vs := [_, _, _]) Try.isAgg25 Try.sizeOf25 rfl (CellsAt.own (j := 0) (m := 3) (hS.at_ 1 rfl) rfl) rfl ?_
 have hsz := hS.below.size
 refine op_call (vs := [_]) hS goes_87 rfl (OneW_ok S sf _ (hs.below hS.below) hok) rfl ?_
 rintro e W3 ⟨f, rfl, hn, hb⟩
 refine ⟨_, rfl, hb, fun hS' => ?_⟩
 clear hS; have hS := hS'; clear hS'
 refine op_move rfl rfl ?_
 iterate 2 refine op_extract rfl rfl rfl ?_
 refine op_alloc (cs := [_, _, _, _, _, _]) hS Try.zeroValue45 rfl rfl ?_
 clear hS; intro B4 W4 hS
 refine op_storeA (i := 0) (vs := [_, _, _, _, _, _]) (cs' := [_, _, _, _, _, _]) (O' := [_, _, _]) hS Try.sizeOf45 rfl rfl rfl rfl rfl rfl rfl ?_
 clear hS; intro W5 hS
 refine op_assign rfl rfl ?_
 refine endF (XF.thenN ?_)
 refine seqF (regF ?_)
 refine op_loadA (vs := [_, _, _, _, _, _]) Try.isAgg45 Try.sizeOf45 rfl (CellsAt.own (j := 0) (m := 6) (hS.at_ 0 rfl) rfl) rfl ?_
 refine op_storeA (i := 1) (vs := [_, _, _, _, _, _]) (cs' := [_, _, _, _, _, _]) (O' := [_, _, _]) hS Try.sizeOf45 rfl rfl rfl rfl rfl rfl rfl ?_
 clear hS; intro W6 hS
 refine endF (XF.thenN ?_)
 refine retF ?_
 refine XF.res (resC1 (vs := [_, _, _, _, _, _]) Try.results63 Try.isAgg45 Try.sizeOf45 rfl (CellsAt.own (j := 0) (m := 6) (hS.at_ 1 rfl) rfl)) ?_
 exact ⟨f, rfl, (hn.agree (hS.since 0 rfl)).mono hsz, hS.below⟩
end Go.Proofs.Ytpkcaabbcoiiiaa
namespace Go.Proofs.Ytpkcaabbcoiiiaa
open Go Go.RowKit
abbrev StT := Int × List Int × PX
section
variable {S : PS} {px : RV → PX} {rs : List RV} {i : Int} {l : List Int} {k : Nat} {st st' : StT} {c : Int}
end
end Go.Proofs.Ytpkcaabbcoiiiaa
namespace Go.Proofs.Ytpkcaabbcoiiiaa
open Go Go.RowKit
def isPairRow (lo : Nat) (S : PS) (x : PX) : Asr := fun v w => ∃ b, v = .slice (some ⟨b, 0, none⟩) 2 2 ∧ XNew lo w S (pairF b) x
theorem stab_isPairRow {lo : Nat} {S : PS} {x : PX} : Stab (isPairRow lo S x) := fun v w w' ⟨b, h1, h2⟩ hb => ⟨b, h1, h2.below hb⟩
theorem has_one {b : Act} {v : Value} (h : b.eval (.tmp 16) = v) : ∀ x u, evL [(16, v)] x = some u → b.eval x = u := by
 intro x u hx
 cases x with
 | tmp t =>
  have hx' : look [(16, v)] t = some u := hx
  unfold look at hx'
  cases hb : Nat.beq 16 t with
  | true =>
   simp only [hb, cond_true, Option.some.injEq] at hx'
   rw [← Nat.eq_of_beq_eq_true hb, h, hx']
  | false =>
   simp only [hb, cond_false] at hx'
   cases hx'
 | const c => exact Option.some.inj hx
 | global g => exact Option.some.inj hx
 | func f => exact Option.some.inj hx
section
variable {n : Nat} {Q : Exit → Act → World → Prop} {l : Fr} {W : World} {ops : Array Oper} {L : List Asr} {i d : Nat} {ty : TypeId} {pos : String} {aft : Array Edge} {gd : Option (Nat × Bool)} {t k u m : Int} {x y : PF} {p q : Operand}
theorem rg_pairRow (hi : ops[i]? = some ⟨some d, .buildSlice 43 2 (List.toArray [(0, p), (1, q)]), ty, pos, aft, gd⟩) (hw : Wants ops L i ⟨some d, .buildSlice 43 2 (List.toArray [(0, p), (1, q)]), ty, pos, aft, gd⟩) (hp : AllP n ops l L i [p, q] [isNew W.heap.size (.one t k) (.one x), isNew W.heap.size (.one u m) (.one y)]) (hI : atI L i = isPairRow W.heap.size (.two t k u m) (.two x y)) : RG Try.prog n ops Q l W L i :=
 rg_row [isNew W.heap.size (.one t k) (.one x), isNew W.heap.size (.one u m) (.one y)] hi hw Try.underlying43 Try.sizeOf45 Try.zeroValue45 rfl rfl hp fun vs w hb hh => by
  obtain ⟨v1, v2, rfl, ⟨f, rfl, hf⟩, g, rfl, hg⟩ := holds2 hh
  refine ⟨f.six ++ g.six, bs_43_2 _ _ _ _ _ _ _ _ _ _ _ _, fun B w' hB h1 h2 => ?_⟩
  rw [hI]
  rcases frow2 h1 with h | ⟨b, off, e, h3⟩
  ·cases h
  ·cases e
   exact ⟨B, rfl, pair_new (h3 0 f rfl) (h3 1 g rfl) (by rw [← hB]; exact hb.size) (PNew.below hf h2) (PNew.below hg h2)⟩
theorem rg_pairBuild {lo : Nat} {S : PS} {z : PX} (hi : ops[i]? = some ⟨some d, .build 45 (List.toArray [(4, .tmp 16)]), ty, pos, aft, gd⟩) (hw : Wants ops L i ⟨some d, .build 45 (List.toArray [(4, .tmp 16)]), ty, pos, aft, gd⟩) (hp : OpG n ops l L i 16 (isPairRow lo S z)) (hI : atI L i = isNew lo S z) : RG Try.prog n ops Q l W L i := fun a ha => st_value hi hw fun b w hF hG hD => by
 obtain ⟨B, hv, hx⟩ := hp a ha b w hF hD
 refine ⟨(pairF B).val, w, ?_, by rw [hI]; exact ⟨pairF B, rfl, hx⟩, Below.refl _ _⟩
 rw [execOp_guard b.eval _ _ _ _ pos _ #[] _ none]
 exact rn_build (l := [(16, .slice (some ⟨B, 0, none⟩) 2 2)]) (us := [(4, .slice (some ⟨B, 0, none⟩) 2 2)]) rfl (bld_45_4 _ _ _) b.eval (has_one hv)
end
theorem zeroR_plain (t n : Int) (sa : Option Addr) (sc : Nat) (w : World) (hp : plainB t n 0 = true) :
  Calls Try.prog 78 #[.agg #[.int .i64 t, .int .i64 n, .slice sa 0 sc]] w (WRet (.one t n) (.one zeroP) w) := by
 refine enterF (args := [.agg #[.int .i64 t, .int .i64 n, .slice sa 0 sc]]) Try.func78 rfl Try.ntmps78 rfl ?_
 have hS := St.start w
 refine seqF (regF ?_)
 refine op_box (cs := [_, _, _]) hS rfl rfl rfl ?_
 clear hS; intro B1 W1 hS
 refine op_alloc (cs := [_, _, _, _, _, _]) hS Try.zeroValue45 rfl rfl ?_
 clear hS; intro B2 W2 hS
 refine endF (XF.thenN ?_)
 refine seqF ?_
 refine seqF (regF ?_)
 refine op_field (o' := 0) fa_25_0 rfl rfl rfl ?_
 refine op_load Try.isAgg22 rfl (cell_own (hS.at_ 1 rfl) rfl) rfl ?_
 refine op_eql rfl rfl rfl ?_
 refine endF (XF.thenN ?_)
 refine condF rfl (fun hc => absurd (of_decide_eq_true hc) (by exact plain_ne5 hp)) (fun hc => ?_)
 have hc := of_decide_eq_false hc
 refine skipF ?_
 refine XF.thenN ?_
 refine seqF (regF ?_)
 refine op_build (us := [(0, .bool _)]) rfl (bld_45_0 _) rfl ?_
 refine op_storeA (i := 0) (vs := [_, _, _, _, _, _]) (cs' := [_, _, _, _, _, _]) (O' := [_, _]) hS Try.sizeOf45 rfl rfl rfl rfl rfl rfl rfl ?_
 clear hS; intro W3 hS
 refine endF (XF.thenN ?_)
 refine retF ?_
 refine XF.res (resC1 (vs := [_, _, _, _, _, _]) Try.results78 Try.isAgg45 Try.sizeOf45 rfl (CellsAt.own (j := 0) (m := 6) (hS.at_ 0 rfl) rfl)) ?_
 exact ⟨zeroF, rfl, zero_new _ _ _ _, hS.below⟩
theorem zeroR_pair (t n u m : Int) (a1 a2 : Option Addr) (c1 c2 b off sc : Nat) (w : World) (hs1 : S3 w b off ⟨t, n, a1, 0, c1⟩) (hs2 : S3 w b (off + 3) ⟨u, m, a2, 0, c2⟩) (hp1 : plainB t n 0 = true) (hp2 : plainB u m 0 = true) :
  Calls Try.prog 78 #[.agg #[.int .i64 5, .int .i64 0, .slice (some ⟨b, off, none⟩) 2 sc]] w (WRet (.two t n u m) (.two zeroP zeroP) w) := by
 refine enterF (args := [.agg #[.int .i64 5, .int .i64 0, .slice (some ⟨b, off, none⟩) 2 sc]]) Try.func78 rfl Try.ntmps78 rfl ?_
 have hS := St.start w
 refine seqF (regF ?_)
 refine op_box (cs := [_, _, _]) hS rfl rfl rfl ?_
 clear hS; intro B1 W1 hS
 refine op_alloc (cs := [_, _, _, _, _, _]) hS Try.zeroValue45 rfl rfl ?_
 clear hS; intro B2 W2 hS
 refine endF (XF.thenN ?_)
 refine seqF ?_
 refine seqF (regF ?_)
 refine op_field (o' := 0) fa_25_0 rfl rfl rfl ?_
 refine op_load Try.isAgg22 rfl (cell_own (hS.at_ 1 rfl) rfl) rfl ?_
 refine op_eql rfl rfl rfl ?_
 refine endF (XF.thenN ?_)
 refine condF rfl (fun hc => ?_) (fun hc => absurd (of_decide_eq_false hc) (by omega))
 have hc := of_decide_eq_true hc
 refine seqF ?_
 have hsz := hS.below.size
 have k1 := CellsAt.agree hS.agree (Nat.zero_le _) hs1.cells
 have k2 := CellsAt.agree hS.agree (Nat.zero_le _) hs2.cells
 refine regBK followsM 12 hS rfl rfl (by kernel_rfl) (by kernel_rfl) (by kernel_rfl) (fun d hd => by cases hd) ?_
 refine bl_cons 1 rfl (isV _) (stab_isV _) (rgV (li := [(1, _)]) rfl (w_free rfl) ⟨g_fr (by kernel_rfl) rfl, trivial⟩ (fun w hw => rn_field (o' := 2) fa_25_2 rfl rfl) (at_top rfl)) ?_
 refine bl_cons 2 rfl (isV _) (stab_isV _) (rgV (li := [(6, _)]) rfl (w_free rfl) ⟨g_dep 0 (by kernel_rfl) (at_dep rfl rfl rfl), trivial⟩ (fun w hw => rn_load Try.isAgg23 rfl ((below_agree hw 0).cell (Nat.zero_le _) (cell_own (hS.at_ 1 rfl) rfl))) (at_top rfl)) ?_
 refine bl_cons 3 rfl (isV _) (stab_isV _) (rgV (li := [(7, _)]) rfl (w_free rfl) ⟨g_dep 1 (by kernel_rfl) (at_dep rfl rfl rfl), trivial⟩ (fun w hw => rn_indexA (j := 0) Try.underlying23 Try.sizeOf25 rfl rfl rfl (by omega) (Nat.add_zero _)) (at_top rfl)) ?_
 refine bl_cons 4 rfl (isV _) (stab_isV _) (rgV (li := [(8, _)]) rfl (w_free rfl) ⟨g_dep 2 (by kernel_rfl) (at_dep rfl rfl rfl), trivial⟩ (fun w hw => rn_loadA (vs := [_, _, _]) Try.isAgg25 Try.sizeOf25 rfl (CellsAt.agree (below_agree hw 0) (Nat.zero_le _) (by assumption))) (at_top rfl)) ?_
 refine bl_cons 5 rfl (isNew W2.heap.size (.one t n) (.one zeroP)) (stab_isNew) (rg_call [isV _] rfl goes_78 (w_free rfl) ⟨p_tmp (g_dep 3 (by kernel_rfl) (at_dep rfl rfl rfl)), trivial⟩ (fun vs w' hb hh => by have e := holds_isV (us := [_]) hh; subst e; exact wret_gives hb.size (zeroR_plain _ _ _ _ _ hp1)) (at_top rfl)) ?_
 refine bl_cons 6 rfl (isV _) (stab_isV _) (rgV (li := [(1, _)]) rfl (w_free rfl) ⟨g_fr (by kernel_rfl) rfl, trivial⟩ (fun w hw => rn_field (o' := 2) fa_25_2 rfl rfl) (at_top rfl)) ?_
 refine bl_cons 7 rfl (isV _) (stab_isV _) (rgV (li := [(11, _)]) rfl (w_free rfl) ⟨g_dep 5 (by kernel_rfl) (at_dep rfl rfl rfl), trivial⟩ (fun w hw => rn_load Try.isAgg23 rfl ((below_agree hw 0).cell (Nat.zero_le _) (cell_own (hS.at_ 1 rfl) rfl))) (at_top rfl)) ?_
 refine bl_cons 8 rfl (isV _) (stab_isV _) (rgV (li := [(12, _)]) rfl (w_free rfl) ⟨g_dep 6 (by kernel_rfl) (at_dep rfl rfl rfl), trivial⟩ (fun w hw => rn_indexA (j := 1) Try.underlying23 Try.sizeOf25 rfl rfl rfl (by omega) rfl) (at_top rfl)) ?_
 refine bl_cons 9 rfl (isV _) (stab_isV _) (rgV (li := [(13, _)]) rfl (w_free rfl) ⟨g_dep 7 (by kernel_rfl) (at_dep rfl rfl rfl), trivial⟩ (fun w hw => rn_loadA (vs := [_, _, _]) Try.isAgg25 Try.sizeOf25 rfl (CellsAt.agree (below_agree hw 0) (Nat.zero_le _) (by assumption))) (at_top rfl)) ?_
 refine bl_cons 10 rfl (isNew W2.heap.size (.one u m) (.one zeroP)) (stab_isNew) (rg_call [isV _] rfl goes_78 (w_free rfl) ⟨p_tmp (g_dep 8 (by kernel_rfl) (at_dep rfl rfl rfl)), trivial⟩ (fun vs w' hb hh => by have e := holds_isV (us := [_]) hh; subst e; exact wret_gives hb.size (zeroR_plain _ _ _ _ _ hp2)) (at_top rfl)) ?_
 refine bl_cons 11 rfl (isPairRow W2.heap.size (.two t n u m) (.two zeroP zeroP)) (stab_isPairRow) (rg_pairRow rfl (w_free rfl) ⟨p_tmp (g_dep 4 (by kernel_rfl) (at_dep rfl rfl rfl)), p_tmp (g_dep 9 (by kernel_rfl) (at_dep rfl rfl rfl)), trivial⟩ (at_top rfl)) ?_
 refine bl_cons 12 rfl (isNew W2.heap.size (.two t n u m) (.two zeroP zeroP)) (stab_isNew) (rg_pairBuild rfl (w_free rfl) (g_dep 10 (by kernel_rfl) (at_dep rfl rfl rfl)) (at_top rfl)) ?_
 refine bl_nil ?_
 intro W3 hbR hS'
 clear hS; have hS := hS'; clear hS'
 iterate 4 refine fin_v ?_
 refine fin_p ?_; rintro _ ⟨v1, rfl, hn1⟩
 iterate 4 refine fin_v ?_
 refine fin_p ?_; rintro _ ⟨v2, rfl, hn2⟩
 refine fin_p ?_; rintro _ _
 refine fin_p ?_; rintro _ ⟨v3, rfl, hn3⟩
 refine fin_nil ?_
 refine op_storeA (i := 0) (vs := [_, _, _, _, _, _]) (cs' := [_, _, _, _, _, _]) (O' := [_, _]) hS Try.sizeOf45 rfl rfl rfl rfl rfl rfl rfl ?_
 clear hS; intro W4 hS
 refine endF (XF.thenN ?_)
 refine retF ?_
 refine XF.thenR ?_
 refine XF.res (resC1 (vs := [_, _, _, _, _, _]) Try.results78 Try.isAgg45 Try.sizeOf45 rfl (CellsAt.own (j := 0) (m := 6) (hS.at_ 0 rfl) rfl)) ?_
 exact ⟨v3, rfl, (hn3.agree (hS.since 0 rfl)).mono hsz, hS.below⟩
theorem zeroR_ok {S : PS} {sf : SF} {w : World} (hs : SIs w S sf) (hok : S.ok) : Calls Try.prog 78 #[sf.val] w (WRet S (zeroX S) w) := by
 cases S with
 | one t n =>
  obtain ⟨a, c, rfl⟩ := hs
  exact zeroR_plain _ _ _ _ _ hok
 | two t n u m =>
  obtain ⟨b, off, c, a1, c1, a2, c2, rfl, h1, h2⟩ := hs
  exact zeroR_pair _ _ _ _ _ _ _ _ _ _ _ _ h1 h2 hok.1 hok.2
theorem ZeroR_plain (S : PS) (sf : SF) (w : World) (hs : SIs w S sf) (hok : S.ok) :
  Calls Try.prog 52 #[sf.val] w (WRet2 S (zeroX S) 0 w) := by
 refine enterF (args := [sf.val]) Try.func52 rfl Try.ntmps52 rfl ?_
 have hS := St.start w
 refine seqF (regF ?_)
 refine op_box (cs := [_, _, _]) hS rfl rfl rfl ?_
 clear hS; intro B1 W1 hS
 refine op_alloc (cs := [_, _, _, _, _, _]) hS Try.zeroValue45 rfl rfl ?_
 clear hS; intro B2 W2 hS
 refine op_assign rfl rfl ?_
 refine endF (XF.thenN ?_)
 refine seqF ?_
 refine seqF (regF ?_)
 refine op_loadA (vs := [_, _, _]) Try.isAgg25 Try.sizeOf25 rfl (CellsAt.own (j := 0) (m := 3) (hS.at_ 1 rfl) rfl) rfl ?_
 refine op_call (vs := [_]) hS goes_34 rfl (spaceR_ok (hs.below hS.below) hok) rfl ?_
 rintro e W3 ⟨rfl, hb⟩
 refine ⟨_, rfl, hb, fun hS' => ?_⟩
 clear hS; have hS := hS'; clear hS' hb
 refine op_neq rfl rfl rfl ?_
 refine endF (XF.thenN ?_)
 refine condF rfl (fun hc => absurd (of_decide_eq_true hc) (by omega)) (fun hc => ?_)
 have hc := of_decide_eq_false hc
 refine skipF ?_
 refine XF.thenN ?_
 refine seqF (regF ?_)
 refine op_loadA (vs := [_, _, _]) Try.isAgg25 Try.sizeOf25 rfl (CellsAt.own (j := 0) (m := 3) (hS.at_ 1 rfl) rfl) rfl ?_
 have hsz := hS.below.size
 refine op_call (vs := [_]) hS goes_78 rfl (zeroR_ok (hs.below hS.below) hok) rfl ?_
 rintro e W4 ⟨f, rfl, hn, hb⟩
 refine ⟨_, rfl, hb, fun hS' => ?_⟩
 clear hS; have hS := hS'; clear hS'
 refine op_storeA (i := 0) (vs := [_, _, _, _, _, _]) (cs' := [_, _, _, _, _, _]) (O' := [_, _]) hS Try.sizeOf45 rfl rfl rfl rfl rfl rfl rfl ?_
 clear hS; intro W5 hS
 refine op_assign rfl rfl ?_
 refine endF (XF.thenN ?_)
 refine retF ?_
 refine XF.res (resCT (vs := [_, _, _, _, _, _]) Try.results52 Try.isAgg45 Try.sizeOf45 rfl (CellsAt.own (j := 0) (m := 6) (hS.at_ 0 rfl) rfl) rfl) ?_
 exact ⟨f, rfl, (hn.agree (hS.since 0 rfl)).mono hsz, hS.below⟩
end Go.Proofs.Ytpkcaabbcoiiiaa
namespace Go.Proofs.Ytpkcaabbcoiiiaa
open Go Go.RowKit
theorem oneR_not4 (t n : Int) (sa : Option Addr) (sc : Nat) (w : World) (hp : plainB t n 0 = true) (ht4 : t ≠ 4) :
  Calls Try.prog 35 #[.agg #[.int .i64 t, .int .i64 n, .slice sa 0 sc]] w (WRet (.one t n) (.one (oneP t n)) w) := by
 refine enterF (args := [.agg #[.int .i64 t, .int .i64 n, .slice sa 0 sc]]) Try.func35 rfl Try.ntmps35 rfl ?_
 have hS := St.start w
 refine seqF (regF ?_)
 refine op_box (cs := [_, _, _]) hS rfl rfl rfl ?_
 clear hS; intro B1 W1 hS
 refine op_alloc (cs := [_, _, _, _, _, _]) hS Try.zeroValue45 rfl rfl ?_
 clear hS; intro B2 W2 hS
 refine endF (XF.thenN ?_)
 refine seqF (regF ?_)
 refine op_build (us := []) rfl (bld_45) rfl ?_
 refine op_alloc (cs := [_, _, _, _, _, _]) hS Try.zeroValue45 rfl rfl ?_
 clear hS; intro B3 W3 hS
 refine op_storeA (i := 0) (vs := [_, _, _, _, _, _]) (cs' := [_, _, _, _, _, _]) (O' := [_, _, _]) hS Try.sizeOf45 rfl rfl rfl rfl rfl rfl rfl ?_
 clear hS; intro W4 hS
 refine endF (XF.thenN ?_)
 refine seqF ?_
 refine seqF (regF ?_)
 refine op_field (o' := 0) fa_25_0 rfl rfl rfl ?_
 refine op_load Try.isAgg22 rfl (cell_own (hS.at_ 2 rfl) rfl) rfl ?_
 refine endF (XF.thenN ?_)
 refine blockF ?_
 refine seqF (regF ?_)
 refine op_eql rfl rfl rfl ?_
 refine op_assign rfl rfl ?_
 refine endF (XF.thenN ?_)
 refine condF rfl (fun hc => ?_) (fun hc => ?_)
 ·have hc8 := of_decide_eq_true hc; clear hc
  have e3 : t = 3 := hc8
  subst e3
  obtain ⟨m, rfl, hm⟩ := dim3 hp (.inl rfl)
  refine regF ?_
  refine op_field (o' := 1) fa_25_1 rfl rfl rfl ?_
  refine op_load Try.isAgg3 rfl (cell_own (hS.at_ 2 rfl) rfl) rfl ?_
  have hsz := hS.below.size
  refine op_call (vs := [_]) hS goes_64 rfl ((oneR_is m _ _ (one_good hm).1 _ (one_good hm).2).mono fun _ _ h => FOwn.ret h) rfl ?_
  rintro e W5 ⟨a1, c1, rfl, hv, hl, hb⟩
  refine ⟨_, rfl, hb, fun hS' => ?_⟩
  clear hS; have hS := hS'; clear hS'
  refine op_move rfl rfl ?_
  iterate 2 refine op_extract rfl rfl rfl ?_
  refine op_field (o' := 2) fa_45_2 rfl rfl rfl ?_
  refine op_storeA (i := 0) (vs := [_, _]) (cs' := [_, _, _, _, _, _]) (O' := [_, _, _]) hS Try.sizeOf41 rfl rfl rfl rfl rfl rfl rfl ?_
  clear hS; intro W6 hS
  refine endF ?_
  refine XF.blkN ?_
  refine XF.thenN ?_
  refine seqF (regF ?_)
  refine op_loadA (vs := [_, _, _, _, _, _]) Try.isAgg45 Try.sizeOf45 rfl (CellsAt.own (j := 0) (m := 6) (hS.at_ 0 rfl) rfl) rfl ?_
  refine op_storeA (i := 1) (vs := [_, _, _, _, _, _]) (cs' := [_, _, _, _, _, _]) (O' := [_, _, _]) hS Try.sizeOf45 rfl rfl rfl rfl rfl rfl rfl ?_
  clear hS; intro W7 hS
  refine endF (XF.thenN ?_)
  refine retF ?_
  refine XF.res (resC1 (vs := [_, _, _, _, _, _]) Try.results35 Try.isAgg45 Try.sizeOf45 rfl (CellsAt.own (j := 0) (m := 6) (hS.at_ 1 rfl) rfl)) ?_
  exact wret_one (one_f3 hm (hv.agree (fun ad e => (hl ad e).1) (hS.since 0 rfl)) (fun ad e => Nat.le_trans hsz (hl ad e).1)) hS.below
 ·have hc8 := of_decide_eq_false hc; clear hc
  refine seqF (regF ?_)
  refine op_eql rfl rfl rfl ?_
  refine op_assign rfl rfl ?_
  refine endF (XF.thenN ?_)
  refine condF rfl (fun hc => absurd (of_decide_eq_true hc) (by exact ht4)) (fun hc => ?_)
  have hc := of_decide_eq_false hc
  refine seqF (regF ?_)
  refine op_eql rfl rfl rfl ?_
  refine op_assign rfl rfl ?_
  refine endF (XF.thenN ?_)
  refine condF rfl (fun hc => absurd (of_decide_eq_true hc) (by exact plain_ne5 hp)) (fun hc => ?_)
  have hc := of_decide_eq_false hc
  refine skipF ?_
  refine XF.blkN ?_
  refine XF.thenN ?_
  refine seqF (regF ?_)
  refine op_loadA (vs := [_, _, _, _, _, _]) Try.isAgg45 Try.sizeOf45 rfl (CellsAt.own (j := 0) (m := 6) (hS.at_ 0 rfl) rfl) rfl ?_
  refine op_storeA (i := 1) (vs := [_, _, _, _, _, _]) (cs' := [_, _, _, _, _, _]) (O' := [_, _, _]) hS Try.sizeOf45 rfl rfl rfl rfl rfl rfl rfl ?_
  clear hS; intro W8 hS
  refine endF (XF.thenN ?_)
  refine retF ?_
  refine XF.res (resC1 (vs := [_, _, _, _, _, _]) Try.results35 Try.isAgg45 Try.sizeOf45 rfl (CellsAt.own (j := 0) (m := 6) (hS.at_ 1 rfl) rfl)) ?_
  exact wret_one (one_f1 hp hc8 ht4) hS.below
theorem oneR_pair (t n u m : Int) (a1 a2 : Option Addr) (c1 c2 b off sc : Nat) (w : World) (hs1 : S3 w b off ⟨t, n, a1, 0, c1⟩) (hs2 : S3 w b (off + 3) ⟨u, m, a2, 0, c2⟩) (hp1 : plainB t n 0 = true) (hp2 : plainB u m 0 = true) (ih10 : ∀ W : World, Calls Try.prog 35 #[.agg #[.int .i64 t, .int .i64 n, .slice a1 0 c1]] W (WRet (.one t n) (.one (oneP t n)) W)) (ih20 : ∀ W : World, Calls Try.prog 35 #[.agg #[.int .i64 u, .int .i64 m, .slice a2 0 c2]] W (WRet (.one u m) (.one (oneP u m)) W)) :
  Calls Try.prog 35 #[.agg #[.int .i64 5, .int .i64 0, .slice (some ⟨b, off, none⟩) 2 sc]] w (WRet (.two t n u m) (.two (oneP t n) (oneP u m)) w) := by
 refine enterF (args := [.agg #[.int .i64 5, .int .i64 0, .slice (some ⟨b, off, none⟩) 2 sc]]) Try.func35 rfl Try.ntmps35 rfl ?_
 have hS := St.start w
 refine seqF (regF ?_)
 refine op_box (cs := [_, _, _]) hS rfl rfl rfl ?_
 clear hS; intro B1 W1 hS
 refine op_alloc (cs := [_, _, _, _, _, _]) hS Try.zeroValue45 rfl rfl ?_
 clear hS; intro B2 W2 hS
 refine endF (XF.thenN ?_)
 refine seqF (regF ?_)
 refine op_build (us := []) rfl (bld_45) rfl ?_
 refine op_alloc (cs := [_, _, _, _, _, _]) hS Try.zeroValue45 rfl rfl ?_
 clear hS; intro B3 W3 hS
 refine op_storeA (i := 0) (vs := [_, _, _, _, _, _]) (cs' := [_, _, _, _, _, _]) (O' := [_, _, _]) hS Try.sizeOf45 rfl rfl rfl rfl rfl rfl rfl ?_
 clear hS; intro W4 hS
 refine endF (XF.thenN ?_)
 refine seqF ?_
 refine seqF (regF ?_)
 refine op_field (o' := 0) fa_25_0 rfl rfl rfl ?_
 refine op_load Try.isAgg22 rfl (cell_own (hS.at_ 2 rfl) rfl) rfl ?_
 refine endF (XF.thenN ?_)
 refine blockF ?_
 refine seqF (regF ?_)
 refine op_eql rfl rfl rfl ?_
 refine op_assign rfl rfl ?_
 refine endF (XF.thenN ?_)
 refine condF rfl (fun hc => absurd (of_decide_eq_true hc) (by omega)) (fun hc => ?_)
 have hc := of_decide_eq_false hc
 refine seqF (regF ?_)
 refine op_eql rfl rfl rfl ?_
 refine op_assign rfl rfl ?_
 refine endF (XF.thenN ?_)
 refine condF rfl (fun hc => absurd (of_decide_eq_true hc) (by omega)) (fun hc => ?_)
 have hc := of_decide_eq_false hc
 refine seqF (regF ?_)
 refine op_eql rfl rfl rfl ?_
 refine op_assign rfl rfl ?_
 refine endF (XF.thenN ?_)
 refine condF rfl (fun hc => ?_) (fun hc => absurd (of_decide_eq_false hc) (by omega))
 have hc := of_decide_eq_true hc
 have hsz := hS.below.size
 have k1 := CellsAt.agree hS.agree (Nat.zero_le _) hs1.cells
 have k2 := CellsAt.agree hS.agree (Nat.zero_le _) hs2.cells
 have ih1 := fun (W2 : World) (_ : Below W4.heap.size W4 W2) => ih10 W2
 have ih2 := fun (W2 : World) (_ : Below W4.heap.size W4 W2) => ih20 W2
 refine regBK followsM 12 hS rfl rfl (by kernel_rfl) (by kernel_rfl) (by kernel_rfl) (fun d hd => by cases hd) ?_
 refine bl_cons 1 rfl (isV _) (stab_isV _) (rgV (li := [(1, _)]) rfl (w_free rfl) ⟨g_fr (by kernel_rfl) rfl, trivial⟩ (fun w hw => rn_field (o' := 2) fa_25_2 rfl rfl) (at_top rfl)) ?_
 refine bl_cons 2 rfl (isV _) (stab_isV _) (rgV (li := [(35, _)]) rfl (w_free rfl) ⟨g_dep 0 (by kernel_rfl) (at_dep rfl rfl rfl), trivial⟩ (fun w hw => rn_load Try.isAgg23 rfl ((below_agree hw 0).cell (Nat.zero_le _) (cell_own (hS.at_ 2 rfl) rfl))) (at_top rfl)) ?_
 refine bl_cons 3 rfl (isV _) (stab_isV _) (rgV (li := [(36, _)]) rfl (w_free rfl) ⟨g_dep 1 (by kernel_rfl) (at_dep rfl rfl rfl), trivial⟩ (fun w hw => rn_indexA (j := 0) Try.underlying23 Try.sizeOf25 rfl rfl rfl (by omega) (Nat.add_zero _)) (at_top rfl)) ?_
 refine bl_cons 4 rfl (isV _) (stab_isV _) (rgV (li := [(37, _)]) rfl (w_free rfl) ⟨g_dep 2 (by kernel_rfl) (at_dep rfl rfl rfl), trivial⟩ (fun w hw => rn_loadA (vs := [_, _, _]) Try.isAgg25 Try.sizeOf25 rfl (CellsAt.agree (below_agree hw 0) (Nat.zero_le _) (by assumption))) (at_top rfl)) ?_
 refine bl_cons 5 rfl (isNew W4.heap.size (.one t n) (.one (oneP t n))) (stab_isNew) (rg_call [isV _] rfl goes_35 (w_free rfl) ⟨p_tmp (g_dep 3 (by kernel_rfl) (at_dep rfl rfl rfl)), trivial⟩ (fun vs w' hb hh => by have e := holds_isV (us := [_]) hh; subst e; exact wret_gives hb.size (ih1 _ hb)) (at_top rfl)) ?_
 refine bl_cons 6 rfl (isV _) (stab_isV _) (rgV (li := [(1, _)]) rfl (w_free rfl) ⟨g_fr (by kernel_rfl) rfl, trivial⟩ (fun w hw => rn_field (o' := 2) fa_25_2 rfl rfl) (at_top rfl)) ?_
 refine bl_cons 7 rfl (isV _) (stab_isV _) (rgV (li := [(40, _)]) rfl (w_free rfl) ⟨g_dep 5 (by kernel_rfl) (at_dep rfl rfl rfl), trivial⟩ (fun w hw => rn_load Try.isAgg23 rfl ((below_agree hw 0).cell (Nat.zero_le _) (cell_own (hS.at_ 2 rfl) rfl))) (at_top rfl)) ?_
 refine bl_cons 8 rfl (isV _) (stab_isV _) (rgV (li := [(41, _)]) rfl (w_free rfl) ⟨g_dep 6 (by kernel_rfl) (at_dep rfl rfl rfl), trivial⟩ (fun w hw => rn_indexA (j := 1) Try.underlying23 Try.sizeOf25 rfl rfl rfl (by omega) rfl) (at_top rfl)) ?_
 refine bl_cons 9 rfl (isV _) (stab_isV _) (rgV (li := [(42, _)]) rfl (w_free rfl) ⟨g_dep 7 (by kernel_rfl) (at_dep rfl rfl rfl), trivial⟩ (fun w hw => rn_loadA (vs := [_, _, _]) Try.isAgg25 Try.sizeOf25 rfl (CellsAt.agree (below_agree hw 0) (Nat.zero_le _) (by assumption))) (at_top rfl)) ?_
 refine bl_cons 10 rfl (isNew W4.heap.size (.one u m) (.one (oneP u m))) (stab_isNew) (rg_call [isV _] rfl goes_35 (w_free rfl) ⟨p_tmp (g_dep 8 (by kernel_rfl) (at_dep rfl rfl rfl)), trivial⟩ (fun vs w' hb hh => by have e := holds_isV (us := [_]) hh; subst e; exact wret_gives hb.size (ih2 _ hb)) (at_top rfl)) ?_
 refine bl_cons 11 rfl (isPairRow W4.heap.size (.two t n u m) (.two (oneP t n) (oneP u m))) (stab_isPairRow) (rg_pairRow rfl (w_free rfl) ⟨p_tmp (g_dep 4 (by kernel_rfl) (at_dep rfl rfl rfl)), p_tmp (g_dep 9 (by kernel_rfl) (at_dep rfl rfl rfl)), trivial⟩ (at_top rfl)) ?_
 refine bl_cons 12 rfl (isV _) (stab_isV _) (rgV (li := [(3, _)]) rfl (w_free rfl) ⟨g_fr (by kernel_rfl) rfl, trivial⟩ (fun w hw => rn_field (o' := 5) fa_45_4 rfl rfl) (at_top rfl)) ?_
 refine bl_nil ?_
 intro W5 hbR hS'
 clear hS; have hS := hS'; clear hS'
 iterate 4 refine fin_v ?_
 refine fin_p ?_; rintro _ ⟨v1, rfl, hn1⟩
 iterate 4 refine fin_v ?_
 refine fin_p ?_; rintro _ ⟨v2, rfl, hn2⟩
 refine fin_p ?_; rintro _ ⟨b9, rfl, hn9⟩
 refine fin_v ?_
 refine fin_nil ?_
 refine op_store (i := 0) (cs' := [_, _, _, _, _, _]) (O' := [_, _, _]) hS Try.sizeOf43 rfl rfl rfl rfl rfl rfl rfl ?_
 clear hS; intro W6 hS
 refine endF ?_
 refine XF.blkN ?_
 refine XF.thenN ?_
 refine seqF (regF ?_)
 refine op_loadA (vs := [_, _, _, _, _, _]) Try.isAgg45 Try.sizeOf45 rfl (CellsAt.own (j := 0) (m := 6) (hS.at_ 0 rfl) rfl) rfl ?_
 refine op_storeA (i := 1) (vs := [_, _, _, _, _, _]) (cs' := [_, _, _, _, _, _]) (O' := [_, _, _]) hS Try.sizeOf45 rfl rfl rfl rfl rfl rfl rfl ?_
 clear hS; intro W7 hS
 refine endF (XF.thenN ?_)
 refine retF ?_
 refine XF.res (resC1 (vs := [_, _, _, _, _, _]) Try.results35 Try.isAgg45 Try.sizeOf45 rfl (CellsAt.own (j := 0) (m := 6) (hS.at_ 1 rfl) rfl)) ?_
 exact ⟨pairF b9, rfl, (hn9.agree (hS.since 0 rfl)).mono hsz, hS.below⟩
end Go.Proofs.Ytpkcaabbcoiiiaa
namespace Go.Proofs.Ytpkcaabbcoiiiaa
open Go Go.RowKit
theorem oneR_4 (m : Nat) (sa : Option Addr) (sc : Nat) (w : World) (hm : m ≤ 64) :
  Calls Try.prog 35 #[.agg #[.int .i64 4, .int .i64 (m : Int), .slice sa 0 sc]] w (WRet (.one 4 m) (.one (oneP 4 m)) w) := by
 refine enterF (args := [.agg #[.int .i64 4, .int .i64 (m : Int), .slice sa 0 sc]]) Try.func35 rfl Try.ntmps35 rfl ?_
 have hS := St.start w
 refine seqF (regF ?_)
 refine op_box (cs := [_, _, _]) hS rfl rfl rfl ?_
 clear hS; intro B1 W1 hS
 refine op_alloc (cs := [_, _, _, _, _, _]) hS Try.zeroValue45 rfl rfl ?_
 clear hS; intro B2 W2 hS
 refine endF (XF.thenN ?_)
 refine seqF (regF ?_)
 refine op_build (us := []) rfl (bld_45) rfl ?_
 refine op_alloc (cs := [_, _, _, _, _, _]) hS Try.zeroValue45 rfl rfl ?_
 clear hS; intro B3 W3 hS
 refine op_storeA (i := 0) (vs := [_, _, _, _, _, _]) (cs' := [_, _, _, _, _, _]) (O' := [_, _, _]) hS Try.sizeOf45 rfl rfl rfl rfl rfl rfl rfl ?_
 clear hS; intro W4 hS
 refine endF (XF.thenN ?_)
 refine seqF ?_
 refine seqF (regF ?_)
 refine op_field (o' := 0) fa_25_0 rfl rfl rfl ?_
 refine op_load Try.isAgg22 rfl (cell_own (hS.at_ 2 rfl) rfl) rfl ?_
 refine endF (XF.thenN ?_)
 refine blockF ?_
 refine seqF (regF ?_)
 refine op_eql rfl rfl rfl ?_
 refine op_assign rfl rfl ?_
 refine endF (XF.thenN ?_)
 refine condF rfl (fun hc => absurd (of_decide_eq_true hc) (by omega)) (fun hc => ?_)
 have hc := of_decide_eq_false hc
 refine seqF (regF ?_)
 refine op_eql rfl rfl rfl ?_
 refine op_assign rfl rfl ?_
 refine endF (XF.thenN ?_)
 refine condF rfl (fun hc => ?_) (fun hc => absurd (of_decide_eq_false hc) (by omega))
 have hc := of_decide_eq_true hc
 refine seqF (regF ?_)
 refine op_assign rfl rfl ?_
 refine endF (XF.thenN ?_)
 refine blockF ?_
 refine loopF (fun q l W => ∃ (k : Nat) (v : Value), k ≤ m ∧ q = m - k ∧ l = [(1, .pointer (some ⟨B1, 0, none⟩)), (2, .pointer (some ⟨B2, 0, none⟩)), (3, .pointer (some ⟨B3, 0, none⟩)), (4, .int .i64 (k : Int))] ∧ St w [(B3, [.bool false, .int .i64 0, .int .u64 0, .slice none 0 0, v, .slice none 0 0], 45), (B2, [.bool false, .int .i64 0, .int .u64 0, .slice none 0 0, .slice none 0 0, .slice none 0 0], 45), (B1, [.int .i64 4, .int .i64 (m : Int), .slice sa 0 sc], 25)] [⟨v, k, flat ((unitC m).take k), 96, 3⟩] [] W) (m - 0) ([(1, _), (2, _), (3, _), (4, _)]) ⟨rfl, rfl, rfl, rfl, trivial⟩ (⟨0, .slice none 0 0, Nat.zero_le _, rfl, rfl, hS.clear.newG _ _⟩) ?_
 clear hS
 rintro q l W ⟨k, v, hkm, rfl, rfl, hS⟩
 refine seqF ?_
 refine seqF (regF ?_)
 refine op_move rfl rfl ?_
 refine op_field (o' := 1) fa_25_1 rfl rfl rfl ?_
 refine op_load Try.isAgg3 rfl (cell_own (hS.at_ 2 rfl) rfl) rfl ?_
 refine op_lss rfl rfl rfl ?_
 refine endF (XF.thenN ?_)
 refine condF rfl (fun hc => ?_) (fun hc => ?_)
 ·have hc22 := of_decide_eq_true hc; clear hc
  have hk : k < m := by omega
  refine skipF ?_
  refine XF.thenN ?_
  refine seqF ?_
  refine blockF ?_
  refine regBP (p := 6) (k := 8) (gi := 0) (m := 1) followsM hS rfl rfl (by kernel_rfl) (by kernel_rfl) (by kernel_rfl) (fun d hd => by cases hd) rfl rfl Try.underlying42 inf_96 rfl rfl (by show 0 < 3; decide) rfl rfl rfl (by dsimp only; simp only [maxLen]; omega) (by dsimp only; show _ * 24 ≤ _; omega) ?_
  refine blp_v 1 rfl rfl (by kernel_rfl) (rgV (li := [(3, _)]) rfl (w_free rfl) ⟨g_fr (by kernel_rfl) rfl, trivial⟩ (fun w hw => rn_field (o' := 4) fa_45_3 rfl rfl) (at_top rfl)) ?_
  refine blp_v 2 rfl rfl (by kernel_rfl) (rgV (li := [(25, _)]) rfl (w_free rfl) ⟨g_dep 0 (by kernel_rfl) (at_dep rfl rfl rfl), trivial⟩ (fun w hw => rn_load Try.isAgg42 rfl ((below_agree hw 0).cell (Nat.zero_le _) (cell_own (hS.at_ 0 rfl) rfl))) (at_top rfl)) ?_
  refine blp_v 3 rfl rfl (by kernel_rfl) (rgV (li := [(4, _)]) rfl (w_free rfl) ⟨g_fr (by kernel_rfl) rfl, trivial⟩ (fun w hw => rn_move rfl) (at_top rfl)) ?_
  refine blp_v 4 rfl rfl (by kernel_rfl) (rg_call [isV _] rfl goes_65 (w_free rfl) ⟨p_tmp (g_dep 2 (by kernel_rfl) (at_dep rfl rfl rfl)), trivial⟩ (fun vs w' hb hh => by have e := holds_isV (us := [_]) hh; subst e; exact (worth_at (k : Int) k (2 ^ k) (by omega) rfl (by omega) _).mono fun e w2 h => ⟨_, h.1, rfl, h.2 ▸ Below.refl _ _⟩) (at_top rfl)) ?_
  refine blp_v 5 rfl rfl (by kernel_rfl) (rgV (li := [(28, _)]) rfl (w_free rfl) ⟨g_dep 3 (by kernel_rfl) (at_dep rfl rfl rfl), trivial⟩ (fun w hw => rn_build (us := [(0, .int .u64 _)]) rfl (bld_96_0 _)) (at_top rfl)) ?_
  refine blp_q 6 rfl rfl (by kernel_rfl) (isRow W.heap.size 1 96 _) (stab_isRow) (rg_rowV (us := [.agg (List.toArray [_, _, _])]) rfl (w_free rfl) Try.underlying42 Try.sizeOf96 Try.zeroValue96 rfl rfl ⟨p_tmp (g_dep 4 (by kernel_rfl) (at_dep rfl rfl rfl)), trivial⟩ (bs_42_1 _ _ _) (at_top rfl)) ?_
  refine blp_app 7 rfl rfl ?_
  refine blp_late 8 rfl rfl (rgV (li := [(3, _)]) rfl (w_free rfl) ⟨g_fr (by kernel_rfl) rfl, trivial⟩ (fun w hw => rn_field (o' := 4) fa_45_3 rfl rfl) (at_top rfl)) (lgV (li := [(3, _)]) rfl (w_free rfl) ⟨g_fr (by kernel_rfl) rfl, trivial⟩ (fun w => rn_field (o' := 4) fa_45_3 rfl rfl) (at_top rfl) rfl) ?_
  refine blp_nil ⟨_, _, g_dep 1 (by kernel_rfl) (at_dep rfl rfl rfl), g_dep 5 (by kernel_rfl) (at_dep rfl rfl rfl), rowOf_isRow rfl rfl, ?_⟩
  intro A5 v5 news5 W5 hbR hqA5 hS'
  clear hS; have hS := hS'; clear hS'
  cases hqA5
  iterate 5 refine fin_v ?_
  refine fin_p ?_; intro _ _
  iterate 2 refine fin_v ?_
  obtain ⟨g9, c9, e9, _, _⟩ := (hS.row 0 rfl).form (by show 0 < k + 1; omega)
  dsimp only at e9
  subst e9
  refine fin_nil ?_
  refine op_store (i := 0) (cs' := [_, _, _, _, _, _]) (O' := [_, _, _]) hS Try.sizeOf42 rfl rfl rfl rfl rfl rfl rfl ?_
  clear hS; intro W6 hS
  refine endF ?_
  refine XF.blkN ?_
  refine XF.thenN ?_
  refine regF ?_
  refine op_move rfl rfl ?_
  refine op_add rfl rfl (IntWalk.i64_in _ (by omega)) rfl ?_
  refine op_assign rfl rfl ?_
  refine endF ?_
  exact XF.round (m - (k + 1)) [(1, _), (2, _), (3, _), (4, _)] (by omega) ⟨rfl, rfl, rfl, rfl, trivial⟩ ⟨k + 1, _, by omega, rfl, rfl, by rw [unit_snoc hk, flat_snoc]; exact hS.clear⟩
 ·have hc22 := of_decide_eq_false hc; clear hc
  refine exitF ?_
  iterate 2 refine XF.thenX ?_
  refine XF.blkX ?_
  refine XF.blkN ?_
  refine XF.thenN ?_
  refine seqF ?_
  obtain rfl : k = m := by omega
  have hrow := hS.row 0 rfl
  have ht : (unitC k).take k = unitC k := List.take_of_length_le (by rw [unit_length]; exact Nat.le_refl _)
  simp only [ht] at hrow
  obtain ⟨hn, a9, c9, rfl, _, _⟩ := crow_of_own hrow
  clear hrow
  refine regF ?_
  refine op_loadA (vs := [_, _, _, _, _, _]) Try.isAgg45 Try.sizeOf45 rfl (CellsAt.own (j := 0) (m := 6) (hS.at_ 0 rfl) rfl) rfl ?_
  refine op_storeA (i := 1) (vs := [_, _, _, _, _, _]) (cs' := [_, _, _, _, _, _]) (O' := [_, _, _]) hS Try.sizeOf45 rfl rfl rfl rfl rfl rfl rfl ?_
  clear hS; intro W7 hS
  refine endF (XF.thenN ?_)
  refine retF ?_
  refine XF.res (resC1 (vs := [_, _, _, _, _, _]) Try.results35 Try.isAgg45 Try.sizeOf45 rfl (CellsAt.own (j := 0) (m := 6) (hS.at_ 1 rfl) rfl)) ?_
  have hrow := hS.row 0 rfl
  simp only [ht] at hrow
  obtain ⟨_, a8, c8, e8, hr9, hf9⟩ := crow_of_own hrow
  cases e8
  have e9 : (unitC k).length = k := unit_length k
  refine ⟨cellsF a9 c9 (unitC k), ?_, one_f4 hm hr9 (fun ad e => (hf9 ad e).1), hS.below⟩
  show _ = Ending.returned (Value.agg #[.bool false, .int .i64 0, .int .u64 ((0 : Nat) : Int), .slice none 0 0, .slice a9 (unitC k).length c9, .slice none 0 0])
  rw [e9]
  rfl
theorem oneR_plain (t n : Int) (sa : Option Addr) (sc : Nat) (w : World) (hp : plainB t n 0 = true) : Calls Try.prog 35 #[.agg #[.int .i64 t, .int .i64 n, .slice sa 0 sc]] w (WRet (.one t n) (.one (oneP t n)) w) := by
 by_cases h4 : t = 4
 ·subst h4
  obtain ⟨m, rfl, hm⟩ := dim3 hp (.inr rfl)
  exact oneR_4 m sa sc w hm
 ·exact oneR_not4 t n sa sc w hp h4
theorem oneR_ok {S : PS} {sf : SF} {w : World} (hs : SIs w S sf) (hok : S.ok) : Calls Try.prog 35 #[sf.val] w (WRet S (oneX S) w) := by
 cases S with
 | one t n =>
  obtain ⟨a, c, rfl⟩ := hs
  exact oneR_plain _ _ _ _ _ hok
 | two t n u m =>
  obtain ⟨b, off, c, a1, c1, a2, c2, rfl, h1, h2⟩ := hs
  exact oneR_pair _ _ _ _ _ _ _ _ _ _ _ _ h1 h2 hok.1 hok.2 (fun W => oneR_plain _ _ _ _ _ hok.1) (fun W => oneR_plain _ _ _ _ _ hok.2)
theorem OneR_ok (S : PS) (sf : SF) (w : World) (hs : SIs w S sf) (hok : S.ok) :
  Calls Try.prog 11 #[sf.val] w (WRet2 S (oneX S) 0 w) := by
 refine enterF (args := [sf.val]) Try.func11 rfl Try.ntmps11 rfl ?_
 have hS := St.start w
 refine seqF (regF ?_)
 refine op_box (cs := [_, _, _]) hS rfl rfl rfl ?_
 clear hS; intro B1 W1 hS
 refine op_alloc (cs := [_, _, _, _, _, _]) hS Try.zeroValue45 rfl rfl ?_
 clear hS; intro B2 W2 hS
 refine op_assign rfl rfl ?_
 refine endF (XF.thenN ?_)
 refine seqF ?_
 refine seqF (regF ?_)
 refine op_loadA (vs := [_, _, _]) Try.isAgg25 Try.sizeOf25 rfl (CellsAt.own (j := 0) (m := 3) (hS.at_ 1 rfl) rfl) rfl ?_
 refine op_call (vs := [_]) hS goes_34 rfl (spaceR_ok (hs.below hS.below) hok) rfl ?_
 rintro e W3 ⟨rfl, hb⟩
 refine ⟨_, rfl, hb, fun hS' => ?_⟩
 clear hS; have hS := hS'; clear hS' hb
 refine op_neq rfl rfl rfl ?_
 refine endF (XF.thenN ?_)
 refine condF rfl (fun hc => absurd (of_decide_eq_true hc) (by omega)) (fun hc => ?_)
 have hc := of_decide_eq_false hc
 refine skipF ?_
 refine XF.thenN ?_
 refine seqF (regF ?_)
 refine op_loadA (vs := [_, _, _]) Try.isAgg25 Try.sizeOf25 rfl (CellsAt.own (j := 0) (m := 3) (hS.at_ 1 rfl) rfl) rfl ?_
 have hsz := hS.below.size
 refine op_call (vs := [_]) hS goes_35 rfl (oneR_ok (hs.below hS.below) hok) rfl ?_
 rintro e W4 ⟨f, rfl, hn, hb⟩
 refine ⟨_, rfl, hb, fun hS' => ?_⟩
 clear hS; have hS := hS'; clear hS'
 refine op_storeA (i := 0) (vs := [_, _, _, _, _, _]) (cs' := [_, _, _, _, _, _]) (O' := [_, _]) hS Try.sizeOf45 rfl rfl rfl rfl rfl rfl rfl ?_
 clear hS; intro W5 hS
 refine op_assign rfl rfl ?_
 refine endF (XF.thenN ?_)
 refine retF ?_
 refine XF.res (resCT (vs := [_, _, _, _, _, _]) Try.results11 Try.isAgg45 Try.sizeOf45 rfl (CellsAt.own (j := 0) (m := 6) (hS.at_ 0 rfl) rfl) rfl) ?_
 exact ⟨f, rfl, (hn.agree (hS.since 0 rfl)).mono hsz, hS.below⟩
end Go.Proofs.Ytpkcaabbcoiiiaa
namespace Go.Proofs.Ytpkcaabbcoiiiaa
open Go.RowKit
set_option maxHeartbeats 1000000 in
theorem jn_00 (f f2 : Int) (w : World) : Calls Try.prog 96 #[.agg #[.int .u64 f, .int .i64 0, .int .i64 0], .agg #[.int .u64 f2, .int .i64 0, .int .i64 0]] w fun e w' => e = .returned (.agg #[.int .u64 (bits .or .u64 f f2), .int .i64 0, .int .i64 0]) ∧ Below w.heap.size w w' := by
 go_enter Try.func96, Try.ntmps96
 go_wp2
 all_goals (try go_region)
 all_goals go_wp2
 all_goals refine bodyPost_ret (v := .agg #[.int .u64 (bits .or .u64 f f2), .int .i64 0, .int .i64 0]) (by simp [results, Try.results96, go_sem]) rfl ⟨rfl, ?_⟩
 all_goals repeat (first | exact Below.refl _ _ | refine Below.drew ?_ | (refine Below.setCell ?_ (by simp) _) | (refine Below.alloc ?_ (by simp; try omega) _))
set_option maxHeartbeats 1000000 in
theorem jn_01 (f f2 : Int) (v2 : Int) (w : World) : Calls Try.prog 96 #[.agg #[.int .u64 f, .int .i64 0, .int .i64 0], .agg #[.int .u64 f2, .int .i64 1, .int .i64 v2]] w fun e w' => e = .returned (.agg #[.int .u64 (bits .or .u64 f f2), .int .i64 1, .int .i64 v2]) ∧ Below w.heap.size w w' := by
 go_enter Try.func96, Try.ntmps96
 go_wp2
 all_goals (try go_region)
 all_goals go_wp2
 all_goals refine bodyPost_ret (v := .agg #[.int .u64 (bits .or .u64 f f2), .int .i64 1, .int .i64 v2]) (by simp [results, Try.results96, go_sem]) rfl ⟨rfl, ?_⟩
 all_goals repeat (first | exact Below.refl _ _ | refine Below.drew ?_ | (refine Below.setCell ?_ (by simp) _) | (refine Below.alloc ?_ (by simp; try omega) _))
set_option maxHeartbeats 1000000 in
theorem jn_02 (f f2 : Int) (w : World) : Calls Try.prog 96 #[.agg #[.int .u64 f, .int .i64 0, .int .i64 0], .agg #[.int .u64 f2, .int .i64 2, .int .i64 0]] w fun e w' => e = .returned (.agg #[.int .u64 0, .int .i64 2, .int .i64 0]) ∧ Below w.heap.size w w' := by
 go_enter Try.func96, Try.ntmps96
 go_wp2
 all_goals (try go_region)
 all_goals go_wp2
 all_goals refine bodyPost_ret (v := .agg #[.int .u64 0, .int .i64 2, .int .i64 0]) (by simp [results, Try.results96, go_sem]) rfl ⟨rfl, ?_⟩
 all_goals repeat (first | exact Below.refl _ _ | refine Below.drew ?_ | (refine Below.setCell ?_ (by simp) _) | (refine Below.alloc ?_ (by simp; try omega) _))
set_option maxHeartbeats 1000000 in
theorem jn_10 (f f2 : Int) (v : Int) (w : World) : Calls Try.prog 96 #[.agg #[.int .u64 f, .int .i64 1, .int .i64 v], .agg #[.int .u64 f2, .int .i64 0, .int .i64 0]] w fun e w' => e = .returned (.agg #[.int .u64 (bits .or .u64 f f2), .int .i64 1, .int .i64 v]) ∧ Below w.heap.size w w' := by
 go_enter Try.func96, Try.ntmps96
 go_wp2
 all_goals (try go_region)
 all_goals go_wp2
 all_goals refine bodyPost_ret (v := .agg #[.int .u64 (bits .or .u64 f f2), .int .i64 1, .int .i64 v]) (by simp [results, Try.results96, go_sem]) rfl ⟨rfl, ?_⟩
 all_goals repeat (first | exact Below.refl _ _ | refine Below.drew ?_ | (refine Below.setCell ?_ (by simp) _) | (refine Below.alloc ?_ (by simp; try omega) _))
set_option maxHeartbeats 1000000 in
theorem jn_11 (f f2 : Int) (v : Int) (w : World) : Calls Try.prog 96 #[.agg #[.int .u64 f, .int .i64 1, .int .i64 v], .agg #[.int .u64 f2, .int .i64 1, .int .i64 v]] w fun e w' => e = .returned (.agg #[.int .u64 (bits .or .u64 f f2), .int .i64 1, .int .i64 v]) ∧ Below w.heap.size w w' := by
 go_enter Try.func96, Try.ntmps96
 go_wp2
 all_goals (try go_region)
 all_goals go_wp2
 all_goals refine bodyPost_ret (v := .agg #[.int .u64 (bits .or .u64 f f2), .int .i64 1, .int .i64 v]) (by simp [results, Try.results96, go_sem]) rfl ⟨rfl, ?_⟩
 all_goals repeat (first | exact Below.refl _ _ | refine Below.drew ?_ | (refine Below.setCell ?_ (by simp) _) | (refine Below.alloc ?_ (by simp; try omega) _))
set_option maxHeartbeats 1000000 in
theorem jn_1x (f f2 : Int) (v v2 : Int) (hv : (v == v2) = false) (w : World) : Calls Try.prog 96 #[.agg #[.int .u64 f, .int .i64 1, .int .i64 v], .agg #[.int .u64 f2, .int .i64 1, .int .i64 v2]] w fun e w' => e = .returned (.agg #[.int .u64 0, .int .i64 2, .int .i64 0]) ∧ Below w.heap.size w w' := by
 go_enter Try.func96, Try.ntmps96
 go_wp2
 all_goals (try go_region)
 all_goals go_wp2
 all_goals refine bodyPost_ret (v := .agg #[.int .u64 0, .int .i64 2, .int .i64 0]) (by simp [results, Try.results96, go_sem]) rfl ⟨rfl, ?_⟩
 all_goals repeat (first | exact Below.refl _ _ | refine Below.drew ?_ | (refine Below.setCell ?_ (by simp) _) | (refine Below.alloc ?_ (by simp; try omega) _))
set_option maxHeartbeats 1000000 in
theorem jn_12 (f f2 : Int) (v : Int) (w : World) : Calls Try.prog 96 #[.agg #[.int .u64 f, .int .i64 1, .int .i64 v], .agg #[.int .u64 f2, .int .i64 2, .int .i64 0]] w fun e w' => e = .returned (.agg #[.int .u64 0, .int .i64 2, .int .i64 0]) ∧ Below w.heap.size w w' := by
 go_enter Try.func96, Try.ntmps96
 go_wp2
 all_goals (try go_region)
 all_goals go_wp2
 all_goals refine bodyPost_ret (v := .agg #[.int .u64 0, .int .i64 2, .int .i64 0]) (by simp [results, Try.results96, go_sem]) rfl ⟨rfl, ?_⟩
 all_goals repeat (first | exact Below.refl _ _ | refine Below.drew ?_ | (refine Below.setCell ?_ (by simp) _) | (refine Below.alloc ?_ (by simp; try omega) _))
set_option maxHeartbeats 1000000 in
theorem jn_20 (f f2 : Int) (w : World) : Calls Try.prog 96 #[.agg #[.int .u64 f, .int .i64 2, .int .i64 0], .agg #[.int .u64 f2, .int .i64 0, .int .i64 0]] w fun e w' => e = .returned (.agg #[.int .u64 0, .int .i64 2, .int .i64 0]) ∧ Below w.heap.size w w' := by
 go_enter Try.func96, Try.ntmps96
 go_wp2
 all_goals (try go_region)
 all_goals go_wp2
 all_goals refine bodyPost_ret (v := .agg #[.int .u64 0, .int .i64 2, .int .i64 0]) (by simp [results, Try.results96, go_sem]) rfl ⟨rfl, ?_⟩
 all_goals repeat (first | exact Below.refl _ _ | refine Below.drew ?_ | (refine Below.setCell ?_ (by simp) _) | (refine Below.alloc ?_ (by simp; try omega) _))
set_option maxHeartbeats 1000000 in
theorem jn_21 (f f2 : Int) (v2 : Int) (w : World) : Calls Try.prog 96 #[.agg #[.int .u64 f, .int .i64 2, .int .i64 0], .agg #[.int .u64 f2, .int .i64 1, .int .i64 v2]] w fun e w' => e = .returned (.agg #[.int .u64 0, .int .i64 2, .int .i64 0]) ∧ Below w.heap.size w w' := by
 go_enter Try.func96, Try.ntmps96
 go_wp2
 all_goals (try go_region)
 all_goals go_wp2
 all_goals refine bodyPost_ret (v := .agg #[.int .u64 0, .int .i64 2, .int .i64 0]) (by simp [results, Try.results96, go_sem]) rfl ⟨rfl, ?_⟩
 all_goals repeat (first | exact Below.refl _ _ | refine Below.drew ?_ | (refine Below.setCell ?_ (by simp) _) | (refine Below.alloc ?_ (by simp; try omega) _))
set_option maxHeartbeats 1000000 in
theorem jn_22 (f f2 : Int) (w : World) : Calls Try.prog 96 #[.agg #[.int .u64 f, .int .i64 2, .int .i64 0], .agg #[.int .u64 f2, .int .i64 2, .int .i64 0]] w fun e w' => e = .returned (.agg #[.int .u64 0, .int .i64 2, .int .i64 0]) ∧ Below w.heap.size w w' := by
 go_enter Try.func96, Try.ntmps96
 go_wp2
 all_goals (try go_region)
 all_goals go_wp2
 all_goals refine bodyPost_ret (v := .agg #[.int .u64 0, .int .i64 2, .int .i64 0]) (by simp [results, Try.results96, go_sem]) rfl ⟨rfl, ?_⟩
 all_goals repeat (first | exact Below.refl _ _ | refine Below.drew ?_ | (refine Below.setCell ?_ (by simp) _) | (refine Below.alloc ?_ (by simp; try omega) _))
theorem jn_any (a b : Cl) (ha : a.ok) (hb : b.ok) (w : World) : Calls Try.prog 96 #[a.val, b.val] w (JoinPost a b w) := by
 obtain ⟨f, k, v⟩ := a
 obtain ⟨f2, k2, v2⟩ := b
 obtain ⟨hf, hk⟩ := ha
 obtain ⟨hf2, hk2⟩ := hb
 simp only at hf hk hf2 hk2
 have ho := or_cast f f2 hf hf2
 rcases kind_cases hk with ⟨rfl, rfl⟩ | rfl | ⟨rfl, rfl⟩ <;> rcases kind_cases hk2 with ⟨rfl, rfl⟩ | rfl | ⟨rfl, rfl⟩
 ·exact (jn_00 f f2 w).mono (to_post (by simp [joinK, ho]) (by simp [joinK]) (by simp [joinV]))
 ·exact (jn_01 f f2 v2 w).mono (to_post (by simp [joinK, ho]) (by simp [joinK]) (by simp [joinV]))
 ·exact (jn_02 f f2 w).mono (to_post (by simp [joinK]) (by simp [joinK]) (by simp [joinV]))
 ·exact (jn_10 f f2 v w).mono (to_post (by simp [joinK, ho]) (by simp [joinK]) (by simp [joinV]))
 ·by_cases hv : v = v2
  ·subst hv
   exact (jn_11 f f2 v w).mono (to_post (by simp [joinK, ho]) (by simp [joinK]) (by simp [joinV]))
  ·exact (jn_1x f f2 v v2 (by simp [hv]) w).mono (to_post (by simp [joinK, hv]) (by simp [joinK, hv]) (by simp [joinV, hv]))
 ·exact (jn_12 f f2 v w).mono (to_post (by simp [joinK]) (by simp [joinK]) (by simp [joinV]))
 ·exact (jn_20 f f2 w).mono (to_post (by simp [joinK]) (by simp [joinK]) (by simp [joinV]))
 ·exact (jn_21 f f2 v2 w).mono (to_post (by simp [joinK]) (by simp [joinK]) (by simp [joinV]))
 ·exact (jn_22 f f2 w).mono (to_post (by simp [joinK]) (by simp [joinK]) (by simp [joinV]))
end Go.Proofs.Ytpkcaabbcoiiiaa
namespace Go.Proofs.Ytpkcaabbcoiiiaa
open Go Go.RowKit
theorem has_bit {f k : Nat} (hk : k < 64) : hasB f (k : Int) = f.testBit k := by
 unfold hasB
 rw [decide_eq_true (by omega), decide_eq_true (by omega), Int.toNat_natCast]
 rfl
theorem flat_step {xs : List Cl} {k : Nat} {c : Cl} (h : xs[k]? = some c) : flat (xs.take (k + 1)) = flat (xs.take k) ++ vals c := by
 rw [List.take_add_one, h]; exact flat_snoc _ _
theorem behindR_is (a : Option Addr) (cap len : Nat) (row : List Cl) (c : Cl) (w : World) (hlen : row.length = len) (hm : len ≤ 64) (hra : CRow w a row) (hok : ∀ (i : Nat) x, row[i]? = some x → x.ok) (hc : c.ok) :
  Calls Try.prog 68 #[.slice a len cap, c.val] w (fun e w' => e = .returned (ofC row c).val ∧ Below w.heap.size w w') := by
 refine enterF (args := [.slice a len cap, c.val]) Try.func68 rfl Try.ntmps68 rfl ?_
 have hS := St.start w
 refine seqF (regF ?_)
 refine op_box (cs := [_, _, _]) hS rfl rfl rfl ?_
 clear hS; intro B1 W1 hS
 refine op_alloc (cs := [_, _, _]) hS Try.zeroValue96 rfl rfl ?_
 clear hS; intro B2 W2 hS
 refine endF (XF.thenN ?_)
 refine seqF (regF ?_)
 refine op_field (o' := 1) fa_96_1 rfl rfl rfl ?_
 refine op_load Try.isAgg94 rfl (cell_own (hS.at_ 1 rfl) rfl) rfl ?_
 refine op_field (o' := 2) fa_96_2 rfl rfl rfl ?_
 refine op_load Try.isAgg2 rfl (cell_own (hS.at_ 1 rfl) rfl) rfl ?_
 refine op_build (us := [(1, .int .i64 _), (2, .int .i64 _)]) rfl (bld_96_1_2 _ _) rfl ?_
 refine op_alloc (cs := [_, _, _]) hS Try.zeroValue96 rfl rfl ?_
 clear hS; intro B3 W3 hS
 refine op_storeA (i := 0) (vs := [_, _, _]) (cs' := [_, _, _]) (O' := [_, _, _]) hS Try.sizeOf96 rfl rfl rfl rfl rfl rfl rfl ?_
 clear hS; intro W4 hS
 refine endF (XF.thenN ?_)
 refine seqF ?_
 refine seqF (regF ?_)
 refine op_assign rfl rfl ?_
 refine endF (XF.thenN ?_)
 refine blockF ?_
 refine loopF (fun q l W => ∃ k : Nat, k ≤ len ∧ q = len - k ∧ l = [(0, .slice a len cap), (3, .pointer (some ⟨B1, 0, none⟩)), (4, .pointer (some ⟨B2, 0, none⟩)), (5, .pointer (some ⟨B3, 0, none⟩)), (6, .int .i64 (k : Int))] ∧ St w [(B3, [.int .u64 ((ofTo row c k).f : Int), .int .i64 (ofTo row c k).k, .int .i64 (ofTo row c k).v], 96), (B2, [.int .u64 0, .int .i64 0, .int .i64 0], 96), (B1, [.int .u64 (c.f : Int), .int .i64 c.k, .int .i64 c.v], 96)] [] [] W) (len - 0) ([(0, _), (3, _), (4, _), (5, _), (6, _)]) ⟨rfl, rfl, rfl, rfl, rfl, trivial⟩ (⟨0, Nat.zero_le _, rfl, rfl, hS.clear⟩) ?_
 clear hS
 rintro q l W ⟨k, hkm, rfl, rfl, hS⟩
 refine seqF ?_
 refine seqF (regF ?_)
 iterate 2 refine op_move rfl rfl ?_
 refine op_len Try.underlying42 rfl rfl ?_
 refine op_lss rfl rfl rfl ?_
 refine endF (XF.thenN ?_)
 refine condF rfl (fun hc => ?_) (fun hc => ?_)
 ·have hc15 := of_decide_eq_true hc; clear hc
  have hk : k < len := by omega
  obtain ⟨ba, offa, x, rfl, hx, hba, a0, a1, a2⟩ := (hra.below hS.below).at_ (k := k) (by omega)
  have k1 : CellsAt W ba (offa + k * 3) [.int .u64 (x.f : Int), .int .i64 x.k, .int .i64 x.v] := ⟨a0, a1, a2, trivial⟩
  refine skipF ?_
  refine XF.thenN ?_
  refine seqF ?_
  refine blockF ?_
  refine seqF (regF ?_)
  refine op_field (o' := 0) fa_96_0 rfl rfl rfl ?_
  refine op_load Try.isAgg38 rfl (cell_own (hS.at_ 2 rfl) rfl) rfl ?_
  refine op_move rfl rfl ?_
  refine op_call (vs := [_, _]) hS goes_95 rfl (hasR_is c.f (k : Int) (c.f.testBit k) (has_bit (by omega)) hc.1 _) rfl ?_
  rintro e W5 ⟨rfl, rfl⟩
  refine ⟨_, rfl, Below.refl _ _, fun hS' => ?_⟩
  clear hS; have hS := hS'; clear hS'
  refine endF (XF.thenN ?_)
  refine condF rfl (fun hc => ?_) (fun hc => ?_)
  ·have hc21 := hc; clear hc
   refine regBK followsM 6 hS rfl rfl (by kernel_rfl) (by kernel_rfl) (by kernel_rfl) (fun d hd => by cases hd) ?_
   refine bl_cons 1 rfl (isV _) (stab_isV _) (rgV (li := [(5, _)]) rfl (w_free rfl) ⟨g_fr (by kernel_rfl) rfl, trivial⟩ (fun w hw => rn_loadA (vs := [_, _, _]) Try.isAgg96 Try.sizeOf96 rfl (CellsAt.agree (below_agree hw 0) (Nat.zero_le _) (CellsAt.own (j := 0) (m := 3) (hS.at_ 0 rfl) rfl))) (at_top rfl)) ?_
   refine bl_cons 2 rfl (isV _) (stab_isV _) (rgV (li := [(0, _)]) rfl (w_free rfl) ⟨g_fr (by kernel_rfl) rfl, trivial⟩ (fun w hw => rn_move rfl) (at_top rfl)) ?_
   refine bl_cons 3 rfl (isV _) (stab_isV _) (rgV (li := [(6, _)]) rfl (w_free rfl) ⟨g_fr (by kernel_rfl) rfl, trivial⟩ (fun w hw => rn_move rfl) (at_top rfl)) ?_
   refine bl_cons 4 rfl (isV _) (stab_isV _) (rgV (li := [(23, _), (24, _)]) rfl (w_free rfl) ⟨g_dep 1 (by kernel_rfl) (at_dep rfl rfl rfl), g_dep 2 (by kernel_rfl) (at_dep rfl rfl rfl), trivial⟩ (fun w hw => rn_indexA  Try.underlying42 Try.sizeOf96 rfl rfl rfl (by omega) rfl) (at_top rfl)) ?_
   refine bl_cons 5 rfl (isV _) (stab_isV _) (rgV (li := [(25, _)]) rfl (w_free rfl) ⟨g_dep 3 (by kernel_rfl) (at_dep rfl rfl rfl), trivial⟩ (fun w hw => rn_loadA (vs := [_, _, _]) Try.isAgg96 Try.sizeOf96 rfl (CellsAt.agree (below_agree hw 0) (Nat.zero_le _) (by assumption))) (at_top rfl)) ?_
   refine bl_cons 6 rfl (isV (join (ofTo row c k) x).val) (stab_isV _) (rg_call [isV _, isV _] rfl goes_96 (w_free rfl) ⟨p_tmp (g_dep 0 (by kernel_rfl) (at_dep rfl rfl rfl)), p_tmp (g_dep 4 (by kernel_rfl) (at_dep rfl rfl rfl)), trivial⟩ (fun vs w' hb hh => by have e := holds_isV (us := [_, _]) hh; subst e; exact (jn_any (ofTo row c k) x (ofTo_ok hc hok k) (hok k x hx) _).mono fun e w2 h => ⟨_, h.1, rfl, h.2⟩) (at_top rfl)) ?_
   refine bl_nil ?_
   intro W6 hbR hS'
   clear hS; have hS := hS'; clear hS'
   iterate 6 refine fin_v ?_
   refine fin_nil ?_
   refine op_storeA (i := 0) (vs := [_, _, _]) (cs' := [_, _, _]) (O' := [_, _, _]) hS Try.sizeOf96 rfl rfl rfl rfl rfl rfl rfl ?_
   clear hS; intro W7 hS
   refine endF ?_
   refine XF.blkN ?_
   refine XF.thenN ?_
   refine regF ?_
   refine op_move rfl rfl ?_
   refine op_add rfl rfl (IntWalk.i64_in _ (by omega)) rfl ?_
   refine op_assign rfl rfl ?_
   refine endF ?_
   exact XF.round (len - (k + 1)) [(0, _), (3, _), (4, _), (5, _), (6, _)] (by omega) ⟨rfl, rfl, rfl, rfl, rfl, trivial⟩ ⟨k + 1, by omega, rfl, rfl, by rw [ofTo_yes hc21 hx]; exact hS.clear⟩
  ·have hc21 := hc; clear hc
   refine skipF ?_
   refine XF.blkN ?_
   refine XF.thenN ?_
   refine regF ?_
   refine op_move rfl rfl ?_
   refine op_add rfl rfl (IntWalk.i64_in _ (by omega)) rfl ?_
   refine op_assign rfl rfl ?_
   refine endF ?_
   exact XF.round (len - (k + 1)) [(0, _), (3, _), (4, _), (5, _), (6, _)] (by omega) ⟨rfl, rfl, rfl, rfl, rfl, trivial⟩ ⟨k + 1, by omega, rfl, rfl, by rw [ofTo_no hc21]; exact hS.clear⟩
 ·have hc15 := of_decide_eq_false hc; clear hc
  refine exitF ?_
  iterate 2 refine XF.thenX ?_
  refine XF.blkX ?_
  refine XF.thenN ?_
  refine seqF (regF ?_)
  refine op_loadA (vs := [_, _, _]) Try.isAgg96 Try.sizeOf96 rfl (CellsAt.own (j := 0) (m := 3) (hS.at_ 0 rfl) rfl) rfl ?_
  refine op_storeA (i := 1) (vs := [_, _, _]) (cs' := [_, _, _]) (O' := [_, _, _]) hS Try.sizeOf96 rfl rfl rfl rfl rfl rfl rfl ?_
  clear hS; intro W8 hS
  refine endF (XF.thenN ?_)
  refine retF ?_
  refine XF.res (resC1 (vs := [_, _, _]) Try.results68 Try.isAgg96 Try.sizeOf96 rfl (CellsAt.own (j := 0) (m := 3) (hS.at_ 1 rfl) rfl)) ?_
  have e1 : row.length = k := by omega
  exact ⟨by unfold ofC; rw [e1], hS.below⟩
end Go.Proofs.Ytpkcaabbcoiiiaa
namespace Go.Proofs.Ytpkcaabbcoiiiaa
open Go Go.RowKit
section
variable {w W : World} {k : Nat} {n : Int} {f g : WF} {x y : PF}
theorem ext_f2R (hx : PIs w 2 n f x) (hy : PIs w 2 n g y) (hf : f.z = false) (hg : g.z = false) (p0 : 0 ≤ f.c) (p1 : f.c ≤ n) (q0 : 0 ≤ g.c) (q1 : g.c ≤ n) : PNew k W 2 n (costF (min (f.c + g.c) n)) (extP 2 n x y) := by
 obtain ⟨rfl, _, _⟩ := hx.k2 hf
 obtain ⟨rfl, _, _⟩ := hy.k2 hg
 rw [ext_2]
 exact new_cost (.cost _ rfl (by omega) (by omega))
theorem ext_f4C {m : Nat} {a : Option Addr} {cap : Nat} (hx : PIs w 4 m f x) (hy : PIs w 4 m g y) (hf : f.z = false) (hg : g.z = false) (hv : CRow W a (thenC f.cells g.cells)) (hl : ∀ ad, a = some ad → k ≤ ad.block) : PNew k W 4 m (cellsF a cap (thenC f.cells g.cells)) (extP 4 m x y) := by
 obtain ⟨hx', h0⟩ := hx.k4 hf
 obtain ⟨hy', h1⟩ := hy.k4 hg
 have hv2 := val_then h0 h1
 rw [hx', hy', ext_4]
 exact new_cells (.cells m _ rfl rfl hv2) hv2.bits (by have := hv2.le; have := hv2.len; unfold maxLen; omega) hv hl
end
theorem thenR_plain (t n : Int) (sa : Option Addr) (sc : Nat) (f g : WF) (x y : PF) (w : World) (hp : plainB t n 0 = true) (hx : PIs w t n f x) (hy : PIs w t n g y) :
  Calls Try.prog 37 #[.agg #[.int .i64 t, .int .i64 n, .slice sa 0 sc], f.val, g.val] w (WRet (.one t n) (.one (extP t n x y)) w) := by
 refine enterF (args := [.agg #[.int .i64 t, .int .i64 n, .slice sa 0 sc], f.val, g.val]) Try.func37 rfl Try.ntmps37 rfl ?_
 have hS := St.start w
 refine seqF (regF ?_)
 refine op_box (cs := [_, _, _]) hS rfl rfl rfl ?_
 clear hS; intro B1 W1 hS
 refine op_box (cs := [_, _, _, _, _, _]) hS rfl rfl rfl ?_
 clear hS; intro B2 W2 hS
 refine op_box (cs := [_, _, _, _, _, _]) hS rfl rfl rfl ?_
 clear hS; intro B3 W3 hS
 refine op_alloc (cs := [_, _, _, _, _, _]) hS Try.zeroValue45 rfl rfl ?_
 clear hS; intro B4 W4 hS
 refine endF (XF.thenN ?_)
 refine seqF ?_
 refine seqF (regF ?_)
 refine op_field (o' := 0) fa_45_0 rfl rfl rfl ?_
 refine op_load Try.isAgg4 rfl (cell_own (hS.at_ 2 rfl) rfl) rfl ?_
 refine op_move rfl rfl ?_
 refine op_cases (d := 11) rfl (fun hc => ?_) (fun hc => ?_)
 ·have hg11 := hc; clear hc
  have hz := hg11
  iterate 2 refine op_notF (d := 11) rfl rfl rfl rfl ?_
  refine op_pickT rfl rfl rfl ?_
  refine endF (XF.thenN ?_)
  refine condT rfl ?_
  refine seqF (regF ?_)
  refine op_build (us := [(0, .bool _)]) rfl (bld_45_0 _) rfl ?_
  refine op_storeA (i := 0) (vs := [_, _, _, _, _, _]) (cs' := [_, _, _, _, _, _]) (O' := [_, _, _, _]) hS Try.sizeOf45 rfl rfl rfl rfl rfl rfl rfl ?_
  clear hS; intro W5 hS
  refine endF (XF.thenN ?_)
  refine retF ?_
  refine XF.thenR ?_
  refine XF.res (resC1 (vs := [_, _, _, _, _, _]) Try.results37 Try.isAgg45 Try.sizeOf45 rfl (CellsAt.own (j := 0) (m := 6) (hS.at_ 0 rfl) rfl)) ?_
  exact ext_zL hx hz hS.below
 ·have hg11 := hc; clear hc
  have hf := hg11
  refine op_wantedF (d := 11) rfl rfl ?_
  refine op_field (o' := 0) fa_45_0 rfl rfl rfl ?_
  refine op_wantedF (d := 11) rfl rfl ?_
  refine op_load Try.isAgg4 rfl (cell_own (hS.at_ 1 rfl) rfl) rfl ?_
  refine op_pickF rfl rfl rfl ?_
  refine endF (XF.thenN ?_)
  refine condF rfl (fun hc => ?_) (fun hc => ?_)
  ·have hc14 := hc; clear hc
   refine seqF (regF ?_)
   refine op_build (us := [(0, .bool _)]) rfl (bld_45_0 _) rfl ?_
   refine op_storeA (i := 0) (vs := [_, _, _, _, _, _]) (cs' := [_, _, _, _, _, _]) (O' := [_, _, _, _]) hS Try.sizeOf45 rfl rfl rfl rfl rfl rfl rfl ?_
   clear hS; intro W6 hS
   refine endF (XF.thenN ?_)
   refine retF ?_
   refine XF.thenR ?_
   refine XF.res (resC1 (vs := [_, _, _, _, _, _]) Try.results37 Try.isAgg45 Try.sizeOf45 rfl (CellsAt.own (j := 0) (m := 6) (hS.at_ 0 rfl) rfl)) ?_
   exact ext_zR hy hc14 hS.below
  ·have hc14 := hc; clear hc
   have hg := hc14
   refine skipF ?_
   refine XF.thenN ?_
   refine seqF (regF ?_)
   refine op_build (us := []) rfl (bld_45) rfl ?_
   refine op_alloc (cs := [_, _, _, _, _, _]) hS Try.zeroValue45 rfl rfl ?_
   clear hS; intro B7 W7 hS
   refine op_storeA (i := 0) (vs := [_, _, _, _, _, _]) (cs' := [_, _, _, _, _, _]) (O' := [_, _, _, _, _]) hS Try.sizeOf45 rfl rfl rfl rfl rfl rfl rfl ?_
   clear hS; intro W8 hS
   refine endF (XF.thenN ?_)
   refine seqF ?_
   refine seqF (regF ?_)
   refine op_field (o' := 0) fa_25_0 rfl rfl rfl ?_
   refine op_load Try.isAgg22 rfl (cell_own (hS.at_ 4 rfl) rfl) rfl ?_
   refine endF (XF.thenN ?_)
   refine blockF ?_
   refine seqF (regF ?_)
   refine op_eql rfl rfl rfl ?_
   refine op_assign rfl rfl ?_
   refine endF (XF.thenN ?_)
   refine condF rfl (fun hc => ?_) (fun hc => ?_)
   ·have hc19 := of_decide_eq_true hc; clear hc
    have e2 : t = 2 := hc19
    subst e2
    obtain ⟨_, p0, p1⟩ := hx.k2 hf
    obtain ⟨_, q0, q1⟩ := hy.k2 hg
    obtain ⟨d0, d1, _⟩ := plainB_dim hp
    refine regF ?_
    refine op_field (o' := 1) fa_45_1 rfl rfl rfl ?_
    refine op_load Try.isAgg3 rfl (cell_own (hS.at_ 3 rfl) rfl) rfl ?_
    refine op_field (o' := 1) fa_45_1 rfl rfl rfl ?_
    refine op_load Try.isAgg3 rfl (cell_own (hS.at_ 2 rfl) rfl) rfl ?_
    refine op_add rfl rfl (IntWalk.i64_in _ (by omega)) rfl ?_
    refine op_field (o' := 1) fa_25_1 rfl rfl rfl ?_
    refine op_load Try.isAgg3 rfl (cell_own (hS.at_ 4 rfl) rfl) rfl ?_
    refine op_min rfl rfl rfl ?_
    refine op_field (o' := 1) fa_45_1 rfl rfl rfl ?_
    refine op_store (i := 0) (cs' := [_, _, _, _, _, _]) (O' := [_, _, _, _, _]) hS Try.sizeOf3 rfl rfl rfl rfl rfl rfl rfl ?_
    clear hS; intro W9 hS
    refine endF ?_
    refine XF.blkN ?_
    refine XF.thenN ?_
    refine seqF (regF ?_)
    refine op_loadA (vs := [_, _, _, _, _, _]) Try.isAgg45 Try.sizeOf45 rfl (CellsAt.own (j := 0) (m := 6) (hS.at_ 0 rfl) rfl) rfl ?_
    refine op_storeA (i := 1) (vs := [_, _, _, _, _, _]) (cs' := [_, _, _, _, _, _]) (O' := [_, _, _, _, _]) hS Try.sizeOf45 rfl rfl rfl rfl rfl rfl rfl ?_
    clear hS; intro W10 hS
    refine endF (XF.thenN ?_)
    refine retF ?_
    refine XF.res (resC1 (vs := [_, _, _, _, _, _]) Try.results37 Try.isAgg45 Try.sizeOf45 rfl (CellsAt.own (j := 0) (m := 6) (hS.at_ 1 rfl) rfl)) ?_
    exact wret_one (ext_f2R hx hy hf hg p0 p1 q0 q1) hS.below
   ·have hc19 := of_decide_eq_false hc; clear hc
    refine seqF (regF ?_)
    refine op_eql rfl rfl rfl ?_
    refine op_assign rfl rfl ?_
    refine endF (XF.thenN ?_)
    refine condF rfl (fun hc => ?_) (fun hc => ?_)
    ·have hc30 := of_decide_eq_true hc; clear hc
     have e3 : t = 3 := hc30
     subst e3
     obtain ⟨m, rfl, hm⟩ := dim3 hp (.inl rfl)
     refine regF ?_
     refine op_field (o' := 1) fa_25_1 rfl rfl rfl ?_
     refine op_load Try.isAgg3 rfl (cell_own (hS.at_ 4 rfl) rfl) rfl ?_
     refine op_field (o' := 2) fa_45_2 rfl rfl rfl ?_
     refine op_loadA (vs := [_, _]) Try.isAgg41 Try.sizeOf41 rfl (CellsAt.own (j := 2) (m := 2) (hS.at_ 3 rfl) rfl) rfl ?_
     refine op_field (o' := 2) fa_45_2 rfl rfl rfl ?_
     refine op_loadA (vs := [_, _]) Try.isAgg41 Try.sizeOf41 rfl (CellsAt.own (j := 2) (m := 2) (hS.at_ 2 rfl) rfl) rfl ?_
     have hsz := hS.below.size
     refine op_call (vs := [_, _, _]) hS goes_67 rfl (extR_is _ _ _ _ _ _ _ _ _ _ (hx.at_.fat (by have := hx.rows64 (l := 0); omega) |>.below hS.below) (hy.at_.fat (by have := hy.rows64 (l := 0); omega) |>.below hS.below) _ rfl _ rfl _ rfl _ _ hx.at_.rl hy.at_.rl) rfl ?_
     rintro e W11 ⟨a1, c1, rfl, hv, hl, hb⟩
     refine ⟨_, rfl, hb, fun hS' => ?_⟩
     clear hS; have hS := hS'; clear hS'
     refine op_move rfl rfl ?_
     iterate 2 refine op_extract rfl rfl rfl ?_
     refine op_field (o' := 2) fa_45_2 rfl rfl rfl ?_
     refine op_storeA (i := 0) (vs := [_, _]) (cs' := [_, _, _, _, _, _]) (O' := [_, _, _, _, _]) hS Try.sizeOf41 rfl rfl rfl rfl rfl rfl rfl ?_
     clear hS; intro W12 hS
     refine endF ?_
     refine XF.blkN ?_
     refine XF.thenN ?_
     refine seqF (regF ?_)
     refine op_loadA (vs := [_, _, _, _, _, _]) Try.isAgg45 Try.sizeOf45 rfl (CellsAt.own (j := 0) (m := 6) (hS.at_ 0 rfl) rfl) rfl ?_
     refine op_storeA (i := 1) (vs := [_, _, _, _, _, _]) (cs' := [_, _, _, _, _, _]) (O' := [_, _, _, _, _]) hS Try.sizeOf45 rfl rfl rfl rfl rfl rfl rfl ?_
     clear hS; intro W13 hS
     refine endF (XF.thenN ?_)
     refine retF ?_
     refine XF.res (resC1 (vs := [_, _, _, _, _, _]) Try.results37 Try.isAgg45 Try.sizeOf45 rfl (CellsAt.own (j := 0) (m := 6) (hS.at_ 1 rfl) rfl)) ?_
     exact wret_one (ext_f3 hx hy hf hg (hv.agree (fun ad e => (hl ad e).1) (hS.since 0 rfl)) (fun ad e => Nat.le_trans hsz (hl ad e).1)) hS.below
    ·have hc30 := of_decide_eq_false hc; clear hc
     refine seqF (regF ?_)
     refine op_eql rfl rfl rfl ?_
     refine op_assign rfl rfl ?_
     refine endF (XF.thenN ?_)
     refine condF rfl (fun hc => ?_) (fun hc => ?_)
     ·have hc43 := of_decide_eq_true hc; clear hc
      have e4 : t = 4 := hc43
      subst e4
      obtain ⟨m, rfl, hm⟩ := dim3 hp (.inr rfl)
      obtain ⟨hpx, vx⟩ := hx.k4 hf
      obtain ⟨hpy, vy⟩ := hy.k4 hg
      refine seqF (regF ?_)
      refine op_assign rfl rfl ?_
      refine endF (XF.thenN ?_)
      refine blockF ?_
      refine loopF (fun q l W => ∃ (k : Nat) (v : Value), k ≤ m ∧ q = m - k ∧ l = [(3, .pointer (some ⟨B1, 0, none⟩)), (4, .pointer (some ⟨B2, 0, none⟩)), (5, .pointer (some ⟨B3, 0, none⟩)), (6, .pointer (some ⟨B4, 0, none⟩)), (7, .pointer (some ⟨B7, 0, none⟩)), (8, .int .i64 (k : Int))] ∧ St w [(B7, [.bool false, .int .i64 0, .int .u64 0, .slice none 0 0, v, .slice none 0 0], 45), (B4, [.bool false, .int .i64 0, .int .u64 0, .slice none 0 0, .slice none 0 0, .slice none 0 0], 45), (B3, [.bool g.z, .int .i64 g.c, .int .u64 (g.g : Int), .slice g.ra g.rl g.rc, .slice g.ca g.cl g.cc, .slice g.pa g.pl g.pc], 45), (B2, [.bool f.z, .int .i64 f.c, .int .u64 (f.g : Int), .slice f.ra f.rl f.rc, .slice f.ca f.cl f.cc, .slice f.pa f.pl f.pc], 45), (B1, [.int .i64 4, .int .i64 (m : Int), .slice sa 0 sc], 25)] [⟨v, k, flat ((thenC f.cells g.cells).take k), 96, 3⟩] [] W) (m - 0) ([(3, _), (4, _), (5, _), (6, _), (7, _), (8, _)]) ⟨rfl, rfl, rfl, rfl, rfl, rfl, trivial⟩ (⟨0, .slice none 0 0, Nat.zero_le _, rfl, rfl, hS.clear.newG _ _⟩) ?_
      clear hS
      rintro q l W ⟨k, v, hkm, rfl, rfl, hS⟩
      refine seqF ?_
      refine seqF (regF ?_)
      refine op_move rfl rfl ?_
      refine op_field (o' := 1) fa_25_1 rfl rfl rfl ?_
      refine op_load Try.isAgg3 rfl (cell_own (hS.at_ 4 rfl) rfl) rfl ?_
      refine op_lss rfl rfl rfl ?_
      refine endF (XF.thenN ?_)
      refine condF rfl (fun hc => ?_) (fun hc => ?_)
      ·have hc48 := of_decide_eq_true hc; clear hc
       have hk : k < m := by omega
       have hlx := vx.len
       have hly := vy.len
       obtain ⟨ba, offa, y1, eca, hy1, hba, a0, a1, a2⟩ := (hy.at_.cells.below hS.below).at_ (k := k) (by omega)
       have k1 : CellsAt W ba (offa + k * 3) [.int .u64 (y1.f : Int), .int .i64 y1.k, .int .i64 y1.v] := ⟨a0, a1, a2, trivial⟩
       have h1 : (thenC f.cells g.cells)[k]? = some (ofC f.cells y1) := by unfold thenC; rw [List.getElem?_map, hy1]; rfl
       have hcl := hx.at_.cl
       have hclg := hy.at_.cl
       simp only [eca] at hS
       refine skipF ?_
       refine XF.thenN ?_
       refine seqF ?_
       refine blockF ?_
       refine regBP (p := 11) (k := 13) (gi := 0) (m := 1) followsM hS rfl rfl (by kernel_rfl) (by kernel_rfl) (by kernel_rfl) (fun d hd => by cases hd) rfl rfl Try.underlying42 inf_96 rfl rfl (by show 0 < 3; decide) rfl rfl rfl (by dsimp only; simp only [maxLen]; omega) (by dsimp only; show _ * 24 ≤ _; omega) ?_
       refine blp_v 1 rfl rfl (by kernel_rfl) (rgV (li := [(7, _)]) rfl (w_free rfl) ⟨g_fr (by kernel_rfl) rfl, trivial⟩ (fun w hw => rn_field (o' := 4) fa_45_3 rfl rfl) (at_top rfl)) ?_
       refine blp_v 2 rfl rfl (by kernel_rfl) (rgV (li := [(51, _)]) rfl (w_free rfl) ⟨g_dep 0 (by kernel_rfl) (at_dep rfl rfl rfl), trivial⟩ (fun w hw => rn_load Try.isAgg42 rfl ((below_agree hw 0).cell (Nat.zero_le _) (cell_own (hS.at_ 0 rfl) rfl))) (at_top rfl)) ?_
       refine blp_v 3 rfl rfl (by kernel_rfl) (rgV (li := [(4, _)]) rfl (w_free rfl) ⟨g_fr (by kernel_rfl) rfl, trivial⟩ (fun w hw => rn_field (o' := 4) fa_45_3 rfl rfl) (at_top rfl)) ?_
       refine blp_v 4 rfl rfl (by kernel_rfl) (rgV (li := [(53, _)]) rfl (w_free rfl) ⟨g_dep 2 (by kernel_rfl) (at_dep rfl rfl rfl), trivial⟩ (fun w hw => rn_load Try.isAgg42 rfl ((below_agree hw 0).cell (Nat.zero_le _) (cell_own (hS.at_ 3 rfl) rfl))) (at_top rfl)) ?_
       refine blp_v 5 rfl rfl (by kernel_rfl) (rgV (li := [(5, _)]) rfl (w_free rfl) ⟨g_fr (by kernel_rfl) rfl, trivial⟩ (fun w hw => rn_field (o' := 4) fa_45_3 rfl rfl) (at_top rfl)) ?_
       refine blp_v 6 rfl rfl (by kernel_rfl) (rgV (li := [(55, _)]) rfl (w_free rfl) ⟨g_dep 4 (by kernel_rfl) (at_dep rfl rfl rfl), trivial⟩ (fun w hw => rn_load Try.isAgg42 rfl ((below_agree hw 0).cell (Nat.zero_le _) (cell_own (hS.at_ 2 rfl) rfl))) (at_top rfl)) ?_
       refine blp_v 7 rfl rfl (by kernel_rfl) (rgV (li := [(8, _)]) rfl (w_free rfl) ⟨g_fr (by kernel_rfl) rfl, trivial⟩ (fun w hw => rn_move rfl) (at_top rfl)) ?_
       refine blp_v 8 rfl rfl (by kernel_rfl) (rgV (li := [(56, _), (57, _)]) rfl (w_free rfl) ⟨g_dep 5 (by kernel_rfl) (at_dep rfl rfl rfl), g_dep 6 (by kernel_rfl) (at_dep rfl rfl rfl), trivial⟩ (fun w hw => rn_indexA  Try.underlying42 Try.sizeOf96 rfl rfl rfl (by omega) rfl) (at_top rfl)) ?_
       refine blp_v 9 rfl rfl (by kernel_rfl) (rgV (li := [(58, _)]) rfl (w_free rfl) ⟨g_dep 7 (by kernel_rfl) (at_dep rfl rfl rfl), trivial⟩ (fun w hw => rn_loadA (vs := [_, _, _]) Try.isAgg96 Try.sizeOf96 rfl (CellsAt.agree (below_agree hw 0) (Nat.zero_le _) (by assumption))) (at_top rfl)) ?_
       refine blp_v 10 rfl rfl (by kernel_rfl) (rg_call [isV _, isV _] rfl goes_68 (w_free rfl) ⟨p_tmp (g_dep 3 (by kernel_rfl) (at_dep rfl rfl rfl)), p_tmp (g_dep 8 (by kernel_rfl) (at_dep rfl rfl rfl)), trivial⟩ (fun vs w' hb hh => by have e := holds_isV (us := [_, _]) hh; subst e; exact (behindR_is f.ca f.cc f.cl f.cells y1 _ hx.at_.cl (by omega) ((hx.at_.cells.below hS.below).below hb) vx.oks (vy.oks k y1 hy1)).mono fun e w2 h => ⟨_, h.1, rfl, h.2⟩) (at_top rfl)) ?_
       refine blp_q 11 rfl rfl (by kernel_rfl) (isRow W.heap.size 1 96 _) (stab_isRow) (rg_rowV (us := [.agg (List.toArray [_, _, _])]) rfl (w_free rfl) Try.underlying42 Try.sizeOf96 Try.zeroValue96 rfl rfl ⟨p_tmp (g_dep 9 (by kernel_rfl) (at_dep rfl rfl rfl)), trivial⟩ (bs_42_1 _ _ _) (at_top rfl)) ?_
       refine blp_app 12 rfl rfl ?_
       refine blp_late 13 rfl rfl (rgV (li := [(7, _)]) rfl (w_free rfl) ⟨g_fr (by kernel_rfl) rfl, trivial⟩ (fun w hw => rn_field (o' := 4) fa_45_3 rfl rfl) (at_top rfl)) (lgV (li := [(7, _)]) rfl (w_free rfl) ⟨g_fr (by kernel_rfl) rfl, trivial⟩ (fun w => rn_field (o' := 4) fa_45_3 rfl rfl) (at_top rfl) rfl) ?_
       refine blp_nil ⟨_, _, g_dep 1 (by kernel_rfl) (at_dep rfl rfl rfl), g_dep 10 (by kernel_rfl) (at_dep rfl rfl rfl), rowOf_isRow rfl rfl, ?_⟩
       intro A14 v14 news14 W14 hbR hqA14 hS'
       clear hS; have hS := hS'; clear hS'
       cases hqA14
       iterate 10 refine fin_v ?_
       refine fin_p ?_; intro _ _
       iterate 2 refine fin_v ?_
       obtain ⟨g9, c9, e9, _, _⟩ := (hS.row 0 rfl).form (by show 0 < k + 1; omega)
       dsimp only at e9
       subst e9
       refine fin_nil ?_
       refine op_store (i := 0) (cs' := [_, _, _, _, _, _]) (O' := [_, _, _, _, _]) hS Try.sizeOf42 rfl rfl rfl rfl rfl rfl rfl ?_
       clear hS; intro W15 hS
       refine endF ?_
       refine XF.blkN ?_
       refine XF.thenN ?_
       refine regF ?_
       refine op_move rfl rfl ?_
       refine op_add rfl rfl (IntWalk.i64_in _ (by omega)) rfl ?_
       refine op_assign rfl rfl ?_
       refine endF ?_
       simp only [← eca] at hS
       exact XF.round (m - (k + 1)) [(3, _), (4, _), (5, _), (6, _), (7, _), (8, _)] (by omega) ⟨rfl, rfl, rfl, rfl, rfl, rfl, trivial⟩ ⟨k + 1, _, by omega, rfl, rfl, by rw [flat_step h1]; exact hS.clear⟩
      ·have hc48 := of_decide_eq_false hc; clear hc
       refine exitF ?_
       iterate 2 refine XF.thenX ?_
       refine XF.blkX ?_
       refine XF.blkN ?_
       refine XF.thenN ?_
       refine seqF ?_
       obtain rfl : k = m := by omega
       have hrow := hS.row 0 rfl
       have hln : (thenC f.cells g.cells).length = k := by unfold thenC; rw [List.length_map]; exact vy.len
       have ht0 : (thenC f.cells g.cells).take k = thenC f.cells g.cells := List.take_of_length_le (by rw [hln]; exact Nat.le_refl _)
       simp only [ht0] at hrow
       obtain ⟨hn, a9, c9, rfl, _, _⟩ := crow_of_own hrow
       clear hrow
       refine regF ?_
       refine op_loadA (vs := [_, _, _, _, _, _]) Try.isAgg45 Try.sizeOf45 rfl (CellsAt.own (j := 0) (m := 6) (hS.at_ 0 rfl) rfl) rfl ?_
       refine op_storeA (i := 1) (vs := [_, _, _, _, _, _]) (cs' := [_, _, _, _, _, _]) (O' := [_, _, _, _, _]) hS Try.sizeOf45 rfl rfl rfl rfl rfl rfl rfl ?_
       clear hS; intro W16 hS
       refine endF (XF.thenN ?_)
       refine retF ?_
       refine XF.res (resC1 (vs := [_, _, _, _, _, _]) Try.results37 Try.isAgg45 Try.sizeOf45 rfl (CellsAt.own (j := 0) (m := 6) (hS.at_ 1 rfl) rfl)) ?_
       have hrow := hS.row 0 rfl
       simp only [ht0] at hrow
       obtain ⟨_, a8, c8, e8, hr9, hf9⟩ := crow_of_own hrow
       cases e8
       refine ⟨cellsF a9 c9 (thenC f.cells g.cells), ?_, ext_f4C hx hy hf hg hr9 (fun ad e => (hf9 ad e).1), hS.below⟩
       show _ = Ending.returned (Value.agg #[.bool false, .int .i64 0, .int .u64 ((0 : Nat) : Int), .slice none 0 0, .slice a9 (thenC f.cells g.cells).length c9, .slice none 0 0])
       rw [hln]
       rfl
     ·have hc43 := of_decide_eq_false hc; clear hc
      refine seqF (regF ?_)
      refine op_eql rfl rfl rfl ?_
      refine op_assign rfl rfl ?_
      refine endF (XF.thenN ?_)
      refine condF rfl (fun hc => absurd (of_decide_eq_true hc) (by exact plain_ne5 hp)) (fun hc => ?_)
      have hc := of_decide_eq_false hc
      refine skipF ?_
      refine XF.blkN ?_
      refine XF.thenN ?_
      refine seqF (regF ?_)
      refine op_loadA (vs := [_, _, _, _, _, _]) Try.isAgg45 Try.sizeOf45 rfl (CellsAt.own (j := 0) (m := 6) (hS.at_ 0 rfl) rfl) rfl ?_
      refine op_storeA (i := 1) (vs := [_, _, _, _, _, _]) (cs' := [_, _, _, _, _, _]) (O' := [_, _, _, _, _]) hS Try.sizeOf45 rfl rfl rfl rfl rfl rfl rfl ?_
      clear hS; intro W17 hS
      refine endF (XF.thenN ?_)
      refine retF ?_
      refine XF.res (resC1 (vs := [_, _, _, _, _, _]) Try.results37 Try.isAgg45 Try.sizeOf45 rfl (CellsAt.own (j := 0) (m := 6) (hS.at_ 1 rfl) rfl)) ?_
      have e1 : t = 1 := by
       have := (plainB_tag hp).2
       omega
      subst e1
      exact wret_one (ext_f1 hx hy hf hg) hS.below
theorem thenR_pair (t n u m : Int) (a1 a2 : Option Addr) (c1 c2 b off sc : Nat) (w : World) (hs1 : S3 w b off ⟨t, n, a1, 0, c1⟩) (hs2 : S3 w b (off + 3) ⟨u, m, a2, 0, c2⟩) (hp1 : plainB t n 0 = true) (hp2 : plainB u m 0 = true)(fra fca : Option Addr) (frc fcc fpc fb fo : Nat) (f1 f2 : WF) (x1 x2 : PF) (hf6 : W6 w fb fo f1) (hf7 : W6 w fb (fo + 6) f2) (hx1 : PIs w t n f1 x1) (hx2 : PIs w u m f2 x2)(gra gca : Option Addr) (grc gcc gpc gb go : Nat) (g1 g2 : WF) (y1 y2 : PF) (hg6 : W6 w gb go g1) (hg7 : W6 w gb (go + 6) g2) (hy1 : PIs w t n g1 y1) (hy2 : PIs w u m g2 y2) :
  Calls Try.prog 37 #[.agg #[.int .i64 5, .int .i64 0, .slice (some ⟨b, off, none⟩) 2 sc], .agg #[.bool false, .int .i64 0, .int .u64 0, .slice fra 0 frc, .slice fca 0 fcc, .slice (some ⟨fb, fo, none⟩) 2 fpc], .agg #[.bool false, .int .i64 0, .int .u64 0, .slice gra 0 grc, .slice gca 0 gcc, .slice (some ⟨gb, go, none⟩) 2 gpc]] w (WRet (.two t n u m) (.two (extP t n x1 y1) (extP u m x2 y2)) w) := by
 refine enterF (args := [.agg #[.int .i64 5, .int .i64 0, .slice (some ⟨b, off, none⟩) 2 sc], .agg #[.bool false, .int .i64 0, .int .u64 0, .slice fra 0 frc, .slice fca 0 fcc, .slice (some ⟨fb, fo, none⟩) 2 fpc], .agg #[.bool false, .int .i64 0, .int .u64 0, .slice gra 0 grc, .slice gca 0 gcc, .slice (some ⟨gb, go, none⟩) 2 gpc]]) Try.func37 rfl Try.ntmps37 rfl ?_
 have hS := St.start w
 refine seqF (regF ?_)
 refine op_box (cs := [_, _, _]) hS rfl rfl rfl ?_
 clear hS; intro B1 W1 hS
 refine op_box (cs := [_, _, _, _, _, _]) hS rfl rfl rfl ?_
 clear hS; intro B2 W2 hS
 refine op_box (cs := [_, _, _, _, _, _]) hS rfl rfl rfl ?_
 clear hS; intro B3 W3 hS
 refine op_alloc (cs := [_, _, _, _, _, _]) hS Try.zeroValue45 rfl rfl ?_
 clear hS; intro B4 W4 hS
 refine endF (XF.thenN ?_)
 refine seqF ?_
 refine seqF (regF ?_)
 refine op_field (o' := 0) fa_45_0 rfl rfl rfl ?_
 refine op_load Try.isAgg4 rfl (cell_own (hS.at_ 2 rfl) rfl) rfl ?_
 refine op_move rfl rfl ?_
 refine op_cases (d := 11) rfl (fun hc => absurd hc (by decide)) (fun hc => ?_)
 skip
 refine op_wantedF (d := 11) rfl rfl ?_
 refine op_field (o' := 0) fa_45_0 rfl rfl rfl ?_
 refine op_wantedF (d := 11) rfl rfl ?_
 refine op_load Try.isAgg4 rfl (cell_own (hS.at_ 1 rfl) rfl) rfl ?_
 refine op_pickF rfl rfl rfl ?_
 refine endF (XF.thenN ?_)
 refine condF rfl (fun hc => absurd hc (by decide)) (fun hc => ?_)
 skip
 refine skipF ?_
 refine XF.thenN ?_
 refine seqF (regF ?_)
 refine op_build (us := []) rfl (bld_45) rfl ?_
 refine op_alloc (cs := [_, _, _, _, _, _]) hS Try.zeroValue45 rfl rfl ?_
 clear hS; intro B5 W5 hS
 refine op_storeA (i := 0) (vs := [_, _, _, _, _, _]) (cs' := [_, _, _, _, _, _]) (O' := [_, _, _, _, _]) hS Try.sizeOf45 rfl rfl rfl rfl rfl rfl rfl ?_
 clear hS; intro W6 hS
 refine endF (XF.thenN ?_)
 refine seqF ?_
 refine seqF (regF ?_)
 refine op_field (o' := 0) fa_25_0 rfl rfl rfl ?_
 refine op_load Try.isAgg22 rfl (cell_own (hS.at_ 4 rfl) rfl) rfl ?_
 refine endF (XF.thenN ?_)
 refine blockF ?_
 refine seqF (regF ?_)
 refine op_eql rfl rfl rfl ?_
 refine op_assign rfl rfl ?_
 refine endF (XF.thenN ?_)
 refine condF rfl (fun hc => absurd (of_decide_eq_true hc) (by omega)) (fun hc => ?_)
 have hc := of_decide_eq_false hc
 refine seqF (regF ?_)
 refine op_eql rfl rfl rfl ?_
 refine op_assign rfl rfl ?_
 refine endF (XF.thenN ?_)
 refine condF rfl (fun hc => absurd (of_decide_eq_true hc) (by omega)) (fun hc => ?_)
 have hc := of_decide_eq_false hc
 refine seqF (regF ?_)
 refine op_eql rfl rfl rfl ?_
 refine op_assign rfl rfl ?_
 refine endF (XF.thenN ?_)
 refine condF rfl (fun hc => absurd (of_decide_eq_true hc) (by omega)) (fun hc => ?_)
 have hc := of_decide_eq_false hc
 refine seqF (regF ?_)
 refine op_eql rfl rfl rfl ?_
 refine op_assign rfl rfl ?_
 refine endF (XF.thenN ?_)
 refine condF rfl (fun hc => ?_) (fun hc => absurd (of_decide_eq_false hc) (by omega))
 have hc := of_decide_eq_true hc
 have hsz := hS.below.size
 have k1 := CellsAt.agree hS.agree (Nat.zero_le _) hs1.cells
 have k2 := CellsAt.agree hS.agree (Nat.zero_le _) hs2.cells
 have kf1 := CellsAt.agree hS.agree (Nat.zero_le _) hf6.cells
 have kf2 := CellsAt.agree hS.agree (Nat.zero_le _) hf7.cells
 have kg1 := CellsAt.agree hS.agree (Nat.zero_le _) hg6.cells
 have kg2 := CellsAt.agree hS.agree (Nat.zero_le _) hg7.cells
 refine regBK followsM 28 hS rfl rfl (by kernel_rfl) (by kernel_rfl) (by kernel_rfl) (fun d hd => by cases hd) ?_
 refine bl_cons 1 rfl (isV _) (stab_isV _) (rgV (li := [(3, _)]) rfl (w_free rfl) ⟨g_fr (by kernel_rfl) rfl, trivial⟩ (fun w hw => rn_field (o' := 2) fa_25_2 rfl rfl) (at_top rfl)) ?_
 refine bl_cons 2 rfl (isV _) (stab_isV _) (rgV (li := [(66, _)]) rfl (w_free rfl) ⟨g_dep 0 (by kernel_rfl) (at_dep rfl rfl rfl), trivial⟩ (fun w hw => rn_load Try.isAgg23 rfl ((below_agree hw 0).cell (Nat.zero_le _) (cell_own (hS.at_ 4 rfl) rfl))) (at_top rfl)) ?_
 refine bl_cons 3 rfl (isV _) (stab_isV _) (rgV (li := [(67, _)]) rfl (w_free rfl) ⟨g_dep 1 (by kernel_rfl) (at_dep rfl rfl rfl), trivial⟩ (fun w hw => rn_indexA (j := 0) Try.underlying23 Try.sizeOf25 rfl rfl rfl (by omega) (Nat.add_zero _)) (at_top rfl)) ?_
 refine bl_cons 4 rfl (isV _) (stab_isV _) (rgV (li := [(68, _)]) rfl (w_free rfl) ⟨g_dep 2 (by kernel_rfl) (at_dep rfl rfl rfl), trivial⟩ (fun w hw => rn_loadA (vs := [_, _, _]) Try.isAgg25 Try.sizeOf25 rfl (CellsAt.agree (below_agree hw 0) (Nat.zero_le _) (by assumption))) (at_top rfl)) ?_
 refine bl_cons 5 rfl (isV _) (stab_isV _) (rgV (li := [(4, _)]) rfl (w_free rfl) ⟨g_fr (by kernel_rfl) rfl, trivial⟩ (fun w hw => rn_field (o' := 5) fa_45_4 rfl rfl) (at_top rfl)) ?_
 refine bl_cons 6 rfl (isV _) (stab_isV _) (rgV (li := [(70, _)]) rfl (w_free rfl) ⟨g_dep 4 (by kernel_rfl) (at_dep rfl rfl rfl), trivial⟩ (fun w hw => rn_load Try.isAgg43 rfl ((below_agree hw 0).cell (Nat.zero_le _) (cell_own (hS.at_ 3 rfl) rfl))) (at_top rfl)) ?_
 refine bl_cons 7 rfl (isV _) (stab_isV _) (rgV (li := [(71, _)]) rfl (w_free rfl) ⟨g_dep 5 (by kernel_rfl) (at_dep rfl rfl rfl), trivial⟩ (fun w hw => rn_indexA (j := 0) Try.underlying43 Try.sizeOf45 rfl rfl rfl (by omega) (Nat.add_zero _)) (at_top rfl)) ?_
 refine bl_cons 8 rfl (isV _) (stab_isV _) (rgV (li := [(72, _)]) rfl (w_free rfl) ⟨g_dep 6 (by kernel_rfl) (at_dep rfl rfl rfl), trivial⟩ (fun w hw => rn_loadA (vs := [_, _, _, _, _, _]) Try.isAgg45 Try.sizeOf45 rfl (CellsAt.agree (below_agree hw 0) (Nat.zero_le _) (by assumption))) (at_top rfl)) ?_
 refine bl_cons 9 rfl (isV _) (stab_isV _) (rgV (li := [(5, _)]) rfl (w_free rfl) ⟨g_fr (by kernel_rfl) rfl, trivial⟩ (fun w hw => rn_field (o' := 5) fa_45_4 rfl rfl) (at_top rfl)) ?_
 refine bl_cons 10 rfl (isV _) (stab_isV _) (rgV (li := [(74, _)]) rfl (w_free rfl) ⟨g_dep 8 (by kernel_rfl) (at_dep rfl rfl rfl), trivial⟩ (fun w hw => rn_load Try.isAgg43 rfl ((below_agree hw 0).cell (Nat.zero_le _) (cell_own (hS.at_ 2 rfl) rfl))) (at_top rfl)) ?_
 refine bl_cons 11 rfl (isV _) (stab_isV _) (rgV (li := [(75, _)]) rfl (w_free rfl) ⟨g_dep 9 (by kernel_rfl) (at_dep rfl rfl rfl), trivial⟩ (fun w hw => rn_indexA (j := 0) Try.underlying43 Try.sizeOf45 rfl rfl rfl (by omega) (Nat.add_zero _)) (at_top rfl)) ?_
 refine bl_cons 12 rfl (isV _) (stab_isV _) (rgV (li := [(76, _)]) rfl (w_free rfl) ⟨g_dep 10 (by kernel_rfl) (at_dep rfl rfl rfl), trivial⟩ (fun w hw => rn_loadA (vs := [_, _, _, _, _, _]) Try.isAgg45 Try.sizeOf45 rfl (CellsAt.agree (below_agree hw 0) (Nat.zero_le _) (by assumption))) (at_top rfl)) ?_
 refine bl_cons 13 rfl (isNew W6.heap.size (.one t n) (.one (extP t n x1 y1))) (stab_isNew) (rg_call [isV _, isV _, isV _] rfl goes_37 (w_free rfl) ⟨p_tmp (g_dep 3 (by kernel_rfl) (at_dep rfl rfl rfl)), p_tmp (g_dep 7 (by kernel_rfl) (at_dep rfl rfl rfl)), p_tmp (g_dep 11 (by kernel_rfl) (at_dep rfl rfl rfl)), trivial⟩ (fun vs w' hb hh => by have e := holds_isV (us := [_, _, _]) hh; subst e; exact wret_gives hb.size (thenR_plain _ _ _ _ _ _ _ _ _ hp1 (hx1.below (hS.below.trans (hb.mono hS.below.size))) (hy1.below (hS.below.trans (hb.mono hS.below.size))))) (at_top rfl)) ?_
 refine bl_cons 14 rfl (isV _) (stab_isV _) (rgV (li := [(3, _)]) rfl (w_free rfl) ⟨g_fr (by kernel_rfl) rfl, trivial⟩ (fun w hw => rn_field (o' := 2) fa_25_2 rfl rfl) (at_top rfl)) ?_
 refine bl_cons 15 rfl (isV _) (stab_isV _) (rgV (li := [(79, _)]) rfl (w_free rfl) ⟨g_dep 13 (by kernel_rfl) (at_dep rfl rfl rfl), trivial⟩ (fun w hw => rn_load Try.isAgg23 rfl ((below_agree hw 0).cell (Nat.zero_le _) (cell_own (hS.at_ 4 rfl) rfl))) (at_top rfl)) ?_
 refine bl_cons 16 rfl (isV _) (stab_isV _) (rgV (li := [(80, _)]) rfl (w_free rfl) ⟨g_dep 14 (by kernel_rfl) (at_dep rfl rfl rfl), trivial⟩ (fun w hw => rn_indexA (j := 1) Try.underlying23 Try.sizeOf25 rfl rfl rfl (by omega) rfl) (at_top rfl)) ?_
 refine bl_cons 17 rfl (isV _) (stab_isV _) (rgV (li := [(81, _)]) rfl (w_free rfl) ⟨g_dep 15 (by kernel_rfl) (at_dep rfl rfl rfl), trivial⟩ (fun w hw => rn_loadA (vs := [_, _, _]) Try.isAgg25 Try.sizeOf25 rfl (CellsAt.agree (below_agree hw 0) (Nat.zero_le _) (by assumption))) (at_top rfl)) ?_
 refine bl_cons 18 rfl (isV _) (stab_isV _) (rgV (li := [(4, _)]) rfl (w_free rfl) ⟨g_fr (by kernel_rfl) rfl, trivial⟩ (fun w hw => rn_field (o' := 5) fa_45_4 rfl rfl) (at_top rfl)) ?_
 refine bl_cons 19 rfl (isV _) (stab_isV _) (rgV (li := [(83, _)]) rfl (w_free rfl) ⟨g_dep 17 (by kernel_rfl) (at_dep rfl rfl rfl), trivial⟩ (fun w hw => rn_load Try.isAgg43 rfl ((below_agree hw 0).cell (Nat.zero_le _) (cell_own (hS.at_ 3 rfl) rfl))) (at_top rfl)) ?_
 refine bl_cons 20 rfl (isV _) (stab_isV _) (rgV (li := [(84, _)]) rfl (w_free rfl) ⟨g_dep 18 (by kernel_rfl) (at_dep rfl rfl rfl), trivial⟩ (fun w hw => rn_indexA (j := 1) Try.underlying43 Try.sizeOf45 rfl rfl rfl (by omega) rfl) (at_top rfl)) ?_
 refine bl_cons 21 rfl (isV _) (stab_isV _) (rgV (li := [(85, _)]) rfl (w_free rfl) ⟨g_dep 19 (by kernel_rfl) (at_dep rfl rfl rfl), trivial⟩ (fun w hw => rn_loadA (vs := [_, _, _, _, _, _]) Try.isAgg45 Try.sizeOf45 rfl (CellsAt.agree (below_agree hw 0) (Nat.zero_le _) (by assumption))) (at_top rfl)) ?_
 refine bl_cons 22 rfl (isV _) (stab_isV _) (rgV (li := [(5, _)]) rfl (w_free rfl) ⟨g_fr (by kernel_rfl) rfl, trivial⟩ (fun w hw => rn_field (o' := 5) fa_45_4 rfl rfl) (at_top rfl)) ?_
 refine bl_cons 23 rfl (isV _) (stab_isV _) (rgV (li := [(87, _)]) rfl (w_free rfl) ⟨g_dep 21 (by kernel_rfl) (at_dep rfl rfl rfl), trivial⟩ (fun w hw => rn_load Try.isAgg43 rfl ((below_agree hw 0).cell (Nat.zero_le _) (cell_own (hS.at_ 2 rfl) rfl))) (at_top rfl)) ?_
 refine bl_cons 24 rfl (isV _) (stab_isV _) (rgV (li := [(88, _)]) rfl (w_free rfl) ⟨g_dep 22 (by kernel_rfl) (at_dep rfl rfl rfl), trivial⟩ (fun w hw => rn_indexA (j := 1) Try.underlying43 Try.sizeOf45 rfl rfl rfl (by omega) rfl) (at_top rfl)) ?_
 refine bl_cons 25 rfl (isV _) (stab_isV _) (rgV (li := [(89, _)]) rfl (w_free rfl) ⟨g_dep 23 (by kernel_rfl) (at_dep rfl rfl rfl), trivial⟩ (fun w hw => rn_loadA (vs := [_, _, _, _, _, _]) Try.isAgg45 Try.sizeOf45 rfl (CellsAt.agree (below_agree hw 0) (Nat.zero_le _) (by assumption))) (at_top rfl)) ?_
 refine bl_cons 26 rfl (isNew W6.heap.size (.one u m) (.one (extP u m x2 y2))) (stab_isNew) (rg_call [isV _, isV _, isV _] rfl goes_37 (w_free rfl) ⟨p_tmp (g_dep 16 (by kernel_rfl) (at_dep rfl rfl rfl)), p_tmp (g_dep 20 (by kernel_rfl) (at_dep rfl rfl rfl)), p_tmp (g_dep 24 (by kernel_rfl) (at_dep rfl rfl rfl)), trivial⟩ (fun vs w' hb hh => by have e := holds_isV (us := [_, _, _]) hh; subst e; exact wret_gives hb.size (thenR_plain _ _ _ _ _ _ _ _ _ hp2 (hx2.below (hS.below.trans (hb.mono hS.below.size))) (hy2.below (hS.below.trans (hb.mono hS.below.size))))) (at_top rfl)) ?_
 refine bl_cons 27 rfl (isPairRow W6.heap.size (.two t n u m) (.two (extP t n x1 y1) (extP u m x2 y2))) (stab_isPairRow) (rg_pairRow rfl (w_free rfl) ⟨p_tmp (g_dep 12 (by kernel_rfl) (at_dep rfl rfl rfl)), p_tmp (g_dep 25 (by kernel_rfl) (at_dep rfl rfl rfl)), trivial⟩ (at_top rfl)) ?_
 refine bl_cons 28 rfl (isV _) (stab_isV _) (rgV (li := [(7, _)]) rfl (w_free rfl) ⟨g_fr (by kernel_rfl) rfl, trivial⟩ (fun w hw => rn_field (o' := 5) fa_45_4 rfl rfl) (at_top rfl)) ?_
 refine bl_nil ?_
 intro W7 hbR hS'
 clear hS; have hS := hS'; clear hS'
 iterate 12 refine fin_v ?_
 refine fin_p ?_; rintro _ ⟨v1, rfl, hn1⟩
 iterate 12 refine fin_v ?_
 refine fin_p ?_; rintro _ ⟨v2, rfl, hn2⟩
 refine fin_p ?_; rintro _ ⟨b9, rfl, hn9⟩
 refine fin_v ?_
 refine fin_nil ?_
 refine op_store (i := 0) (cs' := [_, _, _, _, _, _]) (O' := [_, _, _, _, _]) hS Try.sizeOf43 rfl rfl rfl rfl rfl rfl rfl ?_
 clear hS; intro W8 hS
 refine endF ?_
 refine XF.blkN ?_
 refine XF.thenN ?_
 refine seqF (regF ?_)
 refine op_loadA (vs := [_, _, _, _, _, _]) Try.isAgg45 Try.sizeOf45 rfl (CellsAt.own (j := 0) (m := 6) (hS.at_ 0 rfl) rfl) rfl ?_
 refine op_storeA (i := 1) (vs := [_, _, _, _, _, _]) (cs' := [_, _, _, _, _, _]) (O' := [_, _, _, _, _]) hS Try.sizeOf45 rfl rfl rfl rfl rfl rfl rfl ?_
 clear hS; intro W9 hS
 refine endF (XF.thenN ?_)
 refine retF ?_
 refine XF.res (resC1 (vs := [_, _, _, _, _, _]) Try.results37 Try.isAgg45 Try.sizeOf45 rfl (CellsAt.own (j := 0) (m := 6) (hS.at_ 1 rfl) rfl)) ?_
 exact ⟨pairF b9, rfl, (hn9.agree (hS.since 0 rfl)).mono hsz, hS.below⟩
theorem thenR_ok {S : PS} {sf : SF} {f g : WF} {x y : PX} {w : World} (hs : SIs w S sf) (hok : S.ok) (hx : XIs w S f x) (hy : XIs w S g y) : Calls Try.prog 37 #[sf.val, f.val, g.val] w (WRet S (extX S x y) w) := by
 cases S <;> cases x <;> cases y <;> first | exact hx.elim | exact hy.elim | skip
 ·obtain ⟨a, c, rfl⟩ := hs
  exact thenR_plain _ _ _ _ _ _ _ _ _ hok hx hy
 ·obtain ⟨b, off, c, a1, c1, a2, c2, rfl, h1, h2⟩ := hs
  obtain ⟨ra, ca, rc, cc, pc, fb, fo, f1, f2, rfl, h6, h7, h8, h9⟩ := hx.two
  obtain ⟨ra', ca', rc', cc', pc', gb, go, g1, g2, rfl, h6', h7', h8', h9'⟩ := hy.two
  exact thenR_pair _ _ _ _ _ _ _ _ _ _ _ _ h1 h2 hok.1 hok.2 _ _ _ _ _ _ _ _ _ _ _ h6 h7 h8 h9 _ _ _ _ _ _ _ _ _ _ _ h6' h7' h8' h9'
end Go.Proofs.Ytpkcaabbcoiiiaa
namespace Go.Proofs.Ytpkcaabbcoiiiaa
open Go Go.RowKit
structure Ready (w : World) (S : PS) (px : RV → PX) (p : PV) (c : CV) : Prop where
 chk : stepE p c = 0
 ok : S.ok
 si : SIs w S p.s.f
 w4 : ∀ r ∈ p.rs, r.wl ≤ 4096
 c4 : c.wl ≤ 4096
 x : ∀ r ∈ p.rs, XIs w S r.x.f (px r)
section
variable {w : World} {ds d : Nat} {S : PS} {px : RV → PX} {p : PV} {c : CV} {la : Option Addr} {ll lc : Nat} {is : List Int} {R : Option StT × Int × Int}
end
end Go.Proofs.Ytpkcaabbcoiiiaa
namespace Go.Proofs.Ytpkcaabbcoiiiaa
open Go Go.RowKit
structure PdsOk (w : World) (S : PS) (px : RV → PX) (p : PV) : Prop where
 chk : pdsE p = 0
 ok : S.ok
 si : SIs w S p.s.f
 x : ∀ r ∈ p.rs, XIs w S r.x.f (px r)
 rl : p.rl ≤ 16384
 w4 : ∀ r ∈ p.rs, r.wl ≤ 4096
 st : 0 ≤ p.st ∧ p.st ≤ 4096
 sy : 0 ≤ p.sy ∧ p.sy ≤ 4096
 rule : ∀ r ∈ p.rs, ruleB p.st p.sy r = true
theorem pdsOk_of {w : World} {ds d : Nat} {p : PV} (hp : PvIn w ds d p) (h : pdsE p = 0) : ∃ S px, PdsOk w S px p := by
 have h2 : spaceE p.s = 0 ∧ p.rl ≤ 16384 ∧ (0 ≤ p.st ∧ p.st ≤ 4096) ∧ (0 ≤ p.sy ∧ p.sy ≤ 4096) ∧ p.rs.all (ruleB p.st p.sy) = true ∧ wtE p.s p.rs = 0 := by
  have hd := h
  unfold pdsE at hd
  split at hd
  ·rename_i hn; exact absurd hd hn
  ·rename_i hn
   split at hd
   ·cases hd
   ·rename_i hr
    split at hd
    ·cases hd
    ·rename_i ho
     split at hd
     ·rename_i ha; exact ⟨Decidable.of_not_not hn, by omega, by omega, by omega, ha, hd⟩
     ·cases hd
 obtain ⟨hs, hrl, hst, hsy, hr, hw⟩ := h2
 obtain ⟨S, hok, hsi, hx⟩ := space_of hp.s hs
 have hall : ∀ r ∈ p.rs, chkW p.s r.x = 0 := by
  have key : ∀ rs : List RV, wtE p.s rs = 0 → ∀ r ∈ rs, chkW p.s r.x = 0 := by
   intro rs
   induction rs with
   | nil => intro _ r hr; cases hr
   | cons a rs ih =>
    intro hz r hr
    unfold wtE at hz
    split at hz
    ·rename_i h0
     rcases List.mem_cons.1 hr with rfl | hr
     ·exact h0
     ·exact ih hz r hr
    ·rename_i h0; exact absurd hz h0
  exact key _ hw
 have hex : ∀ r, ∃ x, r ∈ p.rs → XIs w S r.x.f x := fun r => by
  by_cases hm : r ∈ p.rs
  ·have h0 := hall r hm
   have hokw : okW p.s r.x = true := by
    unfold chkW at h0
    rw [if_pos hs] at h0
    split at h0
    ·assumption
    ·cases h0
   obtain ⟨x, hxx⟩ := hx r.x d (hp.rin r hm).x hokw
   exact ⟨x, fun _ => hxx⟩
  ·exact ⟨zeroX S, fun h => absurd h hm⟩
 refine ⟨S, fun r => Classical.choose (hex r), h, hok, hsi, fun r hm => Classical.choose_spec (hex r) hm, hrl, fun r hm => ?_, hst, hsy, fun r hm => List.all_eq_true.1 hr r hm⟩
 have := List.all_eq_true.1 hr r hm
 unfold ruleB at this
 simp only [Bool.and_eq_true, decide_eq_true_eq] at this
 exact this.2.2.2.1
end Go.Proofs.Ytpkcaabbcoiiiaa
namespace Go.Proofs.Ytpkcaabbcoiiiaa
open Go Go.RowKit
section
variable {P : Program} {n : Nat} {ops : Array Oper} {Q : Exit → Act → World → Prop} {l : Fr} {W : World} {os : List Oper}
theorem op_unF {dst : Nat} {op : Op} {ty : TypeId} {pos : String} {aft : Array Edge} {g d : Nat} {b : Bool} (hd : (ops[g]?).bind (·.dst) = some d) (hv : look l d = some undef) (hn : Nat.blt dst n = true)
  (h : OpsF P n ops Q os ((dst, undef) :: l) W) : OpsF P n ops Q (⟨some dst, op, ty, pos, aft, some (g, b)⟩ :: os) l W := fun a ha => by
 have h2 := ha.at_ d _ hv
 have hw : Region.wanted ⟨some dst, op, ty, pos, aft, some (g, b)⟩ (yielded ops a.tmps) = false := by
  cases hx : a.tmps[d]? with
  | none => simp [Region.wanted, yielded, hd, hx]
  | some x =>
   simp only [Act.eval, Array.getD_eq_getD_getElem?, hx] at h2
   simp at h2
   subst h2
   simp [Region.wanted, yielded, hd, hx, undef]
 unfold wpList
 rw [hw]
 exact h _ (ha.put hn)
end
end Go.Proofs.Ytpkcaabbcoiiiaa
namespace Go.Proofs.Ytpkcaabbcoiiiaa
open Go Go.RowKit
structure TV where
 f : Int
 g : Int
 t : Int
 x : WV
abbrev TV.nine (r : TV) : List Value := [.int .i64 r.f, .int .i64 r.g, .int .i64 r.t, .bool r.x.f.z, .int .i64 r.x.f.c, .int .u64 (r.x.f.g : Int), .slice r.x.f.ra r.x.f.rl r.x.f.rc, .slice r.x.f.ca r.x.f.cl r.x.f.cc, .slice r.x.f.pa r.x.f.pl r.x.f.pc]
def TRow (w : World) (a : Option Addr) (ts : List TV) : Prop :=
 ts = [] ∨ ∃ b off, a = some ⟨b, off, none⟩ ∧ ∀ (i : Nat) r, ts[i]? = some r → CellsAt w b (off + i * 9) r.nine
structure AV where
 s : SV
 st : Int
 sy : Int
 fa : Option Addr
 fl : Nat
 fc : Nat
 fs : List Int
 ta : Option Addr
 tl : Nat
 tc : Nat
 ts : List TV
abbrev AV.val (a : AV) : Value := .agg #[.int .i64 a.s.f.tag, .int .i64 a.s.f.dim, .slice a.s.f.a a.s.f.len a.s.f.cap, .int .i64 a.st, .int .i64 a.sy, .slice a.fa a.fl a.fc, .slice a.ta a.tl a.tc]
structure AIn (w : World) (ds d : Nat) (a : AV) : Prop where
 s : SIn w ds a.s
 frow : Row w a.fa a.fs
 flen : a.fs.length = a.fl
 trow : TRow w a.ta a.ts
 tlen : a.ts.length = a.tl
 tin : ∀ t ∈ a.ts, WIn w d t.x
 fmax : a.fl ≤ 9223372036854775807
 tmax : a.tl ≤ 9223372036854775807
theorem TRow.at_ {w : World} {a : Option Addr} {rs : List TV} (h : TRow w a rs) {i : Nat} {r : TV} (hi : rs[i]? = some r) : ∃ b off, a = some ⟨b, off, none⟩ ∧ CellsAt w b (off + i * 9) r.nine := by
 rcases h with rfl | ⟨b, off, ha, hc⟩
 ·simp at hi
 ·exact ⟨b, off, ha, hc i r hi⟩
theorem TRow.below {w w' : World} {a : Option Addr} {rs : List TV} (h : TRow w a rs) (hb : Below w.heap.size w w') : TRow w' a rs := by
 rcases h with h | ⟨b, off, rfl, hc⟩
 ·exact .inl h
 ·exact .inr ⟨b, off, rfl, fun i r hi => CellsAt.agree (below_agree hb 0) (Nat.zero_le _) (hc i r hi)⟩
theorem AIn.below {w w' : World} {ds d : Nat} {a : AV} (h : AIn w ds d a) (hb : Below w.heap.size w w') : AIn w' ds d a := ⟨SIn.below hb h.s, h.frow.below hb, h.flen, h.trow.below hb, h.tlen, fun t ht => WIn.below hb (h.tin t ht), h.fmax, h.tmax⟩
def finOk (st : Int) (fs : List Int) (i : Nat) : Bool := inQ (fs.getD i 0) st && (decide (i = 0) || decide (fs.getD (i - 1) 0 < fs.getD i 0))
def finB (st : Int) (fs : List Int) : Bool := (List.range fs.length).all (finOk st fs)
theorem finB_of {st : Int} {fs : List Int} (h : ∀ j, j < fs.length → finOk st fs j = true) : finB st fs = true := List.all_eq_true.2 fun j hj => h j (List.mem_range.1 hj)
theorem finB_no {st : Int} {fs : List Int} {i : Nat} (hi : i < fs.length) (h : finOk st fs i = false) : finB st fs = false := by
 cases hb : finB st fs with
 | false => rfl
 | true =>
  have := List.all_eq_true.1 hb i (List.mem_range.2 hi)
  rw [h] at this; cases this
theorem getD_at {fs : List Int} {i : Nat} {y : Int} (h : fs[i]? = some y) : fs.getD i 0 = y := by
 rw [List.getD_eq_getElem?_getD, h]; rfl
theorem finOk_out {st : Int} {fs : List Int} {i : Nat} {y : Int} (h : fs[i]? = some y) (hq : inQ y st = false) : finOk st fs i = false := by
 unfold finOk; rw [getD_at h, hq]; rfl
theorem finOk_zero {st : Int} {fs : List Int} {i : Nat} {y : Int} (h : fs[i]? = some y) (hq : inQ y st = true) (hi : i = 0) : finOk st fs i = true := by
 unfold finOk; rw [getD_at h, hq, decide_eq_true hi]; rfl
theorem finOk_pos {st : Int} {fs : List Int} {i : Nat} {y z : Int} (h : fs[i]? = some y) (hz : fs[i - 1]? = some z) (hq : inQ y st = true) (hi : 0 < i) : finOk st fs i = decide (z < y) := by
 unfold finOk; rw [getD_at h, getD_at hz, hq, decide_eq_false (show ¬ i = 0 by omega)]; rfl
theorem fin_next {st : Int} {fs : List Int} {i : Nat} (h : ∀ j, j < i → finOk st fs j = true) (hi : finOk st fs i = true) : ∀ j, j < i + 1 → finOk st fs j = true := fun j hj => by
 rcases Nat.lt_or_ge j i with h1 | h1
 ·exact h j h1
 ·rw [show j = i by omega]; exact hi
def trB (st sy : Int) (t : TV) : Bool := inQ t.f st && (inQ t.t st && (decide (-1 ≤ t.g) && decide (t.g < sy)))
def ashapeB (st sy : Int) (fs : List Int) (ts : List TV) : Bool := if st < 0 ∨ 4096 < st ∨ sy < 0 ∨ 4096 < sy then false else finB st fs && ts.all (trB st sy)
def autoE (a : AV) : Int :=
 if spaceE a.s ≠ 0 then spaceE a.s else if 65536 < a.tl then 3 else if ashapeB a.st a.sy a.fs a.ts = false then 100 else if a.ts.all (fun t => decide (chkW a.s t.x = 0)) = true then 0 else 51
theorem chkW_51 {s : SV} {x : WV} (hs : spaceE s = 0) (h : chkW s x ≠ 0) : chkW s x = 51 := by
 unfold chkW at h ⊢
 rw [if_pos hs] at h ⊢
 split
 ·rename_i h2; rw [if_pos h2] at h; exact absurd rfl h
 ·rfl
def qtrB (st : Int) (t : TV) : Bool := decide (0 ≤ t.g) && decide (st ≤ t.t)
def queryE (p : PV) (a : AV) (r : Bool) : Int :=
 if pdsE p ≠ 0 then pdsE p else if autoE a ≠ 0 then autoE a else if r = false ∨ a.sy ≠ p.sy ∨ a.st < p.st then 140 else if a.ts.all (qtrB p.st) = true then 0 else 140
theorem sameSp9 {w : World} {S T : PS} {f g : SF} (h : SIs w S f) (h2 : SIs w T g) : ∃ s t : SV, s.f = f ∧ t.f = g ∧ SIn w 2 s ∧ SIn w 2 t ∧ smS 3 s = true ∧ (eqS 2 s t = true ↔ S = T) := by
 have one : ∀ {t n : Int} {f : SF}, SIs w (.one t n) f → ∃ (a : Option Addr) (c : Nat), f = ⟨t, n, a, 0, c⟩ ∧ SIn w 2 (.mk ⟨t, n, a, 0, c⟩ []) := by
  rintro t n f ⟨a, c, rfl⟩
  exact ⟨a, c, rfl, rfl, .inl rfl, by simp⟩
 have key : ∀ {t n u m : Int} {f : SF}, SIs w (.two t n u m) f → ∃ (b off c c1 c2 : Nat) (a1 a2 : Option Addr), f = ⟨5, 0, some ⟨b, off, none⟩, 2, c⟩ ∧ SIn w 2 (.mk ⟨5, 0, some ⟨b, off, none⟩, 2, c⟩ [.mk ⟨t, n, a1, 0, c1⟩ [], .mk ⟨u, m, a2, 0, c2⟩ []]) := by
  rintro t n u m f ⟨b, off, c, a1, c1, a2, c2, rfl, h1, h2⟩
  refine ⟨b, off, c, c1, c2, a1, a2, rfl, rfl, .inr ⟨b, off, rfl, fun i p hi => ?_⟩, ?_⟩
  ·match i, hi with
   | 0, hi => simp at hi; subst hi; simpa [SV.f] using h1
   | 1, hi => simp at hi; subst hi; simpa [SV.f] using h2
  ·intro p hp
   simp at hp
   rcases hp with rfl | rfl <;> exact ⟨rfl, .inl rfl, by simp⟩
 cases S with
 | one t n =>
  obtain ⟨a, c, rfl, k1⟩ := one h
  cases T with
  | one t2 n2 =>
   obtain ⟨a', c', rfl, k2⟩ := one h2
   exact ⟨_, _, rfl, rfl, k1, k2, by simp [smS, SV.f], by simp [eqS]⟩
  | two t2 n2 u2 m2 =>
   obtain ⟨b', off', c', c1', c2', a1', a2', rfl, k2⟩ := key h2
   exact ⟨_, _, rfl, rfl, k1, k2, by simp [smS, SV.f], by simp [eqS]⟩
 | two t n u m =>
  obtain ⟨b, off, c, c1, c2, a1, a2, rfl, k1⟩ := key h
  cases T with
  | one t2 n2 =>
   obtain ⟨a', c', rfl, k2⟩ := one h2
   exact ⟨_, _, rfl, rfl, k1, k2, by simp [smS, SV.f], by simp [eqS]⟩
  | two t2 n2 u2 m2 =>
   obtain ⟨b', off', c', c1', c2', a1', a2', rfl, k2⟩ := key h2
   refine ⟨_, _, rfl, rfl, k1, k2, by simp [smS, SV.f], ?_⟩
   simp [eqS, and_assoc]
theorem sameSpR9 {w : World} {S T : PS} {f g : SF} (h : SIs w S f) (h2 : SIs w T g) (r : Bool) (hr : r = true ↔ S = T) : Calls Try.prog 43 #[f.val, g.val] w fun e w' => e = .returned (.bool r) ∧ Below w.heap.size w w' := by
 obtain ⟨s, t, rfl, rfl, k1, k2, k3, k4⟩ := sameSp9 h h2
 have h9 := sameSpaceR_is 2 3 s t w k1 k2 k3
 rw [show eqS 2 s t = r from Bool.eq_iff_iff.2 (k4.trans hr.symm)] at h9
 exact h9
theorem sameSpA9 {w : World} {S T : PS} {f g : SF} (h : SIs w S f) (h2 : SIs w T g) (r : Bool) (hr : r = true ↔ S = T) : Calls Try.prog 40 #[f.val, g.val] w fun e w' => e = .returned (.bool r) ∧ Below w.heap.size w w' := by
 obtain ⟨s, t, rfl, rfl, k1, k2, k3, k4⟩ := sameSp9 h h2
 have h9 := sameSpaceA_is 2 3 s t w k1 k2 k3
 rw [show eqS 2 s t = r from Bool.eq_iff_iff.2 (k4.trans hr.symm)] at h9
 exact h9
end Go.Proofs.Ytpkcaabbcoiiiaa
namespace Go.Proofs.Ytpkcaabbcoiiiaa
open Go Go.RowKit
theorem bs_23_1 (v00 : Value) (v01 : Value) (v02 : Value) : Instr.fill (fun i => some (i * 3, 3)) ((Array.range (1 * 3)).map ((Value.cells (.agg #[.int .i64 0, .int .i64 0, .slice none 0 0]))[· % (Value.cells (.agg #[.int .i64 0, .int .i64 0, .slice none 0 0])).size]!)) [(0, .agg #[v00, v01, v02])] = some (List.toArray [v00, v01, v02]) := by kernel_rfl
theorem goes_32 : goesIn Try.prog 32 = true := by kernel_rfl
theorem inf_25 : Try.prog.info? 25 = some Try.t25 := by kernel_rfl
abbrev bare3 (q : SF) : List Value := [.int .i64 q.tag, .int .i64 q.dim, .slice none 0 0]
theorem copySpace1 (t n : Int) (a : Option Addr) (c : Nat) (w : World) :
  Calls Try.prog 32 #[.agg #[.int .i64 t, .int .i64 n, .slice a 0 c]] w (fun e w' => e = .returned (.agg #[.int .i64 t, .int .i64 n, .slice none 0 0]) ∧ Below w.heap.size w w') := by
 refine enterF (args := [.agg #[.int .i64 t, .int .i64 n, .slice a 0 c]]) Try.func32 rfl Try.ntmps32 rfl ?_
 have hS := St.start w
 refine seqF (regF ?_)
 refine op_box (cs := [_, _, _]) hS rfl rfl rfl ?_
 clear hS; intro B1 W1 hS
 refine op_alloc (cs := [_, _, _]) hS Try.zeroValue25 rfl rfl ?_
 clear hS; intro B2 W2 hS
 refine endF (XF.thenN ?_)
 refine seqF (regF ?_)
 refine op_assign rfl rfl ?_
 refine endF (XF.thenN ?_)
 refine seqF ?_
 refine seqF (regF ?_)
 refine op_field (o' := 2) fa_25_2 rfl rfl rfl ?_
 refine op_load Try.isAgg23 rfl (cell_own (hS.at_ 1 rfl) rfl) rfl ?_
 refine op_len Try.underlying23 rfl rfl ?_
 refine op_move rfl rfl ?_
 refine endF (XF.thenN ?_)
 refine blockF ?_
 refine loopF (fun m l W => l = [(1, .pointer (some ⟨B1, 0, none⟩)), (2, .pointer (some ⟨B2, 0, none⟩)), (3, .slice none 0 0), (8, .int .i64 0), (9, .int .i64 0)] ∧ St w [(B2, [.int .i64 0, .int .i64 0, .slice none 0 0], 25), (B1, [.int .i64 t, .int .i64 n, .slice a 0 c], 25)] [] [] W) (0) ([(1, _), (2, _), (3, _), (8, _), (9, _)]) ⟨rfl, rfl, rfl, rfl, rfl, trivial⟩ (⟨rfl, hS.clear⟩) ?_
 clear hS
 rintro m l W ⟨rfl, hS⟩
 refine seqF (regF ?_)
 refine op_lss rfl rfl rfl ?_
 refine endF (XF.thenN ?_)
 refine seqF ?_
 refine condF rfl (fun hc => absurd (of_decide_eq_true hc) (by decide)) (fun hc => ?_)
 have hc := of_decide_eq_false hc
 refine exitF ?_
 iterate 2 refine XF.thenX ?_
 refine XF.blkX ?_
 refine XF.thenN ?_
 refine seqF (regF ?_)
 refine op_move rfl rfl ?_
 refine op_field (o' := 2) fa_25_2 rfl rfl rfl ?_
 refine op_store (i := 1) (cs' := [_, _, _]) (O' := [_, _]) hS Try.sizeOf23 rfl rfl rfl rfl rfl rfl rfl ?_
 clear hS; intro W3 hS
 refine endF (XF.thenN ?_)
 refine seqF (regF ?_)
 refine op_loadA (vs := [_, _, _]) Try.isAgg25 Try.sizeOf25 rfl (CellsAt.own (j := 0) (m := 3) (hS.at_ 1 rfl) rfl) rfl ?_
 refine op_storeA (i := 0) (vs := [_, _, _]) (cs' := [_, _, _]) (O' := [_, _]) hS Try.sizeOf25 rfl rfl rfl rfl rfl rfl rfl ?_
 clear hS; intro W4 hS
 refine endF (XF.thenN ?_)
 refine retF ?_
 refine XF.res (resC1 (vs := [_, _, _]) Try.results32 Try.isAgg25 Try.sizeOf25 rfl (CellsAt.own (j := 0) (m := 3) (hS.at_ 0 rfl) rfl)) ?_
 exact ⟨rfl, hS.below⟩
theorem copySpace2 (tag dim : Int) (sa : Option Addr) (slen scap : Nat) (fs : List SF) (w : World) (hrow : ∀ (i : Nat) q, fs[i]? = some q → ∃ b off, sa = some ⟨b, off, none⟩ ∧ S3 w b (off + i * 3) q) (hlen : fs.length = slen) (h0 : ∀ q ∈ fs, q.len = 0) (hm : slen ≤ 2) :
  Calls Try.prog 32 #[.agg #[.int .i64 tag, .int .i64 dim, .slice sa slen scap]] w (fun e w' => ∃ v, e = .returned (.agg #[.int .i64 tag, .int .i64 dim, v]) ∧ w'.ownsRow w.heap.size 25 3 v slen (fs.flatMap bare3) ∧ Below w.heap.size w w') := by
 refine enterF (args := [.agg #[.int .i64 tag, .int .i64 dim, .slice sa slen scap]]) Try.func32 rfl Try.ntmps32 rfl ?_
 have hS := St.start w
 refine seqF (regF ?_)
 refine op_box (cs := [_, _, _]) hS rfl rfl rfl ?_
 clear hS; intro B1 W1 hS
 refine op_alloc (cs := [_, _, _]) hS Try.zeroValue25 rfl rfl ?_
 clear hS; intro B2 W2 hS
 refine endF (XF.thenN ?_)
 refine seqF (regF ?_)
 refine op_assign rfl rfl ?_
 refine endF (XF.thenN ?_)
 iterate 2 refine seqF ?_
 have hS := hS.newG 25 3
 refine regF ?_
 refine op_field (o' := 2) fa_25_2 rfl rfl rfl ?_
 refine op_load Try.isAgg23 rfl (cell_own (hS.at_ 1 rfl) rfl) rfl ?_
 refine op_len Try.underlying23 rfl rfl ?_
 refine op_move rfl rfl ?_
 refine endF (XF.thenN ?_)
 refine blockF ?_
 refine loopF (fun m l W => ∃ (i : Nat) (v : Value), i ≤ slen ∧ m = slen - i ∧ l = [(1, .pointer (some ⟨B1, 0, none⟩)), (2, .pointer (some ⟨B2, 0, none⟩)), (3, v), (7, .slice sa slen scap), (8, .int .i64 (slen : Int)), (9, .int .i64 (i : Int))] ∧ St w [(B2, [.int .i64 0, .int .i64 0, .slice none 0 0], 25), (B1, [.int .i64 tag, .int .i64 dim, .slice sa slen scap], 25)] [⟨v, i, (fs.take i).flatMap bare3, 25, 3⟩] [] W) (slen - 0) ([(1, _), (2, _), (3, _), (7, _), (8, _), (9, _)]) ⟨rfl, rfl, rfl, rfl, rfl, rfl, trivial⟩ (⟨0, _, Nat.zero_le _, rfl, rfl, hS.clear⟩) ?_
 clear hS
 rintro m l W ⟨i, v, hi, rfl, rfl, hS⟩
 refine seqF (regF ?_)
 refine op_lss rfl rfl rfl ?_
 refine endF (XF.thenN ?_)
 refine seqF ?_
 refine condF rfl (fun hc => ?_) (fun hc => ?_)
 ·have hc10 := of_decide_eq_true hc; clear hc
  have hk : i < slen := by omega
  obtain ⟨q, hq⟩ : ∃ q, fs[i]? = some q := ⟨fs[i]'(by omega), by simp [show i < fs.length by omega]⟩
  obtain ⟨b, off, rfl, hs3⟩ := hrow i q hq
  obtain ⟨t9, d9, a9, l9, c9⟩ := q
  obtain rfl : l9 = 0 := h0 _ (List.mem_of_getElem? hq)
  have k1 : CellsAt W b (off + i * 3) [.int .i64 t9, .int .i64 d9, .slice a9 0 c9] := CellsAt.agree hS.agree (Nat.zero_le _) hs3.cells
  refine skipF ?_
  refine XF.thenN ?_
  refine seqF ?_
  refine blockF ?_
  refine seqF (regF ?_)
  refine op_indexA  Try.underlying23 Try.sizeOf25 rfl rfl rfl (by omega) rfl rfl ?_
  refine op_loadA (vs := [_, _, _]) Try.isAgg25 Try.sizeOf25 rfl (k1) rfl ?_
  refine op_alloc (cs := [_, _, _]) hS Try.zeroValue25 rfl rfl ?_
  clear hS; intro B3 W3 hS
  refine op_storeA (i := 0) (vs := [_, _, _]) (cs' := [_, _, _]) (O' := [_, _, _]) hS Try.sizeOf25 rfl rfl rfl rfl rfl rfl rfl ?_
  clear hS; intro W4 hS
  refine endF (XF.thenN ?_)
  refine regF ?_
  refine op_move rfl rfl ?_
  refine op_loadA (vs := [_, _, _]) Try.isAgg25 Try.sizeOf25 rfl (CellsAt.own (j := 0) (m := 3) (hS.at_ 0 rfl) rfl) rfl ?_
  refine op_call (vs := [_]) hS goes_32 rfl (copySpace1 t9 d9 a9 c9 _) rfl ?_
  rintro e W5 ⟨rfl, hb⟩
  refine ⟨_, rfl, hb, fun hS' => ?_⟩
  clear hS; have hS := hS'; clear hS' hb
  refine op_buildSlice (us := [(0, .agg (List.toArray [_, _, _]))]) hS Try.underlying23 Try.sizeOf25 Try.zeroValue25 rfl rfl rfl (bs_23_1 _ _ _) rfl ?_
  clear hS; intro B6 W6 hS
  refine op_append (i := 0) (news := [_, _, _]) hS Try.underlying23 inf_25 rfl rfl (by show 0 < 3; decide) rfl rfl rfl rfl rfl (CellsAt.own (j := 0) (m := 3) (hS.at_ 0 rfl) rfl) rfl rfl (by dsimp only; simp only [maxLen]; omega) (by dsimp only; show _ * 40 ≤ _; omega) rfl ?_
  clear hS; intro v7 W7 hS
  refine op_assign rfl rfl ?_
  refine endF ?_
  refine XF.blkN ?_
  refine XF.thenN ?_
  refine regF ?_
  refine op_add rfl rfl (IntWalk.i64_in _ (by omega)) rfl ?_
  refine op_move rfl rfl ?_
  refine endF ?_
  exact XF.round (slen - (i + 1)) [(1, _), (2, _), (3, _), (7, _), (8, _), (9, _)] (by omega) ⟨rfl, rfl, rfl, rfl, rfl, rfl, trivial⟩ ⟨i + 1, _, by omega, rfl, rfl, hS.tail.tail.clear.castG (by simp [List.take_add_one, hq, bare3])⟩
 ·have hc10 := of_decide_eq_false hc; clear hc
  have hil : i = slen := by omega
  rw [List.take_of_length_le (by omega), hil] at hS
  obtain ⟨a9, c9, rfl⟩ := hS.headSl
  refine exitF ?_
  iterate 2 refine XF.thenX ?_
  refine XF.blkX ?_
  refine XF.thenN ?_
  refine seqF (regF ?_)
  refine op_move rfl rfl ?_
  refine op_field (o' := 2) fa_25_2 rfl rfl rfl ?_
  refine op_store (i := 1) (cs' := [_, _, _]) (O' := [_, _]) hS Try.sizeOf23 rfl rfl rfl rfl rfl rfl rfl ?_
  clear hS; intro W8 hS
  refine endF (XF.thenN ?_)
  refine seqF (regF ?_)
  refine op_loadA (vs := [_, _, _]) Try.isAgg25 Try.sizeOf25 rfl (CellsAt.own (j := 0) (m := 3) (hS.at_ 1 rfl) rfl) rfl ?_
  refine op_storeA (i := 0) (vs := [_, _, _]) (cs' := [_, _, _]) (O' := [_, _]) hS Try.sizeOf25 rfl rfl rfl rfl rfl rfl rfl ?_
  clear hS; intro W9 hS
  refine endF (XF.thenN ?_)
  refine retF ?_
  refine XF.res (resC1 (vs := [_, _, _]) Try.results32 Try.isAgg25 Try.sizeOf25 rfl (CellsAt.own (j := 0) (m := 3) (hS.at_ 0 rfl) rfl)) ?_
  exact ⟨_, rfl, hS.row 0 rfl, hS.below⟩
end Go.Proofs.Ytpkcaabbcoiiiaa
