import Derived.Orders
import Derived.Below
import Derived.Deep.RegionHeld
import Derived.WalkKit
import Derived.KernelRfl
import Derived.Laws.Rows
import Derived.Laws.AppendOwn
import Derived.Laws.Strings
import Derived.Laws.Small
import Derived.Lib.Hide
import Derived.IntWalk
import Derived.Laws.Tables
import Derived.Laws.Concat
import Derived.Laws.MakeOwn
import Derived.Lib.OwnBridge
import Derived.WideKeyEntry
import Derived.DeepKeys4
import Derived.Lib.AppendZeros
import Derived.Test.YtpkcaabbcoiiiaaProg
import Derived.Test.YtpkcaabbcoiiiaaRows
import Derived.Lib.LaidTab
import Derived.Lib.ItoaNum
import Derived.Lib.TrailingZeros
import Derived.Stop.LaidErr
import Derived.WalkSmall
import Derived.LaidMore
import Derived.Shelf.Spec.TrailingZeros
import Derived.Laws.BitsAllLaws
import Derived.Laws.Bits64
import Derived.Deep.QuietTactic
import Derived.BigQuiet
import Derived.RegionTactic
import Derived.BigRegion
import Derived.Deep.RegionHeld3
import Derived.ChangeAlike
import Derived.RangeFuncNested
import Derived.RangeFuncBound
import Derived.RangeFuncCalls
import Derived.RangeFuncLeaves
import Derived.Shelf.Abstract
import Derived.Shelf.RegionOpen
import Derived.OwnWalkIn
import Derived.TacticsInMore
import Derived.LoopNIn
import Derived.LoopIn
import Derived.Laws.Bits128
import Derived.Deep.AppendLies
import Derived.Maps.AppendAt
import Derived.Ground.Names2Prog
import Derived.Shelf.Slices.Clone
import Derived.Sort.Grow
import Derived.Lib.OthersKept
import Derived.Laws.IdiomStrings
import Derived.StillTailTactics
import Derived.Deep.RegionLaw
import Derived.Deep.DeepCutAuto
import Derived.Deep.CutRange
import Derived.Deep.RegionWith
import Derived.Laws.Bits64b
import Derived.Deep.DrawnRows
import Derived.Lib.SliceRun
import Derived.Laws.OwnMore
import Derived.OwnWalk
import Derived.WalkSpells
import Derived.Lib.Join
import Derived.Lib.ItoaLen
import Derived.Lib.UnsafeStr
import Derived.Lib.AppendIntMem
import Derived.Test.YtpkcaabbcoiiiaaPsA
import Derived.Test.YtpkcaabbcoiiiaaPsB
import Derived.Test.YtpkcaabbcoiiiaaPsC
import Derived.Test.YtpkcaabbcoiiiaaPsD
set_option maxRecDepth 100000
set_option maxHeartbeats 4000000
set_option linter.unusedVariables false
set_option linter.unusedVariables false
set_option linter.unusedSimpArgs false
set_option linter.unusedSectionVars false
set_option linter.unnecessarySimpa false
namespace Go.Proofs.Ytpkcaabbcoiiiaa
open Go Go.RowKit
theorem checkAllW_oneY (ds da : Nat) (s : SV) (x : WV) (w : World) (hs : SIn w ds s) (hx : WIn w da x) (b : Nat) (hb0 : CellsAt w b 0 x.f.six) :
  Calls Try.prog 84 #[s.f.val, .slice (some ⟨b, 0, none⟩) 1 1] w (fun e w' => e = .returned (.int .i64 (chkW s x)) ∧ Below w.heap.size w w') := by
 refine enterF (args := [s.f.val, .slice (some ⟨b, 0, none⟩) 1 1]) Try.func84 rfl Try.ntmps84 rfl ?_
 have hS := St.start w
 refine seqF (regF ?_)
 refine op_box (cs := [_, _, _]) hS rfl rfl rfl ?_
 clear hS; intro B1 W1 hS
 refine op_assign rfl rfl ?_
 refine endF (XF.thenN ?_)
 refine seqF ?_
 refine seqF (regF ?_)
 refine op_loadA (vs := [_, _, _]) Try.isAgg25 Try.sizeOf25 rfl (CellsAt.own (j := 0) (m := 3) (hS.at_ 0 rfl) rfl) rfl ?_
 refine op_call (vs := [_]) hS goes_56 rfl (spaceA_is ds s _ _ (SIn.below hS.below hs) rfl) rfl ?_
 rintro e W2 ⟨rfl, hb⟩
 refine ⟨_, rfl, hb, fun hS' => ?_⟩
 clear hS; have hS := hS'; clear hS' hb
 refine op_assign rfl rfl ?_
 refine endF (XF.thenN ?_)
 refine seqF (regF ?_)
 refine op_move rfl rfl ?_
 refine op_neq rfl rfl rfl ?_
 refine endF (XF.thenN ?_)
 refine condF rfl (fun hc => ?_) (fun hc => ?_)
 ·have hc11 := of_decide_eq_true hc; clear hc
  refine seqF (regF ?_)
  refine op_move rfl rfl ?_
  refine op_assign rfl rfl ?_
  refine endF (XF.thenN ?_)
  refine retF ?_
  refine XF.thenR ?_
  refine XF.res (res1 Try.results84 rfl) ?_
  exact ⟨rint (by unfold chkW; rw [if_neg hc11]), hS.below⟩
 ·have hc11 := of_decide_eq_false hc; clear hc
  have hse : spaceE s = 0 := by omega
  refine skipF ?_
  refine XF.thenN ?_
  refine seqF ?_
  refine seqF (regF ?_)
  refine op_move rfl rfl ?_
  refine op_len Try.underlying43 rfl rfl ?_
  refine op_move rfl rfl ?_
  refine endF (XF.thenN ?_)
  refine blockF ?_
  refine loopF (fun q l W => ∃ k : Nat, k ≤ 1 ∧ q = 1 - k ∧ l = [(2, .pointer (some ⟨B1, 0, none⟩)), (13, .slice (some ⟨b, 0, none⟩) 1 1), (14, .int .i64 1), (15, .int .i64 (k : Int))] ∧ (1 ≤ k → okW s x = true) ∧ St w [(B1, [.int .i64 s.f.tag, .int .i64 s.f.dim, .slice s.f.a s.f.len s.f.cap], 25)] [] [] W) (1 - 0) ([(2, _), (13, _), (14, _), (15, _)]) ⟨rfl, rfl, rfl, rfl, trivial⟩ (⟨0, Nat.zero_le _, rfl, rfl, fun h => by omega, hS.clear⟩) ?_
  clear hS
  rintro q l W ⟨k, hk1, rfl, rfl, hok, hS⟩
  refine seqF (regF ?_)
  refine op_lss rfl rfl rfl ?_
  refine endF (XF.thenN ?_)
  refine seqF ?_
  refine condF rfl (fun hc => ?_) (fun hc => ?_)
  ·have hc16 := of_decide_eq_true hc; clear hc
   obtain rfl : k = 0 := by omega
   have k1 := CellsAt.agree hS.agree (Nat.zero_le _) hb0
   refine skipF ?_
   refine XF.thenN ?_
   refine seqF ?_
   refine blockF ?_
   refine seqF (regF ?_)
   refine op_indexA  Try.underlying43 Try.sizeOf45 rfl rfl rfl (by omega) rfl rfl ?_
   refine op_loadA (vs := [_, _, _, _, _, _]) Try.isAgg45 Try.sizeOf45 rfl (by assumption) rfl ?_
   refine op_alloc (cs := [_, _, _, _, _, _]) hS Try.zeroValue45 rfl rfl ?_
   clear hS; intro B3 W3 hS
   refine op_storeA (i := 0) (vs := [_, _, _, _, _, _]) (cs' := [_, _, _, _, _, _]) (O' := [_, _]) hS Try.sizeOf45 rfl rfl rfl rfl rfl rfl rfl ?_
   clear hS; intro W4 hS
   refine endF (XF.thenN ?_)
   refine seqF (regF ?_)
   refine op_loadA (vs := [_, _, _]) Try.isAgg25 Try.sizeOf25 rfl (CellsAt.own (j := 0) (m := 3) (hS.at_ 1 rfl) rfl) rfl ?_
   refine op_loadA (vs := [_, _, _, _, _, _]) Try.isAgg45 Try.sizeOf45 rfl (CellsAt.own (j := 0) (m := 6) (hS.at_ 0 rfl) rfl) rfl ?_
   refine op_call (vs := [_, _]) hS goes_100 rfl (isA_genY (SIn.below hS.below hs) hse (WIn.below hS.below hx)) rfl ?_
   rintro e W5 ⟨rfl, hb⟩
   refine ⟨_, rfl, hb, fun hS' => ?_⟩
   clear hS; have hS := hS'; clear hS' hb
   refine op_not rfl rfl ?_
   refine endF (XF.thenN ?_)
   refine condF rfl (fun hc => ?_) (fun hc => ?_)
   ·have hc22 := hc; clear hc
    refine seqF (regF ?_)
    refine op_assign rfl rfl ?_
    refine endF (XF.thenN ?_)
    refine retF ?_
    refine XF.blkR ?_
    refine XF.thenR ?_
    refine XF.thenR ?_
    refine XF.blkR ?_
    refine XF.thenR ?_
    refine XF.res (res1 Try.results84 rfl) ?_
    exact ⟨rint (by unfold chkW; rw [if_pos hse, if_neg (by simpa using hc22)]), hS.below⟩
   ·have hc22 := hc; clear hc
    refine skipF ?_
    refine XF.blkN ?_
    refine XF.thenN ?_
    refine regF ?_
    refine op_add rfl rfl (IntWalk.i64_in _ (by omega)) rfl ?_
    refine op_move rfl rfl ?_
    refine endF ?_
    exact XF.round (1 - 1) [(2, _), (13, _), (14, _), (15, _)] (by omega) ⟨rfl, rfl, rfl, rfl, trivial⟩ ⟨1, by omega, rfl, rfl, fun _ => by simpa using hc22, hS.tail.clear⟩
  ·have hc16 := of_decide_eq_false hc; clear hc
   refine exitF ?_
   refine XF.thenX ?_
   refine XF.thenX ?_
   refine XF.blkX ?_
   refine XF.thenN ?_
   refine seqF (regF ?_)
   refine op_assign rfl rfl ?_
   refine endF (XF.thenN ?_)
   refine retF ?_
   refine XF.res (res1 Try.results84 rfl) ?_
   exact ⟨rint (by unfold chkW; rw [if_pos hse, if_pos (hok (by omega))]), hS.below⟩
theorem checkA_genY (ds da : Nat) (s : SV) (x : WV) (w : World) (hs : SIn w ds s) (hx : WIn w da x) :
  Calls Try.prog 58 #[s.f.val, x.f.val] w (fun e w' => e = .returned (.int .i64 (chkW s x)) ∧ Below w.heap.size w w') := by
 refine enterF (args := [s.f.val, x.f.val]) Try.func58 rfl Try.ntmps58 rfl ?_
 have hS := St.start w
 refine seqF (regF ?_)
 refine op_box (cs := [_, _, _]) hS rfl rfl rfl ?_
 clear hS; intro B1 W1 hS
 refine op_box (cs := [_, _, _, _, _, _]) hS rfl rfl rfl ?_
 clear hS; intro B2 W2 hS
 refine op_assign rfl rfl ?_
 refine endF (XF.thenN ?_)
 refine seqF (regF ?_)
 refine op_loadA (vs := [_, _, _]) Try.isAgg25 Try.sizeOf25 rfl (CellsAt.own (j := 0) (m := 3) (hS.at_ 1 rfl) rfl) rfl ?_
 refine op_loadA (vs := [_, _, _, _, _, _]) Try.isAgg45 Try.sizeOf45 rfl (CellsAt.own (j := 0) (m := 6) (hS.at_ 0 rfl) rfl) rfl ?_
 refine op_buildSlice (us := [(0, .agg (List.toArray [_, _, _, _, _, _]))]) hS Try.underlying43 Try.sizeOf45 Try.zeroValue45 rfl rfl rfl (bs_43_1 _ _ _ _ _ _) rfl ?_
 clear hS; intro B3 W3 hS
 refine op_call (vs := [_, _]) hS goes_84 rfl (checkAllW_oneY ds da s x _ (SIn.below hS.below hs) (WIn.below hS.below hx) _ (CellsAt.own (j := 0) (m := 6) (hS.at_ 0 rfl) rfl)) rfl ?_
 rintro e W4 ⟨rfl, hb⟩
 refine ⟨_, rfl, hb, fun hS' => ?_⟩
 clear hS; have hS := hS'; clear hS' hb
 refine op_assign rfl rfl ?_
 refine endF (XF.thenN ?_)
 refine retF ?_
 refine XF.res (res1 Try.results58 rfl) ?_
 exact ⟨rfl, hS.below⟩
theorem isState_is (P0 : PV) (n : Int) (w : World) :
  Calls Try.prog 82 #[P0.val, .int .i64 n] w (fun e w' => e = .returned (.bool (inQ n P0.st)) ∧ Below w.heap.size w w') := by
 refine enterF (args := [P0.val, .int .i64 n]) Try.func82 rfl Try.ntmps82 rfl ?_
 have hS := St.start w
 refine seqF (regF ?_)
 refine op_box (cs := [_, _, _, _, _, _]) hS rfl rfl rfl ?_
 clear hS; intro B1 W1 hS
 refine op_assign rfl rfl ?_
 refine endF (XF.thenN ?_)
 refine seqF (regF ?_)
 refine op_move rfl rfl ?_
 refine op_geq rfl rfl rfl ?_
 refine op_move rfl rfl ?_
 refine op_cases (d := 7) rfl (fun hc => ?_) (fun hc => ?_)
 ·have hg7 := of_decide_eq_true hc; clear hc
  refine op_wantedF (d := 7) rfl rfl ?_
  refine op_move rfl rfl ?_
  refine op_wantedF (d := 7) rfl rfl ?_
  refine op_field (o' := 3) fa_28_1 rfl rfl rfl ?_
  refine op_wantedF (d := 7) rfl rfl ?_
  refine op_load Try.isAgg3 rfl (cell_own (hS.at_ 0 rfl) rfl) rfl ?_
  refine op_wantedF (d := 7) rfl rfl ?_
  refine op_lss rfl rfl rfl ?_
  refine op_pickT rfl rfl rfl ?_
  refine op_assign rfl rfl ?_
  refine endF (XF.thenN ?_)
  refine retF ?_
  refine XF.res (res1 Try.results82 rfl) ?_
  exact ⟨rbool (by simp [inQ, show 0 ≤ n from hg7]), hS.below⟩
 ·have hg7 := of_decide_eq_false hc; clear hc
  refine op_notF (d := 7) rfl rfl rfl rfl ?_
  refine op_notF (d := 7) rfl rfl rfl rfl ?_
  refine op_notF (d := 7) rfl rfl rfl rfl ?_
  refine op_notF (d := 7) rfl rfl rfl rfl ?_
  refine op_pickF rfl rfl rfl ?_
  refine op_assign rfl rfl ?_
  refine endF (XF.thenN ?_)
  refine retF ?_
  refine XF.res (res1 Try.results82 rfl) ?_
  exact ⟨rbool (by simp [inQ]; omega), hS.below⟩
theorem isSymbol_is (P0 : PV) (n : Int) (w : World) :
  Calls Try.prog 83 #[P0.val, .int .i64 n] w (fun e w' => e = .returned (.bool (inQ n P0.sy)) ∧ Below w.heap.size w w') := by
 refine enterF (args := [P0.val, .int .i64 n]) Try.func83 rfl Try.ntmps83 rfl ?_
 have hS := St.start w
 refine seqF (regF ?_)
 refine op_box (cs := [_, _, _, _, _, _]) hS rfl rfl rfl ?_
 clear hS; intro B1 W1 hS
 refine op_assign rfl rfl ?_
 refine endF (XF.thenN ?_)
 refine seqF (regF ?_)
 refine op_move rfl rfl ?_
 refine op_geq rfl rfl rfl ?_
 refine op_move rfl rfl ?_
 refine op_cases (d := 7) rfl (fun hc => ?_) (fun hc => ?_)
 ·have hg7 := of_decide_eq_true hc; clear hc
  refine op_wantedF (d := 7) rfl rfl ?_
  refine op_move rfl rfl ?_
  refine op_wantedF (d := 7) rfl rfl ?_
  refine op_field (o' := 4) fa_28_2 rfl rfl rfl ?_
  refine op_wantedF (d := 7) rfl rfl ?_
  refine op_load Try.isAgg3 rfl (cell_own (hS.at_ 0 rfl) rfl) rfl ?_
  refine op_wantedF (d := 7) rfl rfl ?_
  refine op_lss rfl rfl rfl ?_
  refine op_pickT rfl rfl rfl ?_
  refine op_assign rfl rfl ?_
  refine endF (XF.thenN ?_)
  refine retF ?_
  refine XF.res (res1 Try.results83 rfl) ?_
  exact ⟨rbool (by simp [inQ, show 0 ≤ n from hg7]), hS.below⟩
 ·have hg7 := of_decide_eq_false hc; clear hc
  refine op_notF (d := 7) rfl rfl rfl rfl ?_
  refine op_notF (d := 7) rfl rfl rfl rfl ?_
  refine op_notF (d := 7) rfl rfl rfl rfl ?_
  refine op_notF (d := 7) rfl rfl rfl rfl ?_
  refine op_pickF rfl rfl rfl ?_
  refine op_assign rfl rfl ?_
  refine endF (XF.thenN ?_)
  refine retF ?_
  refine XF.res (res1 Try.results83 rfl) ?_
  exact ⟨rbool (by simp [inQ]; omega), hS.below⟩
theorem ruleA_c (P0 : PV) (p g q : Int) (wa : Option Addr) (wl wc : Nat) (ws : List Int) (x : WV) (w : World) (hrow : Row w wa ws) (hlen : ws.length = wl) :
  Calls Try.prog 57 #[P0.val, .agg #[.int .i64 p, .int .i64 g, .int .i64 q, .slice wa wl wc, .bool x.f.z, .int .i64 x.f.c, .int .u64 (x.f.g : Int), .slice x.f.ra x.f.rl x.f.rc, .slice x.f.ca x.f.cl x.f.cc, .slice x.f.pa x.f.pl x.f.pc]] w (fun e w' => e = .returned (.bool (ruleB P0.st P0.sy ⟨p, g, q, wa, wl, wc, ws, x⟩)) ∧ Below w.heap.size w w') := by
 refine enterF (args := [P0.val, .agg #[.int .i64 p, .int .i64 g, .int .i64 q, .slice wa wl wc, .bool x.f.z, .int .i64 x.f.c, .int .u64 (x.f.g : Int), .slice x.f.ra x.f.rl x.f.rc, .slice x.f.ca x.f.cl x.f.cc, .slice x.f.pa x.f.pl x.f.pc]]) Try.func57 rfl Try.ntmps57 rfl ?_
 have hS := St.start w
 refine seqF (regF ?_)
 refine op_box (cs := [_, _, _, _, _, _]) hS rfl rfl rfl ?_
 clear hS; intro B1 W1 hS
 refine op_box (cs := [_, _, _, _, _, _, _, _, _, _]) hS rfl rfl rfl ?_
 clear hS; intro B2 W2 hS
 refine op_assign rfl rfl ?_
 refine endF (XF.thenN ?_)
 refine seqF ?_
 refine seqF (regF ?_)
 refine op_loadA (vs := [_, _, _, _, _, _]) Try.isAgg28 Try.sizeOf28 rfl (CellsAt.own (j := 0) (m := 6) (hS.at_ 1 rfl) rfl) rfl ?_
 refine op_field (o' := 0) fa_47_0 rfl rfl rfl ?_
 refine op_load Try.isAgg3 rfl (cell_own (hS.at_ 0 rfl) rfl) rfl ?_
 refine op_call (vs := [_, _]) hS goes_82 rfl (isState_is P0 p _) rfl ?_
 rintro e W3 ⟨rfl, hb⟩
 refine ⟨_, rfl, hb, fun hS' => ?_⟩
 clear hS; have hS := hS'; clear hS' hb
 refine op_not rfl rfl ?_
 refine op_move rfl rfl ?_
 refine op_cases (d := 12) rfl (fun hc => ?_) (fun hc => ?_)
 ·have hg12 := hc; clear hc
  have e1 : inQ p P0.st = false := by simpa using hg12
  refine op_notF (d := 12) rfl rfl rfl rfl ?_
  refine op_notF (d := 12) rfl rfl rfl rfl ?_
  refine op_notF (d := 12) rfl rfl rfl rfl ?_
  refine op_notF (d := 12) rfl rfl rfl rfl ?_
  refine op_notF (d := 12) rfl rfl rfl rfl ?_
  refine op_pickT rfl rfl rfl ?_
  refine op_move rfl rfl ?_
  refine op_notF (d := 19) rfl rfl rfl rfl ?_
  refine op_notF (d := 19) rfl rfl rfl rfl ?_
  refine op_notF (d := 19) rfl rfl rfl rfl ?_
  refine op_notF (d := 19) rfl rfl rfl rfl ?_
  refine op_notF (d := 19) rfl rfl rfl rfl ?_
  refine op_pickT rfl rfl rfl ?_
  refine op_move rfl rfl ?_
  refine op_notF (d := 26) rfl rfl rfl rfl ?_
  refine op_notF (d := 26) rfl rfl rfl rfl ?_
  refine op_notF (d := 26) rfl rfl rfl rfl ?_
  refine op_notF (d := 26) rfl rfl rfl rfl ?_
  refine op_pickT rfl rfl rfl ?_
  refine endF (XF.thenN ?_)
  refine condT rfl ?_
  refine seqF (regF ?_)
  refine op_assign rfl rfl ?_
  refine endF (XF.thenN ?_)
  refine retF ?_
  refine XF.thenR ?_
  refine XF.res (res1 Try.results57 rfl) ?_
  exact ⟨rbool (by simp [ruleB, e1]), hS.below⟩
 ·have hg12 := hc; clear hc
  have e1 : inQ p P0.st = true := by simpa using hg12
  refine op_wantedF (d := 12) rfl rfl ?_
  refine op_loadA (vs := [_, _, _, _, _, _]) Try.isAgg28 Try.sizeOf28 rfl (CellsAt.own (j := 0) (m := 6) (hS.at_ 1 rfl) rfl) rfl ?_
  refine op_wantedF (d := 12) rfl rfl ?_
  refine op_field (o' := 2) fa_47_2 rfl rfl rfl ?_
  refine op_wantedF (d := 12) rfl rfl ?_
  refine op_load Try.isAgg3 rfl (cell_own (hS.at_ 0 rfl) rfl) rfl ?_
  refine op_wantedF (d := 12) rfl rfl ?_
  refine op_call (vs := [_, _]) hS goes_82 rfl (isState_is P0 q _) rfl ?_
  rintro e W4 ⟨rfl, hb⟩
  refine ⟨_, rfl, hb, fun hS' => ?_⟩
  clear hS; have hS := hS'; clear hS' hb
  refine op_wantedF (d := 12) rfl rfl ?_
  refine op_not rfl rfl ?_
  refine op_pickF rfl rfl rfl ?_
  refine op_move rfl rfl ?_
  refine op_cases (d := 19) rfl (fun hc => ?_) (fun hc => ?_)
  ·have hg19 := hc; clear hc
   have e2 : inQ q P0.st = false := by simpa using hg19
   refine op_notF (d := 19) rfl rfl rfl rfl ?_
   refine op_notF (d := 19) rfl rfl rfl rfl ?_
   refine op_notF (d := 19) rfl rfl rfl rfl ?_
   refine op_notF (d := 19) rfl rfl rfl rfl ?_
   refine op_notF (d := 19) rfl rfl rfl rfl ?_
   refine op_pickT rfl rfl rfl ?_
   refine op_move rfl rfl ?_
   refine op_notF (d := 26) rfl rfl rfl rfl ?_
   refine op_notF (d := 26) rfl rfl rfl rfl ?_
   refine op_notF (d := 26) rfl rfl rfl rfl ?_
   refine op_notF (d := 26) rfl rfl rfl rfl ?_
   refine op_pickT rfl rfl rfl ?_
   refine endF (XF.thenN ?_)
   refine condT rfl ?_
   refine seqF (regF ?_)
   refine op_assign rfl rfl ?_
   refine endF (XF.thenN ?_)
   refine retF ?_
   refine XF.thenR ?_
   refine XF.res (res1 Try.results57 rfl) ?_
   exact ⟨rbool (by simp [ruleB, e1, e2]), hS.below⟩
  ·have hg19 := hc; clear hc
   have e2 : inQ q P0.st = true := by simpa using hg19
   refine op_wantedF (d := 19) rfl rfl ?_
   refine op_loadA (vs := [_, _, _, _, _, _]) Try.isAgg28 Try.sizeOf28 rfl (CellsAt.own (j := 0) (m := 6) (hS.at_ 1 rfl) rfl) rfl ?_
   refine op_wantedF (d := 19) rfl rfl ?_
   refine op_field (o' := 1) fa_47_1 rfl rfl rfl ?_
   refine op_wantedF (d := 19) rfl rfl ?_
   refine op_load Try.isAgg3 rfl (cell_own (hS.at_ 0 rfl) rfl) rfl ?_
   refine op_wantedF (d := 19) rfl rfl ?_
   refine op_call (vs := [_, _]) hS goes_83 rfl (isSymbol_is P0 g _) rfl ?_
   rintro e W5 ⟨rfl, hb⟩
   refine ⟨_, rfl, hb, fun hS' => ?_⟩
   clear hS; have hS := hS'; clear hS' hb
   refine op_wantedF (d := 19) rfl rfl ?_
   refine op_not rfl rfl ?_
   refine op_pickF rfl rfl rfl ?_
   refine op_move rfl rfl ?_
   refine op_cases (d := 26) rfl (fun hc => ?_) (fun hc => ?_)
   ·have hg26 := hc; clear hc
    have e3 : inQ g P0.sy = false := by simpa using hg26
    refine op_notF (d := 26) rfl rfl rfl rfl ?_
    refine op_notF (d := 26) rfl rfl rfl rfl ?_
    refine op_notF (d := 26) rfl rfl rfl rfl ?_
    refine op_notF (d := 26) rfl rfl rfl rfl ?_
    refine op_pickT rfl rfl rfl ?_
    refine endF (XF.thenN ?_)
    refine condT rfl ?_
    refine seqF (regF ?_)
    refine op_assign rfl rfl ?_
    refine endF (XF.thenN ?_)
    refine retF ?_
    refine XF.thenR ?_
    refine XF.res (res1 Try.results57 rfl) ?_
    exact ⟨rbool (by simp [ruleB, e1, e2, e3]), hS.below⟩
   ·have hg26 := hc; clear hc
    have e3 : inQ g P0.sy = true := by simpa using hg26
    refine op_wantedF (d := 26) rfl rfl ?_
    refine op_field (o' := 3) fa_47_3 rfl rfl rfl ?_
    refine op_wantedF (d := 26) rfl rfl ?_
    refine op_load Try.isAgg29 rfl (cell_own (hS.at_ 0 rfl) rfl) rfl ?_
    refine op_wantedF (d := 26) rfl rfl ?_
    refine op_len Try.underlying29 rfl rfl ?_
    refine op_wantedF (d := 26) rfl rfl ?_
    refine op_gtr rfl rfl rfl ?_
    refine op_pickF rfl rfl rfl ?_
    refine endF (XF.thenN ?_)
    refine condF rfl (fun hc => ?_) (fun hc => ?_)
    ·have hc31 := of_decide_eq_true hc; clear hc
     have e4 : decide (wl ≤ 4096) = false := by simp; omega
     refine seqF (regF ?_)
     refine op_assign rfl rfl ?_
     refine endF (XF.thenN ?_)
     refine retF ?_
     refine XF.thenR ?_
     refine XF.res (res1 Try.results57 rfl) ?_
     exact ⟨rbool (by simp [ruleB, e1, e2, e3, e4]), hS.below⟩
    ·have hc31 := of_decide_eq_false hc; clear hc
     have e4 : decide (wl ≤ 4096) = true := by simp; omega
     refine skipF ?_
     refine XF.thenN ?_
     refine seqF ?_
     refine seqF (regF ?_)
     refine op_field (o' := 3) fa_47_3 rfl rfl rfl ?_
     refine op_load Try.isAgg29 rfl (cell_own (hS.at_ 0 rfl) rfl) rfl ?_
     refine op_len Try.underlying29 rfl rfl ?_
     refine op_move rfl rfl ?_
     refine endF (XF.thenN ?_)
     refine blockF ?_
     refine loopF (fun m l W => ∃ i : Nat, i ≤ wl ∧ m = wl - i ∧ l = [(2, .pointer (some ⟨B1, 0, none⟩)), (33, .slice wa wl wc), (34, .int .i64 (wl : Int)), (35, .int .i64 (i : Int))] ∧ (ws.take i).all (fun y => inQ y P0.sy) = true ∧ St w [(B2, [.int .i64 p, .int .i64 g, .int .i64 q, .slice wa wl wc, .bool x.f.z, .int .i64 x.f.c, .int .u64 (x.f.g : Int), .slice x.f.ra x.f.rl x.f.rc, .slice x.f.ca x.f.cl x.f.cc, .slice x.f.pa x.f.pl x.f.pc], 47), (B1, P0.six, 28)] [] [] W) (wl - 0) ([(2, _), (33, _), (34, _), (35, _)]) ⟨rfl, rfl, rfl, rfl, trivial⟩ (⟨0, Nat.zero_le _, rfl, rfl, rfl, hS.clear⟩) ?_
     clear hS
     rintro m l W ⟨i, hi, rfl, rfl, hall, hS⟩
     refine seqF (regF ?_)
     refine op_lss rfl rfl rfl ?_
     refine endF (XF.thenN ?_)
     refine seqF ?_
     refine condF rfl (fun hc => ?_) (fun hc => ?_)
     ·have hc36 := of_decide_eq_true hc; clear hc
      have hk : i < wl := by omega
      obtain ⟨b, off, y, rfl, hy, hyc⟩ := hrow.at1 (show i < ws.length by omega)
      have k1 := hS.old hyc
      refine skipF ?_
      refine XF.thenN ?_
      refine seqF ?_
      refine blockF ?_
      refine seqF (regF ?_)
      refine op_indexA  Try.underlying29 Try.sizeOf3 rfl rfl rfl (by omega) rfl rfl ?_
      refine op_load Try.isAgg3 rfl (by first | assumption | exact hS.old (by assumption)) rfl ?_
      refine op_assign rfl rfl ?_
      refine endF (XF.thenN ?_)
      refine seqF (regF ?_)
      refine op_loadA (vs := [_, _, _, _, _, _]) Try.isAgg28 Try.sizeOf28 rfl (CellsAt.own (j := 0) (m := 6) (hS.at_ 1 rfl) rfl) rfl ?_
      refine op_move rfl rfl ?_
      refine op_call (vs := [_, _]) hS goes_83 rfl (isSymbol_is P0 y _) rfl ?_
      rintro e W6 ⟨rfl, hb⟩
      refine ⟨_, rfl, hb, fun hS' => ?_⟩
      clear hS; have hS := hS'; clear hS' hb
      refine op_not rfl rfl ?_
      refine endF (XF.thenN ?_)
      refine condF rfl (fun hc => ?_) (fun hc => ?_)
      ·have hc42 := hc; clear hc
       refine seqF (regF ?_)
       refine op_assign rfl rfl ?_
       refine endF (XF.thenN ?_)
       refine retF ?_
       refine XF.blkR ?_
       refine XF.thenR ?_
       refine XF.thenR ?_
       refine XF.blkR ?_
       refine XF.thenR ?_
       refine XF.res (res1 Try.results57 rfl) ?_
       exact ⟨rbool (by simp only [ruleB]; rw [all_false_at hy (by simpa using hc42)]; simp), hS.below⟩
      ·have hc42 := hc; clear hc
       refine skipF ?_
       refine XF.blkN ?_
       refine XF.thenN ?_
       refine regF ?_
       refine op_add rfl rfl (IntWalk.i64_in _ (by omega)) rfl ?_
       refine op_move rfl rfl ?_
       refine endF ?_
       exact XF.round (wl - (i + 1)) [(2, _), (33, _), (34, _), (35, _)] (by omega) ⟨rfl, rfl, rfl, rfl, trivial⟩ ⟨i + 1, by omega, rfl, rfl, all_take_at hy hall (by simpa using hc42), hS.clear⟩
     ·have hc36 := of_decide_eq_false hc; clear hc
      refine exitF ?_
      refine XF.thenX ?_
      refine XF.thenX ?_
      refine XF.blkX ?_
      refine XF.thenN ?_
      refine seqF (regF ?_)
      refine op_assign rfl rfl ?_
      refine endF (XF.thenN ?_)
      refine retF ?_
      refine XF.res (res1 Try.results57 rfl) ?_
      rw [List.take_of_length_le (by omega)] at hall
      exact ⟨rbool (by simp [ruleB, e1, e2, e3, e4, hall]), hS.below⟩
theorem ruleA_is {w : World} {d : Nat} (P0 : PV) {r : RV} (h : RIn w d r) : Calls Try.prog 57 #[P0.val, r.val] w (fun e w' => e = .returned (.bool (ruleB P0.st P0.sy r)) ∧ Below w.heap.size w w') := ruleA_c P0 _ _ _ _ _ _ _ _ w h.row h.len
end Go.Proofs.Ytpkcaabbcoiiiaa
namespace Go.Proofs.Ytpkcaabbcoiiiaa
open Go Go.RowKit
theorem pdsA_c (ds d : Nat) (s : SV) (st sy : Int) (ra : Option Addr) (rl rc : Nat) (rs : List RV) (w : World) (hs : SIn w ds s) (hrow : RRow w ra rs) (hlen : rs.length = rl) (hin : ∀ r ∈ rs, RIn w d r) :
  Calls Try.prog 30 #[.agg #[.int .i64 s.f.tag, .int .i64 s.f.dim, .slice s.f.a s.f.len s.f.cap, .int .i64 st, .int .i64 sy, .slice ra rl rc]] w (fun e w' => e = .returned (.int .i64 (pdsE ⟨s, st, sy, ra, rl, rc, rs⟩)) ∧ Below w.heap.size w w') := by
 refine enterF (args := [.agg #[.int .i64 s.f.tag, .int .i64 s.f.dim, .slice s.f.a s.f.len s.f.cap, .int .i64 st, .int .i64 sy, .slice ra rl rc]]) Try.func30 rfl Try.ntmps30 rfl ?_
 have hS := St.start w
 refine seqF (regF ?_)
 refine op_box (cs := [_, _, _, _, _, _]) hS rfl rfl rfl ?_
 clear hS; intro B1 W1 hS
 refine op_assign rfl rfl ?_
 refine endF (XF.thenN ?_)
 refine seqF ?_
 refine seqF (regF ?_)
 refine op_field (o' := 0) fa_28_0 rfl rfl rfl ?_
 refine op_loadA (vs := [_, _, _]) Try.isAgg25 Try.sizeOf25 rfl (CellsAt.own (j := 0) (m := 3) (hS.at_ 0 rfl) rfl) rfl ?_
 refine op_call (vs := [_]) hS goes_56 rfl (spaceA_is ds s _ _ (SIn.below hS.below hs) rfl) rfl ?_
 rintro e W2 ⟨rfl, hb⟩
 refine ⟨_, rfl, hb, fun hS' => ?_⟩
 clear hS; have hS := hS'; clear hS' hb
 refine op_assign rfl rfl ?_
 refine endF (XF.thenN ?_)
 refine seqF (regF ?_)
 refine op_move rfl rfl ?_
 refine op_neq rfl rfl rfl ?_
 refine endF (XF.thenN ?_)
 refine condF rfl (fun hc => ?_) (fun hc => ?_)
 ·have hc13 := of_decide_eq_true hc; clear hc
  refine seqF (regF ?_)
  refine op_move rfl rfl ?_
  refine op_assign rfl rfl ?_
  refine endF (XF.thenN ?_)
  refine retF ?_
  refine XF.thenR ?_
  refine XF.res (res1 Try.results30 rfl) ?_
  exact ⟨rint (by simp only [pdsE]; rw [if_pos hc13]), hS.below⟩
 ·have hc13 := of_decide_eq_false hc; clear hc
  have h0 : ¬ spaceE s ≠ 0 := hc13
  refine skipF ?_
  refine XF.thenN ?_
  refine seqF ?_
  refine seqF (regF ?_)
  refine op_field (o' := 5) fa_28_3 rfl rfl rfl ?_
  refine op_load Try.isAgg26 rfl (cell_own (hS.at_ 0 rfl) rfl) rfl ?_
  refine op_len Try.underlying26 rfl rfl ?_
  refine op_gtr rfl rfl rfl ?_
  refine endF (XF.thenN ?_)
  refine condF rfl (fun hc => ?_) (fun hc => ?_)
  ·have hc18 := of_decide_eq_true hc; clear hc
   refine seqF (regF ?_)
   refine op_assign rfl rfl ?_
   refine endF (XF.thenN ?_)
   refine retF ?_
   refine XF.thenR ?_
   refine XF.res (res1 Try.results30 rfl) ?_
   exact ⟨rint (by simp only [pdsE]; rw [if_neg h0, if_pos (by omega)]), hS.below⟩
  ·have hc18 := of_decide_eq_false hc; clear hc
   have h1 : ¬ 16384 < rl := by omega
   refine skipF ?_
   refine XF.thenN ?_
   refine seqF ?_
   refine seqF (regF ?_)
   refine op_field (o' := 3) fa_28_1 rfl rfl rfl ?_
   refine op_load Try.isAgg3 rfl (cell_own (hS.at_ 0 rfl) rfl) rfl ?_
   refine op_lss rfl rfl rfl ?_
   refine op_move rfl rfl ?_
   refine op_cases (d := 22) rfl (fun hc => ?_) (fun hc => ?_)
   ·have hg22 := of_decide_eq_true hc; clear hc
    refine op_notF (d := 22) rfl rfl rfl rfl ?_
    refine op_notF (d := 22) rfl rfl rfl rfl ?_
    refine op_notF (d := 22) rfl rfl rfl rfl ?_
    refine op_pickT rfl rfl rfl ?_
    refine op_move rfl rfl ?_
    refine op_notF (d := 27) rfl rfl rfl rfl ?_
    refine op_notF (d := 27) rfl rfl rfl rfl ?_
    refine op_notF (d := 27) rfl rfl rfl rfl ?_
    refine op_pickT rfl rfl rfl ?_
    refine op_move rfl rfl ?_
    refine op_notF (d := 32) rfl rfl rfl rfl ?_
    refine op_notF (d := 32) rfl rfl rfl rfl ?_
    refine op_notF (d := 32) rfl rfl rfl rfl ?_
    refine op_pickT rfl rfl rfl ?_
    refine endF (XF.thenN ?_)
    refine condT rfl ?_
    refine seqF (regF ?_)
    refine op_assign rfl rfl ?_
    refine endF (XF.thenN ?_)
    refine retF ?_
    refine XF.thenR ?_
    refine XF.res (res1 Try.results30 rfl) ?_
    exact ⟨rint (by simp only [pdsE]; rw [if_neg h0, if_neg h1, if_pos (by omega)]), hS.below⟩
   ·have hg22 := of_decide_eq_false hc; clear hc
    refine op_wantedF (d := 22) rfl rfl ?_
    refine op_field (o' := 3) fa_28_1 rfl rfl rfl ?_
    refine op_wantedF (d := 22) rfl rfl ?_
    refine op_load Try.isAgg3 rfl (cell_own (hS.at_ 0 rfl) rfl) rfl ?_
    refine op_wantedF (d := 22) rfl rfl ?_
    refine op_gtr rfl rfl rfl ?_
    refine op_pickF rfl rfl rfl ?_
    refine op_move rfl rfl ?_
    refine op_cases (d := 27) rfl (fun hc => ?_) (fun hc => ?_)
    ·have hg27 := of_decide_eq_true hc; clear hc
     refine op_notF (d := 27) rfl rfl rfl rfl ?_
     refine op_notF (d := 27) rfl rfl rfl rfl ?_
     refine op_notF (d := 27) rfl rfl rfl rfl ?_
     refine op_pickT rfl rfl rfl ?_
     refine op_move rfl rfl ?_
     refine op_notF (d := 32) rfl rfl rfl rfl ?_
     refine op_notF (d := 32) rfl rfl rfl rfl ?_
     refine op_notF (d := 32) rfl rfl rfl rfl ?_
     refine op_pickT rfl rfl rfl ?_
     refine endF (XF.thenN ?_)
     refine condT rfl ?_
     refine seqF (regF ?_)
     refine op_assign rfl rfl ?_
     refine endF (XF.thenN ?_)
     refine retF ?_
     refine XF.thenR ?_
     refine XF.res (res1 Try.results30 rfl) ?_
     exact ⟨rint (by simp only [pdsE]; rw [if_neg h0, if_neg h1, if_pos (by omega)]), hS.below⟩
    ·have hg27 := of_decide_eq_false hc; clear hc
     refine op_wantedF (d := 27) rfl rfl ?_
     refine op_field (o' := 4) fa_28_2 rfl rfl rfl ?_
     refine op_wantedF (d := 27) rfl rfl ?_
     refine op_load Try.isAgg3 rfl (cell_own (hS.at_ 0 rfl) rfl) rfl ?_
     refine op_wantedF (d := 27) rfl rfl ?_
     refine op_lss rfl rfl rfl ?_
     refine op_pickF rfl rfl rfl ?_
     refine op_move rfl rfl ?_
     refine op_cases (d := 32) rfl (fun hc => ?_) (fun hc => ?_)
     ·have hg32 := of_decide_eq_true hc; clear hc
      refine op_notF (d := 32) rfl rfl rfl rfl ?_
      refine op_notF (d := 32) rfl rfl rfl rfl ?_
      refine op_notF (d := 32) rfl rfl rfl rfl ?_
      refine op_pickT rfl rfl rfl ?_
      refine endF (XF.thenN ?_)
      refine condT rfl ?_
      refine seqF (regF ?_)
      refine op_assign rfl rfl ?_
      refine endF (XF.thenN ?_)
      refine retF ?_
      refine XF.thenR ?_
      refine XF.res (res1 Try.results30 rfl) ?_
      exact ⟨rint (by simp only [pdsE]; rw [if_neg h0, if_neg h1, if_pos (by omega)]), hS.below⟩
     ·have hg32 := of_decide_eq_false hc; clear hc
      refine op_wantedF (d := 32) rfl rfl ?_
      refine op_field (o' := 4) fa_28_2 rfl rfl rfl ?_
      refine op_wantedF (d := 32) rfl rfl ?_
      refine op_load Try.isAgg3 rfl (cell_own (hS.at_ 0 rfl) rfl) rfl ?_
      refine op_wantedF (d := 32) rfl rfl ?_
      refine op_gtr rfl rfl rfl ?_
      refine op_pickF rfl rfl rfl ?_
      refine endF (XF.thenN ?_)
      refine condF rfl (fun hc => ?_) (fun hc => ?_)
      ·have hc36 := of_decide_eq_true hc; clear hc
       refine seqF (regF ?_)
       refine op_assign rfl rfl ?_
       refine endF (XF.thenN ?_)
       refine retF ?_
       refine XF.thenR ?_
       refine XF.res (res1 Try.results30 rfl) ?_
       exact ⟨rint (by simp only [pdsE]; rw [if_neg h0, if_neg h1, if_pos (by omega)]), hS.below⟩
      ·have hc36 := of_decide_eq_false hc; clear hc
       have h2 : ¬ (st < 0 ∨ 4096 < st ∨ sy < 0 ∨ 4096 < sy) := by omega
       refine skipF ?_
       refine XF.thenN ?_
       refine seqF ?_
       refine seqF (regF ?_)
       refine op_field (o' := 5) fa_28_3 rfl rfl rfl ?_
       refine op_load Try.isAgg26 rfl (cell_own (hS.at_ 0 rfl) rfl) rfl ?_
       refine op_len Try.underlying26 rfl rfl ?_
       refine op_move rfl rfl ?_
       refine endF (XF.thenN ?_)
       refine blockF ?_
       refine loopF (fun m l W => ∃ i : Nat, i ≤ rl ∧ m = rl - i ∧ l = [(1, .pointer (some ⟨B1, 0, none⟩)), (38, .slice ra rl rc), (39, .int .i64 (rl : Int)), (40, .int .i64 (i : Int))] ∧ (rs.take i).all (ruleB st sy) = true ∧ St w [(B1, [.int .i64 s.f.tag, .int .i64 s.f.dim, .slice s.f.a s.f.len s.f.cap, .int .i64 st, .int .i64 sy, .slice ra rl rc], 28)] [] [] W) (rl - 0) ([(1, _), (38, _), (39, _), (40, _)]) ⟨rfl, rfl, rfl, rfl, trivial⟩ (⟨0, Nat.zero_le _, rfl, rfl, rfl, hS.clear⟩) ?_
       clear hS
       rintro m l W ⟨i, hi, rfl, rfl, hall, hS⟩
       refine seqF (regF ?_)
       refine op_lss rfl rfl rfl ?_
       refine endF (XF.thenN ?_)
       refine seqF ?_
       refine condF rfl (fun hc => ?_) (fun hc => ?_)
       ·have hc41 := of_decide_eq_true hc; clear hc
        have hk : i < rl := by omega
        obtain ⟨r, hr⟩ : ∃ r, rs[i]? = some r := ⟨rs[i]'(by omega), by simp [show i < rs.length by omega]⟩
        obtain ⟨b, off, rfl, hcs⟩ := hrow.at_ hr
        have k1 := CellsAt.agree hS.agree (Nat.zero_le _) hcs
        have k2 := k1.2.2.2.2
        have hri := hin r (List.mem_of_getElem? hr)
        refine skipF ?_
        refine XF.thenN ?_
        refine seqF ?_
        refine blockF ?_
        refine seqF (regF ?_)
        refine op_indexA  Try.underlying26 Try.sizeOf47 rfl rfl rfl (by omega) rfl rfl ?_
        refine op_loadA (vs := [_, _, _, _, _, _, _, _, _, _]) Try.isAgg47 Try.sizeOf47 rfl (by assumption) rfl ?_
        refine op_alloc (cs := [_, _, _, _, _, _, _, _, _, _]) hS Try.zeroValue47 rfl rfl ?_
        clear hS; intro B3 W3 hS
        refine op_storeA (i := 0) (vs := [_, _, _, _, _, _, _, _, _, _]) (cs' := [_, _, _, _, _, _, _, _, _, _]) (O' := [_, _]) hS Try.sizeOf47 rfl rfl rfl rfl rfl rfl rfl ?_
        clear hS; intro W4 hS
        refine endF (XF.thenN ?_)
        refine seqF (regF ?_)
        refine op_loadA (vs := [_, _, _, _, _, _]) Try.isAgg28 Try.sizeOf28 rfl (CellsAt.own (j := 0) (m := 6) (hS.at_ 1 rfl) rfl) rfl ?_
        refine op_loadA (vs := [_, _, _, _, _, _, _, _, _, _]) Try.isAgg47 Try.sizeOf47 rfl (CellsAt.own (j := 0) (m := 10) (hS.at_ 0 rfl) rfl) rfl ?_
        refine op_call (vs := [_, _]) hS goes_57 rfl (ruleA_is ⟨s, st, sy, _, rl, rc, rs⟩ (hri.below hS.below)) rfl ?_
        rintro e W5 ⟨rfl, hb⟩
        refine ⟨_, rfl, hb, fun hS' => ?_⟩
        clear hS; have hS := hS'; clear hS' hb
        refine op_not rfl rfl ?_
        refine endF (XF.thenN ?_)
        refine condF rfl (fun hc => ?_) (fun hc => ?_)
        ·have hc47 := hc; clear hc
         refine seqF (regF ?_)
         refine op_assign rfl rfl ?_
         refine endF (XF.thenN ?_)
         refine retF ?_
         refine XF.blkR ?_
         refine XF.thenR ?_
         refine XF.thenR ?_
         refine XF.blkR ?_
         refine XF.thenR ?_
         refine XF.res (res1 Try.results30 rfl) ?_
         exact ⟨rint (by simp only [pdsE]; rw [if_neg h0, if_neg h1, if_neg h2, if_neg (by rw [all_false_at hr (by simpa using hc47)]; simp)]), hS.below⟩
        ·have hc47 := hc; clear hc
         refine skipF ?_
         refine XF.blkN ?_
         refine XF.thenN ?_
         refine regF ?_
         refine op_add rfl rfl (IntWalk.i64_in _ (by omega)) rfl ?_
         refine op_move rfl rfl ?_
         refine endF ?_
         exact XF.round (rl - (i + 1)) [(1, _), (38, _), (39, _), (40, _)] (by omega) ⟨rfl, rfl, rfl, rfl, trivial⟩ ⟨i + 1, by omega, rfl, rfl, all_take_at hr hall (by simpa using hc47), hS.tail.clear⟩
       ·have hc41 := of_decide_eq_false hc; clear hc
        rw [List.take_of_length_le (by omega)] at hall
        refine exitF ?_
        refine XF.thenX ?_
        refine XF.thenX ?_
        refine XF.blkX ?_
        refine XF.thenN ?_
        refine seqF ?_
        refine seqF (regF ?_)
        refine op_field (o' := 5) fa_28_3 rfl rfl rfl ?_
        refine op_load Try.isAgg26 rfl (cell_own (hS.at_ 0 rfl) rfl) rfl ?_
        refine op_len Try.underlying26 rfl rfl ?_
        refine op_move rfl rfl ?_
        refine endF (XF.thenN ?_)
        refine blockF ?_
        refine loopF (fun m l W => ∃ i : Nat, i ≤ rl ∧ m = rl - i ∧ l = [(1, .pointer (some ⟨B1, 0, none⟩)), (50, .slice ra rl rc), (51, .int .i64 (rl : Int)), (52, .int .i64 (i : Int))] ∧ (rs.take i).all (fun r => decide (chkW s r.x = 0)) = true ∧ St w [(B1, [.int .i64 s.f.tag, .int .i64 s.f.dim, .slice s.f.a s.f.len s.f.cap, .int .i64 st, .int .i64 sy, .slice ra rl rc], 28)] [] [] W) (rl - 0) ([(1, _), (50, _), (51, _), (52, _)]) ⟨rfl, rfl, rfl, rfl, trivial⟩ (⟨0, Nat.zero_le _, rfl, rfl, rfl, hS.clear⟩) ?_
        clear hS
        rintro m l W ⟨i, hi, rfl, rfl, hall2, hS⟩
        refine seqF (regF ?_)
        refine op_lss rfl rfl rfl ?_
        refine endF (XF.thenN ?_)
        refine seqF ?_
        refine condF rfl (fun hc => ?_) (fun hc => ?_)
        ·have hc53 := of_decide_eq_true hc; clear hc
         have hk : i < rl := by omega
         obtain ⟨r, hr⟩ : ∃ r, rs[i]? = some r := ⟨rs[i]'(by omega), by simp [show i < rs.length by omega]⟩
         obtain ⟨b, off, rfl, hcs⟩ := hrow.at_ hr
         have k1 := CellsAt.agree hS.agree (Nat.zero_le _) hcs
         have k2 := k1.2.2.2.2
         have hri := hin r (List.mem_of_getElem? hr)
         refine skipF ?_
         refine XF.thenN ?_
         refine seqF ?_
         refine blockF ?_
         refine seqF (regF ?_)
         refine op_indexA  Try.underlying26 Try.sizeOf47 rfl rfl rfl (by omega) rfl rfl ?_
         refine op_loadA (vs := [_, _, _, _, _, _, _, _, _, _]) Try.isAgg47 Try.sizeOf47 rfl (by assumption) rfl ?_
         refine op_alloc (cs := [_, _, _, _, _, _, _, _, _, _]) hS Try.zeroValue47 rfl rfl ?_
         clear hS; intro B6 W6 hS
         refine op_storeA (i := 0) (vs := [_, _, _, _, _, _, _, _, _, _]) (cs' := [_, _, _, _, _, _, _, _, _, _]) (O' := [_, _]) hS Try.sizeOf47 rfl rfl rfl rfl rfl rfl rfl ?_
         clear hS; intro W7 hS
         refine endF (XF.thenN ?_)
         refine seqF (regF ?_)
         refine op_field (o' := 0) fa_28_0 rfl rfl rfl ?_
         refine op_loadA (vs := [_, _, _]) Try.isAgg25 Try.sizeOf25 rfl (CellsAt.own (j := 0) (m := 3) (hS.at_ 1 rfl) rfl) rfl ?_
         refine op_field (o' := 4) fa_47_4 rfl rfl rfl ?_
         refine op_loadA (vs := [_, _, _, _, _, _]) Try.isAgg45 Try.sizeOf45 rfl (CellsAt.own (j := 4) (m := 6) (hS.at_ 0 rfl) rfl) rfl ?_
         refine op_call (vs := [_, _]) hS goes_58 rfl (checkA_genY ds d s r.x _ (SIn.below hS.below hs) (WIn.below hS.below hri.x)) rfl ?_
         rintro e W8 ⟨rfl, hb⟩
         refine ⟨_, rfl, hb, fun hS' => ?_⟩
         clear hS; have hS := hS'; clear hS' hb
         refine op_assign rfl rfl ?_
         refine endF (XF.thenN ?_)
         refine seqF (regF ?_)
         refine op_move rfl rfl ?_
         refine op_neq rfl rfl rfl ?_
         refine endF (XF.thenN ?_)
         refine condF rfl (fun hc => ?_) (fun hc => ?_)
         ·have hc62 := of_decide_eq_true hc; clear hc
          refine seqF (regF ?_)
          refine op_move rfl rfl ?_
          refine op_assign rfl rfl ?_
          refine endF (XF.thenN ?_)
          refine retF ?_
          refine XF.blkR ?_
          refine XF.thenR ?_
          refine XF.thenR ?_
          refine XF.blkR ?_
          refine XF.thenR ?_
          refine XF.res (res1 Try.results30 rfl) ?_
          exact ⟨rint (by simp only [pdsE]; rw [if_neg h0, if_neg h1, if_neg h2, if_pos hall, wtE_at hr hall2 hc62]), hS.below⟩
         ·have hc62 := of_decide_eq_false hc; clear hc
          refine skipF ?_
          refine XF.blkN ?_
          refine XF.thenN ?_
          refine regF ?_
          refine op_add rfl rfl (IntWalk.i64_in _ (by omega)) rfl ?_
          refine op_move rfl rfl ?_
          refine endF ?_
          exact XF.round (rl - (i + 1)) [(1, _), (50, _), (51, _), (52, _)] (by omega) ⟨rfl, rfl, rfl, rfl, trivial⟩ ⟨i + 1, by omega, rfl, rfl, all_take_at hr hall2 (by simpa using hc62), hS.tail.clear⟩
        ·have hc53 := of_decide_eq_false hc; clear hc
         refine exitF ?_
         refine XF.thenX ?_
         refine XF.thenX ?_
         refine XF.blkX ?_
         refine XF.thenN ?_
         refine seqF (regF ?_)
         refine op_assign rfl rfl ?_
         refine endF (XF.thenN ?_)
         refine retF ?_
         refine XF.res (res1 Try.results30 rfl) ?_
         rw [List.take_of_length_le (by omega)] at hall2
         exact ⟨rint (by simp only [pdsE]; rw [if_neg h0, if_neg h1, if_neg h2, if_pos hall, wtE_all hall2]), hS.below⟩
theorem pdsA_is (ds d : Nat) (p : PV) (w : World) (h : PvIn w ds d p) : Calls Try.prog 30 #[p.val] w (fun e w' => e = .returned (.int .i64 (pdsE p)) ∧ Below w.heap.size w w') := pdsA_c ds d _ _ _ _ _ _ _ w h.s h.row h.len h.rin
end Go.Proofs.Ytpkcaabbcoiiiaa
namespace Go.Proofs.Ytpkcaabbcoiiiaa
open Go Go.RowKit
abbrev ringV (sf : SF) (f0 : WF) : Value := .agg #[.int .i64 sf.tag, .int .i64 sf.dim, .slice sf.a sf.len sf.cap, .bool f0.z, .int .i64 f0.c, .int .u64 (f0.g : Int), .slice f0.ra f0.rl f0.rc, .slice f0.ca f0.cl f0.cc, .slice f0.pa f0.pl f0.pc]
theorem ringOf_is (S : PS) (sf : SF) (w : World) (hs : SIs w S sf) (hok : S.ok) :
  Calls Try.prog 31 #[sf.val] w (fun e w' => ∃ f0 : WF, e = .returned (ringV sf f0) ∧ XNew w.heap.size w' S f0 (zeroX S) ∧ Below w.heap.size w w') := by
 refine enterF (args := [sf.val]) Try.func31 rfl Try.ntmps31 rfl ?_
 have hS := St.start w
 refine seqF (regF ?_)
 refine op_box (cs := [_, _, _]) hS rfl rfl rfl ?_
 clear hS; intro B1 W1 hS
 refine op_alloc (cs := [_, _, _, _, _, _, _, _, _]) hS Try.zeroValue84 rfl rfl ?_
 clear hS; intro B2 W2 hS
 refine endF (XF.thenN ?_)
 refine seqF (regF ?_)
 refine op_loadA (vs := [_, _, _]) Try.isAgg25 Try.sizeOf25 rfl (CellsAt.own (j := 0) (m := 3) (hS.at_ 1 rfl) rfl) rfl ?_
 have hsz := hS.below.size
 refine op_call (vs := [_]) hS goes_59 rfl (ZeroW_ok S sf _ (hs.below hS.below) hok) rfl ?_
 rintro e W3 ⟨f0, rfl, hn, hb⟩
 refine ⟨_, rfl, hb, fun hS' => ?_⟩
 clear hS; have hS := hS'; clear hS'
 refine op_move rfl rfl ?_
 refine op_extract rfl rfl rfl ?_
 refine op_extract rfl rfl rfl ?_
 refine op_alloc (cs := [_, _, _, _, _, _]) hS Try.zeroValue45 rfl rfl ?_
 clear hS; intro B4 W4 hS
 refine op_storeA (i := 0) (vs := [_, _, _, _, _, _]) (cs' := [_, _, _, _, _, _]) (O' := [_, _, _]) hS Try.sizeOf45 rfl rfl rfl rfl rfl rfl rfl ?_
 clear hS; intro W5 hS
 refine op_assign rfl rfl ?_
 refine endF (XF.thenN ?_)
 refine seqF (regF ?_)
 refine op_loadA (vs := [_, _, _]) Try.isAgg25 Try.sizeOf25 rfl (CellsAt.own (j := 0) (m := 3) (hS.at_ 2 rfl) rfl) rfl ?_
 refine op_loadA (vs := [_, _, _, _, _, _]) Try.isAgg45 Try.sizeOf45 rfl (CellsAt.own (j := 0) (m := 6) (hS.at_ 0 rfl) rfl) rfl ?_
 refine op_build (us := [(0, .agg (List.toArray [_, _, _])), (1, .agg (List.toArray [_, _, _, _, _, _]))]) rfl (bld_84_0_1 _ _ _ _ _ _ _ _ _) rfl ?_
 refine op_storeA (i := 1) (vs := [_, _, _, _, _, _, _, _, _]) (cs' := [_, _, _, _, _, _, _, _, _]) (O' := [_, _, _]) hS Try.sizeOf84 rfl rfl rfl rfl rfl rfl rfl ?_
 clear hS; intro W6 hS
 refine endF (XF.thenN ?_)
 refine retF ?_
 refine XF.res (resC1 (vs := [_, _, _, _, _, _, _, _, _]) Try.results31 Try.isAgg84 Try.sizeOf84 rfl (CellsAt.own (j := 0) (m := 9) (hS.at_ 1 rfl) rfl)) ?_
 exact ⟨f0, rfl, (hn.agree (hS.since 0 rfl)).mono hsz, hS.below⟩
theorem ringOne_is (S : PS) (sf : SF) (f0 : WF) (w : World) (hs : SIs w S sf) (hok : S.ok) :
  Calls Try.prog 63 #[ringV sf f0] w (WRet S (oneX S) w) := by
 refine enterF (args := [ringV sf f0]) Try.func63 rfl Try.ntmps63 rfl ?_
 have hS := St.start w
 refine seqF (regF ?_)
 refine op_box (cs := [_, _, _, _, _, _, _, _, _]) hS rfl rfl rfl ?_
 clear hS; intro B1 W1 hS
 refine op_alloc (cs := [_, _, _, _, _, _]) hS Try.zeroValue45 rfl rfl ?_
 clear hS; intro B2 W2 hS
 refine endF (XF.thenN ?_)
 refine seqF (regF ?_)
 refine op_field (o' := 0) fa_84_0 rfl rfl rfl ?_
 refine op_loadA (vs := [_, _, _]) Try.isAgg25 Try.sizeOf25 rfl (CellsAt.own (j := 0) (m := 3) (hS.at_ 1 rfl) rfl) rfl ?_
 have hsz := hS.below.size
 refine op_call (vs := [_]) hS goes_87 rfl (OneW_ok S sf _ (hs.below hS.below) hok) rfl ?_
 rintro e W3 ⟨f, rfl, hn, hb⟩
 refine ⟨_, rfl, hb, fun hS' => ?_⟩
 clear hS; have hS := hS'; clear hS'
 refine op_move rfl rfl ?_
 refine op_extract rfl rfl rfl ?_
 refine op_extract rfl rfl rfl ?_
 refine op_alloc (cs := [_, _, _, _, _, _]) hS Try.zeroValue45 rfl rfl ?_
 clear hS; intro B4 W4 hS
 refine op_storeA (i := 0) (vs := [_, _, _, _, _, _]) (cs' := [_, _, _, _, _, _]) (O' := [_, _, _]) hS Try.sizeOf45 rfl rfl rfl rfl rfl rfl rfl ?_
 clear hS; intro W5 hS
 refine op_assign rfl rfl ?_
 refine endF (XF.thenN ?_)
 refine seqF (regF ?_)
 refine op_loadA (vs := [_, _, _, _, _, _]) Try.isAgg45 Try.sizeOf45 rfl (CellsAt.own (j := 0) (m := 6) (hS.at_ 0 rfl) rfl) rfl ?_
 refine op_storeA (i := 1) (vs := [_, _, _, _, _, _]) (cs' := [_, _, _, _, _, _]) (O' := [_, _, _]) hS Try.sizeOf45 rfl rfl rfl rfl rfl rfl rfl ?_
 clear hS; intro W6 hS
 refine endF (XF.thenN ?_)
 refine retF ?_
 refine XF.res (resC1 (vs := [_, _, _, _, _, _]) Try.results63 Try.isAgg45 Try.sizeOf45 rfl (CellsAt.own (j := 0) (m := 6) (hS.at_ 1 rfl) rfl)) ?_
 exact ⟨f, rfl, (hn.agree (hS.since 0 rfl)).mono hsz, hS.below⟩
end Go.Proofs.Ytpkcaabbcoiiiaa
namespace Go.Proofs.Ytpkcaabbcoiiiaa
open Go Go.RowKit
def RowN (lo : Nat) (W : World) (a : Option Addr) (c : Nat) (xs : List Int) : Prop := W.ownsRow lo 3 1 (.slice a xs.length c) xs.length (xs.map (Value.int .i64))
theorem RowN.row {lo : Nat} {W : World} {a : Option Addr} {c : Nat} {xs : List Int} (h : RowN lo W a c xs) : Row W a xs := by
 rcases ownsRow_cells h with ⟨_, h2⟩ | ⟨b, h1, _, h3⟩
 ·exact .inl (List.eq_nil_of_length_eq_zero h2)
 ·refine .inr ⟨b, 0, h1, fun i hi => ?_⟩
  rw [Nat.zero_add]
  exact h3 i _ (by rw [List.getElem?_map, List.getElem?_eq_getElem hi]; simp [List.getD, List.getElem?_eq_getElem hi])
theorem RowN.cap {lo : Nat} {W : World} {a : Option Addr} {c : Nat} {xs : List Int} (h : RowN lo W a c xs) : xs.length ≤ c := by
 obtain ⟨a', c', e, h2⟩ := ownsRow_sl h
 cases e; exact h2
theorem RowN.mono {lo lo' : Nat} {W : World} {a : Option Addr} {c : Nat} {xs : List Int} (h : RowN lo W a c xs) (hl : lo' ≤ lo) : RowN lo' W a c xs := ownsRow_base h hl
theorem RowN.agree {lo : Nat} {A W : World} {a : Option Addr} {c : Nat} {xs : List Int} (h : RowN lo A a c xs) (hg : Agree lo A W) : RowN lo W a c xs := ownsRow_agree h hg
theorem ints_one (xs : List Int) : ∀ u ∈ xs.map (Value.int .i64), u.oneCell' = true := fun u hu => by
 obtain ⟨z, _, rfl⟩ := List.mem_map.1 hu
 rfl
theorem Row.app {W : World} {a : Option Addr} {ws : List Int} {m : Nat} (h : Row W a ws) (hl : ws.length = m) : (a = none ∧ m = 0) ∨ ∃ p, a = some p ∧ ∀ (j : Nat) u, (ws.map (Value.int .i64))[j]? = some u → W.cell? (p.add j) = some u := by
 rcases h with rfl | ⟨b, off, rfl, hc⟩
 ·cases a with
  | none => exact .inl ⟨rfl, hl.symm⟩
  | some p => exact .inr ⟨p, rfl, fun j u hj => by simp at hj⟩
 ·refine .inr ⟨_, rfl, fun j u hj => ?_⟩
  rw [List.getElem?_map] at hj
  cases hz : ws[j]? with
  | none => rw [hz] at hj; cases hj
  | some z =>
   rw [hz] at hj; cases hj
   have hj' := (List.getElem?_eq_some_iff.1 hz).1
   have := hc j hj'
   rw [Addr.add_lit, this]
   simp [List.getD, hz]
theorem Row.tail1 {W : World} {a : Option Addr} {y : Int} {t : List Int} {c : Nat} (h : Row W a (y :: t)) (hc : (y :: t).length ≤ c) : Row W (if c = 1 then a else a.map (·.add (1 * 1))) t := by
 rcases h with h | ⟨b, off, rfl, hc1⟩
 ·cases h
 ·by_cases h1 : c = 1
  ·subst h1
   refine .inl (List.eq_nil_of_length_eq_zero ?_)
   simp at hc; simpa using hc
  ·rw [if_neg h1]
   refine .inr ⟨b, off + 1, by simp [Addr.add_lit], fun i hi => ?_⟩
   have := hc1 (i + 1) (by simp; omega)
   rw [show off + 1 + i = off + (i + 1) by omega, this]
   simp
def isConfN (lo : Nat) (p : Int) (xs : List Int) : Asr := fun v w => ∃ a c, v = .agg #[.int .i64 p, .slice a xs.length c] ∧ RowN lo w a c xs
end Go.Proofs.Ytpkcaabbcoiiiaa
namespace Go.Proofs.Ytpkcaabbcoiiiaa
open Go Go.RowKit
theorem okW_plain {f : SF} {ps : List SV} {x : WV} (hp : plainB f.tag f.dim f.len = true) (ho : okW (.mk f ps) x = true) : pwOk f.tag f.dim x.f = true := by
 have h : (if plainB f.tag f.dim f.len = true then pwOk f.tag f.dim x.f else (match (generalizing := false) ps with | [p, q] => pairOk p q x.f x.ps | _ => false)) = true := ho
 rw [if_pos hp] at h
 exact h
theorem space_of {w : World} {d : Nat} {s : SV} (hs : SIn w d s) (hse : spaceE s = 0) : ∃ S : PS, S.ok ∧ SIs w S s.f ∧ ∀ (x : WV) (e : Nat), WIn w e x → okW s x = true → ∃ y, XIs w S x.f y := by
 match d, s, hs with
 | d + 1, .mk f ps, hs =>
  by_cases hp : plainB f.tag f.dim f.len = true
  ·obtain ⟨t, n, a, l, c⟩ := f
   dsimp only at hp
   obtain rfl : l = 0 := (plainB_tag hp).1
   refine ⟨.one t n, hp, ⟨a, c, rfl⟩, fun x e hx ho => ?_⟩
   match e, x, hx, ho with
   | e + 1, .mk g qs, hx, ho =>
    exact ⟨.one g.pf, PIs.of hp hx.1 (okW_plain (f := ⟨t, n, a, 0, c⟩) hp ho)⟩
  ·have hse' : (if plainB f.tag f.dim f.len = true then (0 : Int) else if f.tag = 5 ∧ f.dim = 0 ∧ ps.length = 2 ∧ ps.all SV.pl = true then 0 else 50) = 0 := hse
   rw [if_neg hp] at hse'
   split at hse'
   ·rename_i hq
    obtain ⟨h5, h0, h2, hall⟩ := hq
    obtain ⟨t, n, a, l, c⟩ := f
    dsimp only at h5 h0 hp
    subst h5; subst h0
    obtain ⟨p, q, rfl⟩ := two_of h2
    have hl : 2 = l := hs.1
    subst hl
    simp only [List.all_cons, List.all_nil, Bool.and_true, Bool.and_eq_true] at hall
    obtain ⟨_, b, off, ha, _, hp3, hq3, _, _⟩ := hs.two
    dsimp only at ha
    subst ha
    obtain ⟨⟨pt, pn, pa, pl, pc⟩, pps⟩ := p
    obtain ⟨⟨qt, qn, qa, ql, qc⟩, qps⟩ := q
    have e1 : plainB pt pn pl = true := hall.1
    have e2 : plainB qt qn ql = true := hall.2
    obtain rfl : pl = 0 := (plainB_tag e1).1
    obtain rfl : ql = 0 := (plainB_tag e2).1
    refine ⟨.two pt pn qt qn, ⟨e1, e2⟩, ⟨b, off, c, pa, pc, qa, qc, rfl, hp3, hq3⟩, fun x e hx ho => ?_⟩
    match e, x, hx, ho with
    | e + 1, .mk g qs, hx, ho =>
     have ho' : (if plainB 5 0 2 = true then pwOk 5 0 g else pairOk (.mk ⟨pt, pn, pa, 0, pc⟩ pps) (.mk ⟨qt, qn, qa, 0, qc⟩ qps) g qs) = true := ho
     rw [if_neg (show ¬ plainB 5 0 2 = true from hp)] at ho'
     unfold pairOk at ho'
     simp only [Bool.and_eq_true, Bool.not_eq_true', decide_eq_true_eq] at ho'
     obtain ⟨hbare, hz, h2q, o1, o2⟩ := ho'
     obtain ⟨x1, x2, rfl⟩ := two_of h2q
     obtain ⟨hpl, wb, wo, hpa, _, h6, h7, hx1, hx2⟩ := hx.two
     have hat := hx.1
     have hg : g.c = 0 ∧ g.g = 0 ∧ g.rl = 0 ∧ g.cl = 0 := by
      simp only [bareB, onlyB, hz, Bool.not_false, Bool.true_and, Bool.and_eq_true, Bool.or_eq_true, decide_eq_true_eq] at hbare
      obtain ⟨k1, k2, k3, _⟩ := hbare
      exact ⟨k1.resolve_left (by decide), (k2.resolve_left (by decide)).1, (k2.resolve_left (by decide)).2, k3.resolve_left (by decide)⟩
     have hr0 : g.rows = [] := List.eq_nil_of_length_eq_zero (by have := hat.rl; omega)
     have hc0 : g.cells = [] := List.eq_nil_of_length_eq_zero (by have := hat.cl; omega)
     refine ⟨.two x1.f.pf x2.f.pf, ?_, hg.2.2.1, hg.2.2.2, hpl, wb, wo, x1.f, x2.f, hpa, h6, h7, PIs.of e1 (WIn.at_ hx1) o1, PIs.of e2 (WIn.at_ hx2) o2⟩
     show (⟨g.z, g.c, g.g, g.rows, g.cells⟩ : PF) = pC 0
     unfold pC
     rw [hz, hg.1, hg.2.1, hr0, hc0]
   ·cases hse'
section
variable {n : Nat} {Q : Exit → Act → World → Prop} {l : Fr} {W : World} {ops : Array Oper} {L : List Asr} {i d : Nat} {ty : TypeId} {pos : String} {aft : Array Edge} {gd : Option (Nat × Bool)} {S : PS} {x y z : PX} {p q r : Operand}
end
section
variable {w : World} {S : PS} {sf : SF} {x y z : PX} {vs : List Value}
end
end Go.Proofs.Ytpkcaabbcoiiiaa
namespace Go.Proofs.Ytpkcaabbcoiiiaa
open Go Go.RowKit
abbrev StT := Int × List Int × PX
section
variable {S : PS} {px : RV → PX} {rs : List RV} {i : Int} {l : List Int} {k : Nat} {st st' : StT} {c : Int}
end
theorem clone_ints {w : World} {a : Option Addr} {l c : Nat} {ws : List Int} (h : Row w a ws) (hl : ws.length = l) (hm : l ≤ 8192) : Calls Try.prog 61 #[.slice a l c] w fun e w' => ∃ v, e = .returned v ∧ Below w.heap.size w w' ∧ w'.ownsRow w.heap.size 3 1 v l (ws.map (Value.int .i64)) := by
 cases a with
 | none =>
  have hw : ws = [] := by
   rcases h with h | ⟨b, off, h, _⟩
   ·exact h
   ·cases h
  subst hw; subst hl
  refine (Try.slices_Clone_int_nil _ c w).mono ?_
  rintro e w' ⟨rfl, rfl⟩
  exact ⟨_, rfl, Below.refl _ _, World.ownsRow_nil _ _ _ _⟩
 | some p =>
  rcases h with rfl | ⟨b, off, h, hc⟩
  ·subst hl
   refine (Try.slices_Clone_int_zero p c w).mono ?_
   rintro e w' ⟨v, rfl, h1, _, h2⟩
   exact ⟨_, rfl, h2, h1⟩
  ·cases h
   refine (Try.slices_Clone_int b off l c ws w (by omega) (by omega) hc).mono ?_
   rintro e w' ⟨v, rfl, h1, _, h2⟩
   rw [List.take_of_length_le (by omega)] at h1
   exact ⟨_, rfl, h2, h1⟩
end Go.Proofs.Ytpkcaabbcoiiiaa
namespace Go.Proofs.Ytpkcaabbcoiiiaa
open Go Go.RowKit
def isPairRow (lo : Nat) (S : PS) (x : PX) : Asr := fun v w => ∃ b, v = .slice (some ⟨b, 0, none⟩) 2 2 ∧ XNew lo w S (pairF b) x
theorem stab_isPairRow {lo : Nat} {S : PS} {x : PX} : Stab (isPairRow lo S x) := fun v w w' ⟨b, h1, h2⟩ hb => ⟨b, h1, h2.below hb⟩
section
variable {n : Nat} {Q : Exit → Act → World → Prop} {l : Fr} {W : World} {ops : Array Oper} {L : List Asr} {i d : Nat} {ty : TypeId} {pos : String} {aft : Array Edge} {gd : Option (Nat × Bool)} {t k u m : Int} {x y : PF} {p q : Operand}
theorem rg_pairRow (hi : ops[i]? = some ⟨some d, .buildSlice 43 2 (List.toArray [(0, p), (1, q)]), ty, pos, aft, gd⟩) (hw : Wants ops L i ⟨some d, .buildSlice 43 2 (List.toArray [(0, p), (1, q)]), ty, pos, aft, gd⟩) (hp : AllP n ops l L i [p, q] [isNew W.heap.size (.one t k) (.one x), isNew W.heap.size (.one u m) (.one y)]) (hI : atI L i = isPairRow W.heap.size (.two t k u m) (.two x y)) : RG Try.prog n ops Q l W L i :=
 rg_row [isNew W.heap.size (.one t k) (.one x), isNew W.heap.size (.one u m) (.one y)] hi hw Try.underlying43 Try.sizeOf45 Try.zeroValue45 rfl rfl hp fun vs w hb hh => by
  obtain ⟨v1, v2, rfl, ⟨f, rfl, hf⟩, g, rfl, hg⟩ := holds2 hh
  refine ⟨f.six ++ g.six, bs_43_2 _ _ _ _ _ _ _ _ _ _ _ _, fun B w' hB h1 h2 => ?_⟩
  rw [hI]
  rcases frow2 h1 with h | ⟨b, off, e, h3⟩
  ·cases h
  ·cases e
   exact ⟨B, rfl, pair_new (h3 0 f rfl) (h3 1 g rfl) (by rw [← hB]; exact hb.size) (PNew.below hf h2) (PNew.below hg h2)⟩
end
end Go.Proofs.Ytpkcaabbcoiiiaa
namespace Go.Proofs.Ytpkcaabbcoiiiaa
open Go Go.RowKit
theorem oneR_not4 (t n : Int) (sa : Option Addr) (sc : Nat) (w : World) (hp : plainB t n 0 = true) (ht4 : t ≠ 4) :
  Calls Try.prog 35 #[.agg #[.int .i64 t, .int .i64 n, .slice sa 0 sc]] w (WRet (.one t n) (.one (oneP t n)) w) := by
 refine enterF (args := [.agg #[.int .i64 t, .int .i64 n, .slice sa 0 sc]]) Try.func35 rfl Try.ntmps35 rfl ?_
 have hS := St.start w
 refine seqF (regF ?_)
 refine op_box (cs := [_, _, _]) hS rfl rfl rfl ?_
 clear hS; intro B1 W1 hS
 refine op_alloc (cs := [_, _, _, _, _, _]) hS Try.zeroValue45 rfl rfl ?_
 clear hS; intro B2 W2 hS
 refine endF (XF.thenN ?_)
 refine seqF (regF ?_)
 refine op_build (us := []) rfl (bld_45) rfl ?_
 refine op_alloc (cs := [_, _, _, _, _, _]) hS Try.zeroValue45 rfl rfl ?_
 clear hS; intro B3 W3 hS
 refine op_storeA (i := 0) (vs := [_, _, _, _, _, _]) (cs' := [_, _, _, _, _, _]) (O' := [_, _, _]) hS Try.sizeOf45 rfl rfl rfl rfl rfl rfl rfl ?_
 clear hS; intro W4 hS
 refine endF (XF.thenN ?_)
 refine seqF ?_
 refine seqF (regF ?_)
 refine op_field (o' := 0) fa_25_0 rfl rfl rfl ?_
 refine op_load Try.isAgg22 rfl (cell_own (hS.at_ 2 rfl) rfl) rfl ?_
 refine endF (XF.thenN ?_)
 refine blockF ?_
 refine seqF (regF ?_)
 refine op_eql rfl rfl rfl ?_
 refine op_assign rfl rfl ?_
 refine endF (XF.thenN ?_)
 refine condF rfl (fun hc => ?_) (fun hc => ?_)
 ·have hc8 := of_decide_eq_true hc; clear hc
  have e3 : t = 3 := hc8
  subst e3
  obtain ⟨m, rfl, hm⟩ := dim3 hp (.inl rfl)
  refine regF ?_
  refine op_field (o' := 1) fa_25_1 rfl rfl rfl ?_
  refine op_load Try.isAgg3 rfl (cell_own (hS.at_ 2 rfl) rfl) rfl ?_
  have hsz := hS.below.size
  refine op_call (vs := [_]) hS goes_64 rfl ((oneR_is m _ _ (one_good hm).1 _ (one_good hm).2).mono fun _ _ h => FOwn.ret h) rfl ?_
  rintro e W5 ⟨a1, c1, rfl, hv, hl, hb⟩
  refine ⟨_, rfl, hb, fun hS' => ?_⟩
  clear hS; have hS := hS'; clear hS'
  refine op_move rfl rfl ?_
  refine op_extract rfl rfl rfl ?_
  refine op_extract rfl rfl rfl ?_
  refine op_field (o' := 2) fa_45_2 rfl rfl rfl ?_
  refine op_storeA (i := 0) (vs := [_, _]) (cs' := [_, _, _, _, _, _]) (O' := [_, _, _]) hS Try.sizeOf41 rfl rfl rfl rfl rfl rfl rfl ?_
  clear hS; intro W6 hS
  refine endF ?_
  refine XF.blkN ?_
  refine XF.thenN ?_
  refine seqF (regF ?_)
  refine op_loadA (vs := [_, _, _, _, _, _]) Try.isAgg45 Try.sizeOf45 rfl (CellsAt.own (j := 0) (m := 6) (hS.at_ 0 rfl) rfl) rfl ?_
  refine op_storeA (i := 1) (vs := [_, _, _, _, _, _]) (cs' := [_, _, _, _, _, _]) (O' := [_, _, _]) hS Try.sizeOf45 rfl rfl rfl rfl rfl rfl rfl ?_
  clear hS; intro W7 hS
  refine endF (XF.thenN ?_)
  refine retF ?_
  refine XF.res (resC1 (vs := [_, _, _, _, _, _]) Try.results35 Try.isAgg45 Try.sizeOf45 rfl (CellsAt.own (j := 0) (m := 6) (hS.at_ 1 rfl) rfl)) ?_
  exact wret_one (one_f3 hm (hv.agree (fun ad e => (hl ad e).1) (hS.since 0 rfl)) (fun ad e => Nat.le_trans hsz (hl ad e).1)) hS.below
 ·have hc8 := of_decide_eq_false hc; clear hc
  refine seqF (regF ?_)
  refine op_eql rfl rfl rfl ?_
  refine op_assign rfl rfl ?_
  refine endF (XF.thenN ?_)
  refine condF rfl (fun hc => absurd (of_decide_eq_true hc) (by exact ht4)) (fun hc => ?_)
  have hc := of_decide_eq_false hc
  refine seqF (regF ?_)
  refine op_eql rfl rfl rfl ?_
  refine op_assign rfl rfl ?_
  refine endF (XF.thenN ?_)
  refine condF rfl (fun hc => absurd (of_decide_eq_true hc) (by exact plain_ne5 hp)) (fun hc => ?_)
  have hc := of_decide_eq_false hc
  refine skipF ?_
  refine XF.blkN ?_
  refine XF.thenN ?_
  refine seqF (regF ?_)
  refine op_loadA (vs := [_, _, _, _, _, _]) Try.isAgg45 Try.sizeOf45 rfl (CellsAt.own (j := 0) (m := 6) (hS.at_ 0 rfl) rfl) rfl ?_
  refine op_storeA (i := 1) (vs := [_, _, _, _, _, _]) (cs' := [_, _, _, _, _, _]) (O' := [_, _, _]) hS Try.sizeOf45 rfl rfl rfl rfl rfl rfl rfl ?_
  clear hS; intro W8 hS
  refine endF (XF.thenN ?_)
  refine retF ?_
  refine XF.res (resC1 (vs := [_, _, _, _, _, _]) Try.results35 Try.isAgg45 Try.sizeOf45 rfl (CellsAt.own (j := 0) (m := 6) (hS.at_ 1 rfl) rfl)) ?_
  exact wret_one (one_f1 hp hc8 ht4) hS.below
theorem oneR_pair (t n u m : Int) (a1 a2 : Option Addr) (c1 c2 b off sc : Nat) (w : World) (hs1 : S3 w b off ⟨t, n, a1, 0, c1⟩) (hs2 : S3 w b (off + 3) ⟨u, m, a2, 0, c2⟩) (hp1 : plainB t n 0 = true) (hp2 : plainB u m 0 = true) (ih10 : ∀ W : World, Calls Try.prog 35 #[.agg #[.int .i64 t, .int .i64 n, .slice a1 0 c1]] W (WRet (.one t n) (.one (oneP t n)) W)) (ih20 : ∀ W : World, Calls Try.prog 35 #[.agg #[.int .i64 u, .int .i64 m, .slice a2 0 c2]] W (WRet (.one u m) (.one (oneP u m)) W)) :
  Calls Try.prog 35 #[.agg #[.int .i64 5, .int .i64 0, .slice (some ⟨b, off, none⟩) 2 sc]] w (WRet (.two t n u m) (.two (oneP t n) (oneP u m)) w) := by
 refine enterF (args := [.agg #[.int .i64 5, .int .i64 0, .slice (some ⟨b, off, none⟩) 2 sc]]) Try.func35 rfl Try.ntmps35 rfl ?_
 have hS := St.start w
 refine seqF (regF ?_)
 refine op_box (cs := [_, _, _]) hS rfl rfl rfl ?_
 clear hS; intro B1 W1 hS
 refine op_alloc (cs := [_, _, _, _, _, _]) hS Try.zeroValue45 rfl rfl ?_
 clear hS; intro B2 W2 hS
 refine endF (XF.thenN ?_)
 refine seqF (regF ?_)
 refine op_build (us := []) rfl (bld_45) rfl ?_
 refine op_alloc (cs := [_, _, _, _, _, _]) hS Try.zeroValue45 rfl rfl ?_
 clear hS; intro B3 W3 hS
 refine op_storeA (i := 0) (vs := [_, _, _, _, _, _]) (cs' := [_, _, _, _, _, _]) (O' := [_, _, _]) hS Try.sizeOf45 rfl rfl rfl rfl rfl rfl rfl ?_
 clear hS; intro W4 hS
 refine endF (XF.thenN ?_)
 refine seqF ?_
 refine seqF (regF ?_)
 refine op_field (o' := 0) fa_25_0 rfl rfl rfl ?_
 refine op_load Try.isAgg22 rfl (cell_own (hS.at_ 2 rfl) rfl) rfl ?_
 refine endF (XF.thenN ?_)
 refine blockF ?_
 refine seqF (regF ?_)
 refine op_eql rfl rfl rfl ?_
 refine op_assign rfl rfl ?_
 refine endF (XF.thenN ?_)
 refine condF rfl (fun hc => absurd (of_decide_eq_true hc) (by omega)) (fun hc => ?_)
 have hc := of_decide_eq_false hc
 refine seqF (regF ?_)
 refine op_eql rfl rfl rfl ?_
 refine op_assign rfl rfl ?_
 refine endF (XF.thenN ?_)
 refine condF rfl (fun hc => absurd (of_decide_eq_true hc) (by omega)) (fun hc => ?_)
 have hc := of_decide_eq_false hc
 refine seqF (regF ?_)
 refine op_eql rfl rfl rfl ?_
 refine op_assign rfl rfl ?_
 refine endF (XF.thenN ?_)
 refine condF rfl (fun hc => ?_) (fun hc => absurd (of_decide_eq_false hc) (by omega))
 have hc := of_decide_eq_true hc
 have hsz := hS.below.size
 have k1 := CellsAt.agree hS.agree (Nat.zero_le _) hs1.cells
 have k2 := CellsAt.agree hS.agree (Nat.zero_le _) hs2.cells
 have ih1 := fun (W2 : World) (_ : Below W4.heap.size W4 W2) => ih10 W2
 have ih2 := fun (W2 : World) (_ : Below W4.heap.size W4 W2) => ih20 W2
 refine regBK followsM 12 hS rfl rfl (by kernel_rfl) (by kernel_rfl) (by kernel_rfl) (fun d hd => by cases hd) ?_
 refine bl_cons 1 rfl (isV _) (stab_isV _) (rgV (li := [(1, _)]) rfl (w_free rfl) ⟨g_fr (by kernel_rfl) rfl, trivial⟩ (fun w hw => rn_field (o' := 2) fa_25_2 rfl rfl) (at_top rfl)) ?_
 refine bl_cons 2 rfl (isV _) (stab_isV _) (rgV (li := [(35, _)]) rfl (w_free rfl) ⟨g_dep 0 (by kernel_rfl) (at_dep rfl rfl rfl), trivial⟩ (fun w hw => rn_load Try.isAgg23 rfl ((below_agree hw 0).cell (Nat.zero_le _) (cell_own (hS.at_ 2 rfl) rfl))) (at_top rfl)) ?_
 refine bl_cons 3 rfl (isV _) (stab_isV _) (rgV (li := [(36, _)]) rfl (w_free rfl) ⟨g_dep 1 (by kernel_rfl) (at_dep rfl rfl rfl), trivial⟩ (fun w hw => rn_indexA (j := 0) Try.underlying23 Try.sizeOf25 rfl rfl rfl (by omega) (Nat.add_zero _)) (at_top rfl)) ?_
 refine bl_cons 4 rfl (isV _) (stab_isV _) (rgV (li := [(37, _)]) rfl (w_free rfl) ⟨g_dep 2 (by kernel_rfl) (at_dep rfl rfl rfl), trivial⟩ (fun w hw => rn_loadA (vs := [_, _, _]) Try.isAgg25 Try.sizeOf25 rfl (CellsAt.agree (below_agree hw 0) (Nat.zero_le _) (by assumption))) (at_top rfl)) ?_
 refine bl_cons 5 rfl (isNew W4.heap.size (.one t n) (.one (oneP t n))) (stab_isNew) (rg_call [isV _] rfl goes_35 (w_free rfl) ⟨p_tmp (g_dep 3 (by kernel_rfl) (at_dep rfl rfl rfl)), trivial⟩ (fun vs w' hb hh => by have e := holds_isV (us := [_]) hh; subst e; exact wret_gives hb.size (ih1 _ hb)) (at_top rfl)) ?_
 refine bl_cons 6 rfl (isV _) (stab_isV _) (rgV (li := [(1, _)]) rfl (w_free rfl) ⟨g_fr (by kernel_rfl) rfl, trivial⟩ (fun w hw => rn_field (o' := 2) fa_25_2 rfl rfl) (at_top rfl)) ?_
 refine bl_cons 7 rfl (isV _) (stab_isV _) (rgV (li := [(40, _)]) rfl (w_free rfl) ⟨g_dep 5 (by kernel_rfl) (at_dep rfl rfl rfl), trivial⟩ (fun w hw => rn_load Try.isAgg23 rfl ((below_agree hw 0).cell (Nat.zero_le _) (cell_own (hS.at_ 2 rfl) rfl))) (at_top rfl)) ?_
 refine bl_cons 8 rfl (isV _) (stab_isV _) (rgV (li := [(41, _)]) rfl (w_free rfl) ⟨g_dep 6 (by kernel_rfl) (at_dep rfl rfl rfl), trivial⟩ (fun w hw => rn_indexA (j := 1) Try.underlying23 Try.sizeOf25 rfl rfl rfl (by omega) rfl) (at_top rfl)) ?_
 refine bl_cons 9 rfl (isV _) (stab_isV _) (rgV (li := [(42, _)]) rfl (w_free rfl) ⟨g_dep 7 (by kernel_rfl) (at_dep rfl rfl rfl), trivial⟩ (fun w hw => rn_loadA (vs := [_, _, _]) Try.isAgg25 Try.sizeOf25 rfl (CellsAt.agree (below_agree hw 0) (Nat.zero_le _) (by assumption))) (at_top rfl)) ?_
 refine bl_cons 10 rfl (isNew W4.heap.size (.one u m) (.one (oneP u m))) (stab_isNew) (rg_call [isV _] rfl goes_35 (w_free rfl) ⟨p_tmp (g_dep 8 (by kernel_rfl) (at_dep rfl rfl rfl)), trivial⟩ (fun vs w' hb hh => by have e := holds_isV (us := [_]) hh; subst e; exact wret_gives hb.size (ih2 _ hb)) (at_top rfl)) ?_
 refine bl_cons 11 rfl (isPairRow W4.heap.size (.two t n u m) (.two (oneP t n) (oneP u m))) (stab_isPairRow) (rg_pairRow rfl (w_free rfl) ⟨p_tmp (g_dep 4 (by kernel_rfl) (at_dep rfl rfl rfl)), p_tmp (g_dep 9 (by kernel_rfl) (at_dep rfl rfl rfl)), trivial⟩ (at_top rfl)) ?_
 refine bl_cons 12 rfl (isV _) (stab_isV _) (rgV (li := [(3, _)]) rfl (w_free rfl) ⟨g_fr (by kernel_rfl) rfl, trivial⟩ (fun w hw => rn_field (o' := 5) fa_45_4 rfl rfl) (at_top rfl)) ?_
 refine bl_nil ?_
 intro W5 hbR hS'
 clear hS; have hS := hS'; clear hS'
 refine fin_v ?_
 refine fin_v ?_
 refine fin_v ?_
 refine fin_v ?_
 refine fin_p ?_; rintro _ ⟨v1, rfl, hn1⟩
 refine fin_v ?_
 refine fin_v ?_
 refine fin_v ?_
 refine fin_v ?_
 refine fin_p ?_; rintro _ ⟨v2, rfl, hn2⟩
 refine fin_p ?_; rintro _ ⟨b9, rfl, hn9⟩
 refine fin_v ?_
 refine fin_nil ?_
 refine op_store (i := 0) (cs' := [_, _, _, _, _, _]) (O' := [_, _, _]) hS Try.sizeOf43 rfl rfl rfl rfl rfl rfl rfl ?_
 clear hS; intro W6 hS
 refine endF ?_
 refine XF.blkN ?_
 refine XF.thenN ?_
 refine seqF (regF ?_)
 refine op_loadA (vs := [_, _, _, _, _, _]) Try.isAgg45 Try.sizeOf45 rfl (CellsAt.own (j := 0) (m := 6) (hS.at_ 0 rfl) rfl) rfl ?_
 refine op_storeA (i := 1) (vs := [_, _, _, _, _, _]) (cs' := [_, _, _, _, _, _]) (O' := [_, _, _]) hS Try.sizeOf45 rfl rfl rfl rfl rfl rfl rfl ?_
 clear hS; intro W7 hS
 refine endF (XF.thenN ?_)
 refine retF ?_
 refine XF.res (resC1 (vs := [_, _, _, _, _, _]) Try.results35 Try.isAgg45 Try.sizeOf45 rfl (CellsAt.own (j := 0) (m := 6) (hS.at_ 1 rfl) rfl)) ?_
 exact ⟨pairF b9, rfl, (hn9.agree (hS.since 0 rfl)).mono hsz, hS.below⟩
end Go.Proofs.Ytpkcaabbcoiiiaa
namespace Go.Proofs.Ytpkcaabbcoiiiaa
open Go Go.RowKit
theorem oneR_4 (m : Nat) (sa : Option Addr) (sc : Nat) (w : World) (hm : m ≤ 64) :
  Calls Try.prog 35 #[.agg #[.int .i64 4, .int .i64 (m : Int), .slice sa 0 sc]] w (WRet (.one 4 m) (.one (oneP 4 m)) w) := by
 refine enterF (args := [.agg #[.int .i64 4, .int .i64 (m : Int), .slice sa 0 sc]]) Try.func35 rfl Try.ntmps35 rfl ?_
 have hS := St.start w
 refine seqF (regF ?_)
 refine op_box (cs := [_, _, _]) hS rfl rfl rfl ?_
 clear hS; intro B1 W1 hS
 refine op_alloc (cs := [_, _, _, _, _, _]) hS Try.zeroValue45 rfl rfl ?_
 clear hS; intro B2 W2 hS
 refine endF (XF.thenN ?_)
 refine seqF (regF ?_)
 refine op_build (us := []) rfl (bld_45) rfl ?_
 refine op_alloc (cs := [_, _, _, _, _, _]) hS Try.zeroValue45 rfl rfl ?_
 clear hS; intro B3 W3 hS
 refine op_storeA (i := 0) (vs := [_, _, _, _, _, _]) (cs' := [_, _, _, _, _, _]) (O' := [_, _, _]) hS Try.sizeOf45 rfl rfl rfl rfl rfl rfl rfl ?_
 clear hS; intro W4 hS
 refine endF (XF.thenN ?_)
 refine seqF ?_
 refine seqF (regF ?_)
 refine op_field (o' := 0) fa_25_0 rfl rfl rfl ?_
 refine op_load Try.isAgg22 rfl (cell_own (hS.at_ 2 rfl) rfl) rfl ?_
 refine endF (XF.thenN ?_)
 refine blockF ?_
 refine seqF (regF ?_)
 refine op_eql rfl rfl rfl ?_
 refine op_assign rfl rfl ?_
 refine endF (XF.thenN ?_)
 refine condF rfl (fun hc => absurd (of_decide_eq_true hc) (by omega)) (fun hc => ?_)
 have hc := of_decide_eq_false hc
 refine seqF (regF ?_)
 refine op_eql rfl rfl rfl ?_
 refine op_assign rfl rfl ?_
 refine endF (XF.thenN ?_)
 refine condF rfl (fun hc => ?_) (fun hc => absurd (of_decide_eq_false hc) (by omega))
 have hc := of_decide_eq_true hc
 refine seqF (regF ?_)
 refine op_assign rfl rfl ?_
 refine endF (XF.thenN ?_)
 refine blockF ?_
 refine loopF (fun q l W => ∃ (k : Nat) (v : Value), k ≤ m ∧ q = m - k ∧ l = [(1, .pointer (some ⟨B1, 0, none⟩)), (2, .pointer (some ⟨B2, 0, none⟩)), (3, .pointer (some ⟨B3, 0, none⟩)), (4, .int .i64 (k : Int))] ∧ St w [(B3, [.bool false, .int .i64 0, .int .u64 0, .slice none 0 0, v, .slice none 0 0], 45), (B2, [.bool false, .int .i64 0, .int .u64 0, .slice none 0 0, .slice none 0 0, .slice none 0 0], 45), (B1, [.int .i64 4, .int .i64 (m : Int), .slice sa 0 sc], 25)] [⟨v, k, flat ((unitC m).take k), 96, 3⟩] [] W) (m - 0) ([(1, _), (2, _), (3, _), (4, _)]) ⟨rfl, rfl, rfl, rfl, trivial⟩ (⟨0, .slice none 0 0, Nat.zero_le _, rfl, rfl, hS.clear.newG _ _⟩) ?_
 clear hS
 rintro q l W ⟨k, v, hkm, rfl, rfl, hS⟩
 refine seqF ?_
 refine seqF (regF ?_)
 refine op_move rfl rfl ?_
 refine op_field (o' := 1) fa_25_1 rfl rfl rfl ?_
 refine op_load Try.isAgg3 rfl (cell_own (hS.at_ 2 rfl) rfl) rfl ?_
 refine op_lss rfl rfl rfl ?_
 refine endF (XF.thenN ?_)
 refine condF rfl (fun hc => ?_) (fun hc => ?_)
 ·have hc22 := of_decide_eq_true hc; clear hc
  have hk : k < m := by omega
  refine skipF ?_
  refine XF.thenN ?_
  refine seqF ?_
  refine blockF ?_
  refine regBP (p := 6) (k := 8) (gi := 0) (m := 1) followsM hS rfl rfl (by kernel_rfl) (by kernel_rfl) (by kernel_rfl) (fun d hd => by cases hd) rfl rfl Try.underlying42 inf_96 rfl rfl (by show 0 < 3; decide) rfl rfl rfl (by dsimp only; simp only [maxLen]; omega) (by dsimp only; show _ * 24 ≤ _; omega) ?_
  refine blp_v 1 rfl rfl (by kernel_rfl) (rgV (li := [(3, _)]) rfl (w_free rfl) ⟨g_fr (by kernel_rfl) rfl, trivial⟩ (fun w hw => rn_field (o' := 4) fa_45_3 rfl rfl) (at_top rfl)) ?_
  refine blp_v 2 rfl rfl (by kernel_rfl) (rgV (li := [(25, _)]) rfl (w_free rfl) ⟨g_dep 0 (by kernel_rfl) (at_dep rfl rfl rfl), trivial⟩ (fun w hw => rn_load Try.isAgg42 rfl ((below_agree hw 0).cell (Nat.zero_le _) (cell_own (hS.at_ 0 rfl) rfl))) (at_top rfl)) ?_
  refine blp_v 3 rfl rfl (by kernel_rfl) (rgV (li := [(4, _)]) rfl (w_free rfl) ⟨g_fr (by kernel_rfl) rfl, trivial⟩ (fun w hw => rn_move rfl) (at_top rfl)) ?_
  refine blp_v 4 rfl rfl (by kernel_rfl) (rg_call [isV _] rfl goes_65 (w_free rfl) ⟨p_tmp (g_dep 2 (by kernel_rfl) (at_dep rfl rfl rfl)), trivial⟩ (fun vs w' hb hh => by have e := holds_isV (us := [_]) hh; subst e; exact (worth_at (k : Int) k (2 ^ k) (by omega) rfl (by omega) _).mono fun e w2 h => ⟨_, h.1, rfl, h.2 ▸ Below.refl _ _⟩) (at_top rfl)) ?_
  refine blp_v 5 rfl rfl (by kernel_rfl) (rgV (li := [(28, _)]) rfl (w_free rfl) ⟨g_dep 3 (by kernel_rfl) (at_dep rfl rfl rfl), trivial⟩ (fun w hw => rn_build (us := [(0, .int .u64 _)]) rfl (bld_96_0 _)) (at_top rfl)) ?_
  refine blp_q 6 rfl rfl (by kernel_rfl) (isRow W.heap.size 1 96 _) (stab_isRow) (rg_rowV (us := [.agg (List.toArray [_, _, _])]) rfl (w_free rfl) Try.underlying42 Try.sizeOf96 Try.zeroValue96 rfl rfl ⟨p_tmp (g_dep 4 (by kernel_rfl) (at_dep rfl rfl rfl)), trivial⟩ (bs_42_1 _ _ _) (at_top rfl)) ?_
  refine blp_app 7 rfl rfl ?_
  refine blp_late 8 rfl rfl (rgV (li := [(3, _)]) rfl (w_free rfl) ⟨g_fr (by kernel_rfl) rfl, trivial⟩ (fun w hw => rn_field (o' := 4) fa_45_3 rfl rfl) (at_top rfl)) (lgV (li := [(3, _)]) rfl (w_free rfl) ⟨g_fr (by kernel_rfl) rfl, trivial⟩ (fun w => rn_field (o' := 4) fa_45_3 rfl rfl) (at_top rfl) rfl) ?_
  refine blp_nil ⟨_, _, g_dep 1 (by kernel_rfl) (at_dep rfl rfl rfl), g_dep 5 (by kernel_rfl) (at_dep rfl rfl rfl), rowOf_isRow rfl rfl, ?_⟩
  intro A5 v5 news5 W5 hbR hqA5 hS'
  clear hS; have hS := hS'; clear hS'
  cases hqA5
  refine fin_v ?_
  refine fin_v ?_
  refine fin_v ?_
  refine fin_v ?_
  refine fin_v ?_
  refine fin_p ?_; intro _ _
  refine fin_v ?_
  refine fin_v ?_
  obtain ⟨g9, c9, e9, _, _⟩ := (hS.row 0 rfl).form (by show 0 < k + 1; omega)
  dsimp only at e9
  subst e9
  refine fin_nil ?_
  refine op_store (i := 0) (cs' := [_, _, _, _, _, _]) (O' := [_, _, _]) hS Try.sizeOf42 rfl rfl rfl rfl rfl rfl rfl ?_
  clear hS; intro W6 hS
  refine endF ?_
  refine XF.blkN ?_
  refine XF.thenN ?_
  refine regF ?_
  refine op_move rfl rfl ?_
  refine op_add rfl rfl (IntWalk.i64_in _ (by omega)) rfl ?_
  refine op_assign rfl rfl ?_
  refine endF ?_
  exact XF.round (m - (k + 1)) [(1, _), (2, _), (3, _), (4, _)] (by omega) ⟨rfl, rfl, rfl, rfl, trivial⟩ ⟨k + 1, _, by omega, rfl, rfl, by rw [unit_snoc hk, flat_snoc]; exact hS.clear⟩
 ·have hc22 := of_decide_eq_false hc; clear hc
  refine exitF ?_
  refine XF.thenX ?_
  refine XF.thenX ?_
  refine XF.blkX ?_
  refine XF.blkN ?_
  refine XF.thenN ?_
  refine seqF ?_
  obtain rfl : k = m := by omega
  have hrow := hS.row 0 rfl
  have ht : (unitC k).take k = unitC k := List.take_of_length_le (by rw [unit_length]; exact Nat.le_refl _)
  simp only [ht] at hrow
  obtain ⟨hn, a9, c9, rfl, _, _⟩ := crow_of_own hrow
  clear hrow
  refine regF ?_
  refine op_loadA (vs := [_, _, _, _, _, _]) Try.isAgg45 Try.sizeOf45 rfl (CellsAt.own (j := 0) (m := 6) (hS.at_ 0 rfl) rfl) rfl ?_
  refine op_storeA (i := 1) (vs := [_, _, _, _, _, _]) (cs' := [_, _, _, _, _, _]) (O' := [_, _, _]) hS Try.sizeOf45 rfl rfl rfl rfl rfl rfl rfl ?_
  clear hS; intro W7 hS
  refine endF (XF.thenN ?_)
  refine retF ?_
  refine XF.res (resC1 (vs := [_, _, _, _, _, _]) Try.results35 Try.isAgg45 Try.sizeOf45 rfl (CellsAt.own (j := 0) (m := 6) (hS.at_ 1 rfl) rfl)) ?_
  have hrow := hS.row 0 rfl
  simp only [ht] at hrow
  obtain ⟨_, a8, c8, e8, hr9, hf9⟩ := crow_of_own hrow
  cases e8
  have e9 : (unitC k).length = k := unit_length k
  refine ⟨cellsF a9 c9 (unitC k), ?_, one_f4 hm hr9 (fun ad e => (hf9 ad e).1), hS.below⟩
  show _ = Ending.returned (Value.agg #[.bool false, .int .i64 0, .int .u64 ((0 : Nat) : Int), .slice none 0 0, .slice a9 (unitC k).length c9, .slice none 0 0])
  rw [e9]
  rfl
theorem oneR_plain (t n : Int) (sa : Option Addr) (sc : Nat) (w : World) (hp : plainB t n 0 = true) : Calls Try.prog 35 #[.agg #[.int .i64 t, .int .i64 n, .slice sa 0 sc]] w (WRet (.one t n) (.one (oneP t n)) w) := by
 by_cases h4 : t = 4
 ·subst h4
  obtain ⟨m, rfl, hm⟩ := dim3 hp (.inr rfl)
  exact oneR_4 m sa sc w hm
 ·exact oneR_not4 t n sa sc w hp h4
theorem oneR_ok {S : PS} {sf : SF} {w : World} (hs : SIs w S sf) (hok : S.ok) : Calls Try.prog 35 #[sf.val] w (WRet S (oneX S) w) := by
 cases S with
 | one t n =>
  obtain ⟨a, c, rfl⟩ := hs
  exact oneR_plain _ _ _ _ _ hok
 | two t n u m =>
  obtain ⟨b, off, c, a1, c1, a2, c2, rfl, h1, h2⟩ := hs
  exact oneR_pair _ _ _ _ _ _ _ _ _ _ _ _ h1 h2 hok.1 hok.2 (fun W => oneR_plain _ _ _ _ _ hok.1) (fun W => oneR_plain _ _ _ _ _ hok.2)
theorem OneR_ok (S : PS) (sf : SF) (w : World) (hs : SIs w S sf) (hok : S.ok) :
  Calls Try.prog 11 #[sf.val] w (WRet2 S (oneX S) 0 w) := by
 refine enterF (args := [sf.val]) Try.func11 rfl Try.ntmps11 rfl ?_
 have hS := St.start w
 refine seqF (regF ?_)
 refine op_box (cs := [_, _, _]) hS rfl rfl rfl ?_
 clear hS; intro B1 W1 hS
 refine op_alloc (cs := [_, _, _, _, _, _]) hS Try.zeroValue45 rfl rfl ?_
 clear hS; intro B2 W2 hS
 refine op_assign rfl rfl ?_
 refine endF (XF.thenN ?_)
 refine seqF ?_
 refine seqF (regF ?_)
 refine op_loadA (vs := [_, _, _]) Try.isAgg25 Try.sizeOf25 rfl (CellsAt.own (j := 0) (m := 3) (hS.at_ 1 rfl) rfl) rfl ?_
 refine op_call (vs := [_]) hS goes_34 rfl (spaceR_ok (hs.below hS.below) hok) rfl ?_
 rintro e W3 ⟨rfl, hb⟩
 refine ⟨_, rfl, hb, fun hS' => ?_⟩
 clear hS; have hS := hS'; clear hS' hb
 refine op_neq rfl rfl rfl ?_
 refine endF (XF.thenN ?_)
 refine condF rfl (fun hc => absurd (of_decide_eq_true hc) (by omega)) (fun hc => ?_)
 have hc := of_decide_eq_false hc
 refine skipF ?_
 refine XF.thenN ?_
 refine seqF (regF ?_)
 refine op_loadA (vs := [_, _, _]) Try.isAgg25 Try.sizeOf25 rfl (CellsAt.own (j := 0) (m := 3) (hS.at_ 1 rfl) rfl) rfl ?_
 have hsz := hS.below.size
 refine op_call (vs := [_]) hS goes_35 rfl (oneR_ok (hs.below hS.below) hok) rfl ?_
 rintro e W4 ⟨f, rfl, hn, hb⟩
 refine ⟨_, rfl, hb, fun hS' => ?_⟩
 clear hS; have hS := hS'; clear hS'
 refine op_storeA (i := 0) (vs := [_, _, _, _, _, _]) (cs' := [_, _, _, _, _, _]) (O' := [_, _]) hS Try.sizeOf45 rfl rfl rfl rfl rfl rfl rfl ?_
 clear hS; intro W5 hS
 refine op_assign rfl rfl ?_
 refine endF (XF.thenN ?_)
 refine retF ?_
 refine XF.res (resCT (vs := [_, _, _, _, _, _]) Try.results11 Try.isAgg45 Try.sizeOf45 rfl (CellsAt.own (j := 0) (m := 6) (hS.at_ 0 rfl) rfl) rfl) ?_
 exact ⟨f, rfl, (hn.agree (hS.since 0 rfl)).mono hsz, hS.below⟩
end Go.Proofs.Ytpkcaabbcoiiiaa
namespace Go.Proofs.Ytpkcaabbcoiiiaa
open Go.RowKit
set_option maxHeartbeats 1000000 in
theorem jn_00 (f f2 : Int) (w : World) : Calls Try.prog 96 #[.agg #[.int .u64 f, .int .i64 0, .int .i64 0], .agg #[.int .u64 f2, .int .i64 0, .int .i64 0]] w fun e w' => e = .returned (.agg #[.int .u64 (bits .or .u64 f f2), .int .i64 0, .int .i64 0]) ∧ Below w.heap.size w w' := by
 go_enter Try.func96, Try.ntmps96
 go_wp2
 all_goals (try go_region)
 all_goals go_wp2
 all_goals refine bodyPost_ret (v := .agg #[.int .u64 (bits .or .u64 f f2), .int .i64 0, .int .i64 0]) (by simp [results, Try.results96, go_sem]) rfl ⟨rfl, ?_⟩
 all_goals repeat (first | exact Below.refl _ _ | refine Below.drew ?_ | (refine Below.setCell ?_ (by simp) _) | (refine Below.alloc ?_ (by simp; try omega) _))
set_option maxHeartbeats 1000000 in
theorem jn_01 (f f2 : Int) (v2 : Int) (w : World) : Calls Try.prog 96 #[.agg #[.int .u64 f, .int .i64 0, .int .i64 0], .agg #[.int .u64 f2, .int .i64 1, .int .i64 v2]] w fun e w' => e = .returned (.agg #[.int .u64 (bits .or .u64 f f2), .int .i64 1, .int .i64 v2]) ∧ Below w.heap.size w w' := by
 go_enter Try.func96, Try.ntmps96
 go_wp2
 all_goals (try go_region)
 all_goals go_wp2
 all_goals refine bodyPost_ret (v := .agg #[.int .u64 (bits .or .u64 f f2), .int .i64 1, .int .i64 v2]) (by simp [results, Try.results96, go_sem]) rfl ⟨rfl, ?_⟩
 all_goals repeat (first | exact Below.refl _ _ | refine Below.drew ?_ | (refine Below.setCell ?_ (by simp) _) | (refine Below.alloc ?_ (by simp; try omega) _))
set_option maxHeartbeats 1000000 in
theorem jn_02 (f f2 : Int) (w : World) : Calls Try.prog 96 #[.agg #[.int .u64 f, .int .i64 0, .int .i64 0], .agg #[.int .u64 f2, .int .i64 2, .int .i64 0]] w fun e w' => e = .returned (.agg #[.int .u64 0, .int .i64 2, .int .i64 0]) ∧ Below w.heap.size w w' := by
 go_enter Try.func96, Try.ntmps96
 go_wp2
 all_goals (try go_region)
 all_goals go_wp2
 all_goals refine bodyPost_ret (v := .agg #[.int .u64 0, .int .i64 2, .int .i64 0]) (by simp [results, Try.results96, go_sem]) rfl ⟨rfl, ?_⟩
 all_goals repeat (first | exact Below.refl _ _ | refine Below.drew ?_ | (refine Below.setCell ?_ (by simp) _) | (refine Below.alloc ?_ (by simp; try omega) _))
set_option maxHeartbeats 1000000 in
theorem jn_10 (f f2 : Int) (v : Int) (w : World) : Calls Try.prog 96 #[.agg #[.int .u64 f, .int .i64 1, .int .i64 v], .agg #[.int .u64 f2, .int .i64 0, .int .i64 0]] w fun e w' => e = .returned (.agg #[.int .u64 (bits .or .u64 f f2), .int .i64 1, .int .i64 v]) ∧ Below w.heap.size w w' := by
 go_enter Try.func96, Try.ntmps96
 go_wp2
 all_goals (try go_region)
 all_goals go_wp2
 all_goals refine bodyPost_ret (v := .agg #[.int .u64 (bits .or .u64 f f2), .int .i64 1, .int .i64 v]) (by simp [results, Try.results96, go_sem]) rfl ⟨rfl, ?_⟩
 all_goals repeat (first | exact Below.refl _ _ | refine Below.drew ?_ | (refine Below.setCell ?_ (by simp) _) | (refine Below.alloc ?_ (by simp; try omega) _))
set_option maxHeartbeats 1000000 in
theorem jn_11 (f f2 : Int) (v : Int) (w : World) : Calls Try.prog 96 #[.agg #[.int .u64 f, .int .i64 1, .int .i64 v], .agg #[.int .u64 f2, .int .i64 1, .int .i64 v]] w fun e w' => e = .returned (.agg #[.int .u64 (bits .or .u64 f f2), .int .i64 1, .int .i64 v]) ∧ Below w.heap.size w w' := by
 go_enter Try.func96, Try.ntmps96
 go_wp2
 all_goals (try go_region)
 all_goals go_wp2
 all_goals refine bodyPost_ret (v := .agg #[.int .u64 (bits .or .u64 f f2), .int .i64 1, .int .i64 v]) (by simp [results, Try.results96, go_sem]) rfl ⟨rfl, ?_⟩
 all_goals repeat (first | exact Below.refl _ _ | refine Below.drew ?_ | (refine Below.setCell ?_ (by simp) _) | (refine Below.alloc ?_ (by simp; try omega) _))
set_option maxHeartbeats 1000000 in
theorem jn_1x (f f2 : Int) (v v2 : Int) (hv : (v == v2) = false) (w : World) : Calls Try.prog 96 #[.agg #[.int .u64 f, .int .i64 1, .int .i64 v], .agg #[.int .u64 f2, .int .i64 1, .int .i64 v2]] w fun e w' => e = .returned (.agg #[.int .u64 0, .int .i64 2, .int .i64 0]) ∧ Below w.heap.size w w' := by
 go_enter Try.func96, Try.ntmps96
 go_wp2
 all_goals (try go_region)
 all_goals go_wp2
 all_goals refine bodyPost_ret (v := .agg #[.int .u64 0, .int .i64 2, .int .i64 0]) (by simp [results, Try.results96, go_sem]) rfl ⟨rfl, ?_⟩
 all_goals repeat (first | exact Below.refl _ _ | refine Below.drew ?_ | (refine Below.setCell ?_ (by simp) _) | (refine Below.alloc ?_ (by simp; try omega) _))
set_option maxHeartbeats 1000000 in
theorem jn_12 (f f2 : Int) (v : Int) (w : World) : Calls Try.prog 96 #[.agg #[.int .u64 f, .int .i64 1, .int .i64 v], .agg #[.int .u64 f2, .int .i64 2, .int .i64 0]] w fun e w' => e = .returned (.agg #[.int .u64 0, .int .i64 2, .int .i64 0]) ∧ Below w.heap.size w w' := by
 go_enter Try.func96, Try.ntmps96
 go_wp2
 all_goals (try go_region)
 all_goals go_wp2
 all_goals refine bodyPost_ret (v := .agg #[.int .u64 0, .int .i64 2, .int .i64 0]) (by simp [results, Try.results96, go_sem]) rfl ⟨rfl, ?_⟩
 all_goals repeat (first | exact Below.refl _ _ | refine Below.drew ?_ | (refine Below.setCell ?_ (by simp) _) | (refine Below.alloc ?_ (by simp; try omega) _))
set_option maxHeartbeats 1000000 in
theorem jn_20 (f f2 : Int) (w : World) : Calls Try.prog 96 #[.agg #[.int .u64 f, .int .i64 2, .int .i64 0], .agg #[.int .u64 f2, .int .i64 0, .int .i64 0]] w fun e w' => e = .returned (.agg #[.int .u64 0, .int .i64 2, .int .i64 0]) ∧ Below w.heap.size w w' := by
 go_enter Try.func96, Try.ntmps96
 go_wp2
 all_goals (try go_region)
 all_goals go_wp2
 all_goals refine bodyPost_ret (v := .agg #[.int .u64 0, .int .i64 2, .int .i64 0]) (by simp [results, Try.results96, go_sem]) rfl ⟨rfl, ?_⟩
 all_goals repeat (first | exact Below.refl _ _ | refine Below.drew ?_ | (refine Below.setCell ?_ (by simp) _) | (refine Below.alloc ?_ (by simp; try omega) _))
set_option maxHeartbeats 1000000 in
theorem jn_21 (f f2 : Int) (v2 : Int) (w : World) : Calls Try.prog 96 #[.agg #[.int .u64 f, .int .i64 2, .int .i64 0], .agg #[.int .u64 f2, .int .i64 1, .int .i64 v2]] w fun e w' => e = .returned (.agg #[.int .u64 0, .int .i64 2, .int .i64 0]) ∧ Below w.heap.size w w' := by
 go_enter Try.func96, Try.ntmps96
 go_wp2
 all_goals (try go_region)
 all_goals go_wp2
 all_goals refine bodyPost_ret (v := .agg #[.int .u64 0, .int .i64 2, .int .i64 0]) (by simp [results, Try.results96, go_sem]) rfl ⟨rfl, ?_⟩
 all_goals repeat (first | exact Below.refl _ _ | refine Below.drew ?_ | (refine Below.setCell ?_ (by simp) _) | (refine Below.alloc ?_ (by simp; try omega) _))
set_option maxHeartbeats 1000000 in
theorem jn_22 (f f2 : Int) (w : World) : Calls Try.prog 96 #[.agg #[.int .u64 f, .int .i64 2, .int .i64 0], .agg #[.int .u64 f2, .int .i64 2, .int .i64 0]] w fun e w' => e = .returned (.agg #[.int .u64 0, .int .i64 2, .int .i64 0]) ∧ Below w.heap.size w w' := by
 go_enter Try.func96, Try.ntmps96
 go_wp2
 all_goals (try go_region)
 all_goals go_wp2
 all_goals refine bodyPost_ret (v := .agg #[.int .u64 0, .int .i64 2, .int .i64 0]) (by simp [results, Try.results96, go_sem]) rfl ⟨rfl, ?_⟩
 all_goals repeat (first | exact Below.refl _ _ | refine Below.drew ?_ | (refine Below.setCell ?_ (by simp) _) | (refine Below.alloc ?_ (by simp; try omega) _))
theorem jn_any (a b : Cl) (ha : a.ok) (hb : b.ok) (w : World) : Calls Try.prog 96 #[a.val, b.val] w (JoinPost a b w) := by
 obtain ⟨f, k, v⟩ := a
 obtain ⟨f2, k2, v2⟩ := b
 obtain ⟨hf, hk⟩ := ha
 obtain ⟨hf2, hk2⟩ := hb
 simp only at hf hk hf2 hk2
 have ho := or_cast f f2 hf hf2
 rcases kind_cases hk with ⟨rfl, rfl⟩ | rfl | ⟨rfl, rfl⟩ <;> rcases kind_cases hk2 with ⟨rfl, rfl⟩ | rfl | ⟨rfl, rfl⟩
 ·exact (jn_00 f f2 w).mono (to_post (by simp [joinK, ho]) (by simp [joinK]) (by simp [joinV]))
 ·exact (jn_01 f f2 v2 w).mono (to_post (by simp [joinK, ho]) (by simp [joinK]) (by simp [joinV]))
 ·exact (jn_02 f f2 w).mono (to_post (by simp [joinK]) (by simp [joinK]) (by simp [joinV]))
 ·exact (jn_10 f f2 v w).mono (to_post (by simp [joinK, ho]) (by simp [joinK]) (by simp [joinV]))
 ·by_cases hv : v = v2
  ·subst hv
   exact (jn_11 f f2 v w).mono (to_post (by simp [joinK, ho]) (by simp [joinK]) (by simp [joinV]))
  ·exact (jn_1x f f2 v v2 (by simp [hv]) w).mono (to_post (by simp [joinK, hv]) (by simp [joinK, hv]) (by simp [joinV, hv]))
 ·exact (jn_12 f f2 v w).mono (to_post (by simp [joinK]) (by simp [joinK]) (by simp [joinV]))
 ·exact (jn_20 f f2 w).mono (to_post (by simp [joinK]) (by simp [joinK]) (by simp [joinV]))
 ·exact (jn_21 f f2 v2 w).mono (to_post (by simp [joinK]) (by simp [joinK]) (by simp [joinV]))
 ·exact (jn_22 f f2 w).mono (to_post (by simp [joinK]) (by simp [joinK]) (by simp [joinV]))
end Go.Proofs.Ytpkcaabbcoiiiaa
namespace Go.Proofs.Ytpkcaabbcoiiiaa
open Go Go.RowKit
theorem has_bit {f k : Nat} (hk : k < 64) : hasB f (k : Int) = f.testBit k := by
 unfold hasB
 rw [decide_eq_true (by omega), decide_eq_true (by omega), Int.toNat_natCast]
 rfl
theorem flat_step {xs : List Cl} {k : Nat} {c : Cl} (h : xs[k]? = some c) : flat (xs.take (k + 1)) = flat (xs.take k) ++ vals c := by
 rw [List.take_add_one, h]; exact flat_snoc _ _
theorem behindR_is (a : Option Addr) (cap len : Nat) (row : List Cl) (c : Cl) (w : World) (hlen : row.length = len) (hm : len ≤ 64) (hra : CRow w a row) (hok : ∀ (i : Nat) x, row[i]? = some x → x.ok) (hc : c.ok) :
  Calls Try.prog 68 #[.slice a len cap, c.val] w (fun e w' => e = .returned (ofC row c).val ∧ Below w.heap.size w w') := by
 refine enterF (args := [.slice a len cap, c.val]) Try.func68 rfl Try.ntmps68 rfl ?_
 have hS := St.start w
 refine seqF (regF ?_)
 refine op_box (cs := [_, _, _]) hS rfl rfl rfl ?_
 clear hS; intro B1 W1 hS
 refine op_alloc (cs := [_, _, _]) hS Try.zeroValue96 rfl rfl ?_
 clear hS; intro B2 W2 hS
 refine endF (XF.thenN ?_)
 refine seqF (regF ?_)
 refine op_field (o' := 1) fa_96_1 rfl rfl rfl ?_
 refine op_load Try.isAgg94 rfl (cell_own (hS.at_ 1 rfl) rfl) rfl ?_
 refine op_field (o' := 2) fa_96_2 rfl rfl rfl ?_
 refine op_load Try.isAgg2 rfl (cell_own (hS.at_ 1 rfl) rfl) rfl ?_
 refine op_build (us := [(1, .int .i64 _), (2, .int .i64 _)]) rfl (bld_96_1_2 _ _) rfl ?_
 refine op_alloc (cs := [_, _, _]) hS Try.zeroValue96 rfl rfl ?_
 clear hS; intro B3 W3 hS
 refine op_storeA (i := 0) (vs := [_, _, _]) (cs' := [_, _, _]) (O' := [_, _, _]) hS Try.sizeOf96 rfl rfl rfl rfl rfl rfl rfl ?_
 clear hS; intro W4 hS
 refine endF (XF.thenN ?_)
 refine seqF ?_
 refine seqF (regF ?_)
 refine op_assign rfl rfl ?_
 refine endF (XF.thenN ?_)
 refine blockF ?_
 refine loopF (fun q l W => ∃ k : Nat, k ≤ len ∧ q = len - k ∧ l = [(0, .slice a len cap), (3, .pointer (some ⟨B1, 0, none⟩)), (4, .pointer (some ⟨B2, 0, none⟩)), (5, .pointer (some ⟨B3, 0, none⟩)), (6, .int .i64 (k : Int))] ∧ St w [(B3, [.int .u64 ((ofTo row c k).f : Int), .int .i64 (ofTo row c k).k, .int .i64 (ofTo row c k).v], 96), (B2, [.int .u64 0, .int .i64 0, .int .i64 0], 96), (B1, [.int .u64 (c.f : Int), .int .i64 c.k, .int .i64 c.v], 96)] [] [] W) (len - 0) ([(0, _), (3, _), (4, _), (5, _), (6, _)]) ⟨rfl, rfl, rfl, rfl, rfl, trivial⟩ (⟨0, Nat.zero_le _, rfl, rfl, hS.clear⟩) ?_
 clear hS
 rintro q l W ⟨k, hkm, rfl, rfl, hS⟩
 refine seqF ?_
 refine seqF (regF ?_)
 refine op_move rfl rfl ?_
 refine op_move rfl rfl ?_
 refine op_len Try.underlying42 rfl rfl ?_
 refine op_lss rfl rfl rfl ?_
 refine endF (XF.thenN ?_)
 refine condF rfl (fun hc => ?_) (fun hc => ?_)
 ·have hc15 := of_decide_eq_true hc; clear hc
  have hk : k < len := by omega
  obtain ⟨ba, offa, x, rfl, hx, hba, a0, a1, a2⟩ := (hra.below hS.below).at_ (k := k) (by omega)
  have k1 : CellsAt W ba (offa + k * 3) [.int .u64 (x.f : Int), .int .i64 x.k, .int .i64 x.v] := ⟨a0, a1, a2, trivial⟩
  refine skipF ?_
  refine XF.thenN ?_
  refine seqF ?_
  refine blockF ?_
  refine seqF (regF ?_)
  refine op_field (o' := 0) fa_96_0 rfl rfl rfl ?_
  refine op_load Try.isAgg38 rfl (cell_own (hS.at_ 2 rfl) rfl) rfl ?_
  refine op_move rfl rfl ?_
  refine op_call (vs := [_, _]) hS goes_95 rfl (hasR_is c.f (k : Int) (c.f.testBit k) (has_bit (by omega)) hc.1 _) rfl ?_
  rintro e W5 ⟨rfl, rfl⟩
  refine ⟨_, rfl, Below.refl _ _, fun hS' => ?_⟩
  clear hS; have hS := hS'; clear hS'
  refine endF (XF.thenN ?_)
  refine condF rfl (fun hc => ?_) (fun hc => ?_)
  ·have hc21 := hc; clear hc
   refine regBK followsM 6 hS rfl rfl (by kernel_rfl) (by kernel_rfl) (by kernel_rfl) (fun d hd => by cases hd) ?_
   refine bl_cons 1 rfl (isV _) (stab_isV _) (rgV (li := [(5, _)]) rfl (w_free rfl) ⟨g_fr (by kernel_rfl) rfl, trivial⟩ (fun w hw => rn_loadA (vs := [_, _, _]) Try.isAgg96 Try.sizeOf96 rfl (CellsAt.agree (below_agree hw 0) (Nat.zero_le _) (CellsAt.own (j := 0) (m := 3) (hS.at_ 0 rfl) rfl))) (at_top rfl)) ?_
   refine bl_cons 2 rfl (isV _) (stab_isV _) (rgV (li := [(0, _)]) rfl (w_free rfl) ⟨g_fr (by kernel_rfl) rfl, trivial⟩ (fun w hw => rn_move rfl) (at_top rfl)) ?_
   refine bl_cons 3 rfl (isV _) (stab_isV _) (rgV (li := [(6, _)]) rfl (w_free rfl) ⟨g_fr (by kernel_rfl) rfl, trivial⟩ (fun w hw => rn_move rfl) (at_top rfl)) ?_
   refine bl_cons 4 rfl (isV _) (stab_isV _) (rgV (li := [(23, _), (24, _)]) rfl (w_free rfl) ⟨g_dep 1 (by kernel_rfl) (at_dep rfl rfl rfl), g_dep 2 (by kernel_rfl) (at_dep rfl rfl rfl), trivial⟩ (fun w hw => rn_indexA  Try.underlying42 Try.sizeOf96 rfl rfl rfl (by omega) rfl) (at_top rfl)) ?_
   refine bl_cons 5 rfl (isV _) (stab_isV _) (rgV (li := [(25, _)]) rfl (w_free rfl) ⟨g_dep 3 (by kernel_rfl) (at_dep rfl rfl rfl), trivial⟩ (fun w hw => rn_loadA (vs := [_, _, _]) Try.isAgg96 Try.sizeOf96 rfl (CellsAt.agree (below_agree hw 0) (Nat.zero_le _) (by assumption))) (at_top rfl)) ?_
   refine bl_cons 6 rfl (isV (join (ofTo row c k) x).val) (stab_isV _) (rg_call [isV _, isV _] rfl goes_96 (w_free rfl) ⟨p_tmp (g_dep 0 (by kernel_rfl) (at_dep rfl rfl rfl)), p_tmp (g_dep 4 (by kernel_rfl) (at_dep rfl rfl rfl)), trivial⟩ (fun vs w' hb hh => by have e := holds_isV (us := [_, _]) hh; subst e; exact (jn_any (ofTo row c k) x (ofTo_ok hc hok k) (hok k x hx) _).mono fun e w2 h => ⟨_, h.1, rfl, h.2⟩) (at_top rfl)) ?_
   refine bl_nil ?_
   intro W6 hbR hS'
   clear hS; have hS := hS'; clear hS'
   refine fin_v ?_
   refine fin_v ?_
   refine fin_v ?_
   refine fin_v ?_
   refine fin_v ?_
   refine fin_v ?_
   refine fin_nil ?_
   refine op_storeA (i := 0) (vs := [_, _, _]) (cs' := [_, _, _]) (O' := [_, _, _]) hS Try.sizeOf96 rfl rfl rfl rfl rfl rfl rfl ?_
   clear hS; intro W7 hS
   refine endF ?_
   refine XF.blkN ?_
   refine XF.thenN ?_
   refine regF ?_
   refine op_move rfl rfl ?_
   refine op_add rfl rfl (IntWalk.i64_in _ (by omega)) rfl ?_
   refine op_assign rfl rfl ?_
   refine endF ?_
   exact XF.round (len - (k + 1)) [(0, _), (3, _), (4, _), (5, _), (6, _)] (by omega) ⟨rfl, rfl, rfl, rfl, rfl, trivial⟩ ⟨k + 1, by omega, rfl, rfl, by rw [ofTo_yes hc21 hx]; exact hS.clear⟩
  ·have hc21 := hc; clear hc
   refine skipF ?_
   refine XF.blkN ?_
   refine XF.thenN ?_
   refine regF ?_
   refine op_move rfl rfl ?_
   refine op_add rfl rfl (IntWalk.i64_in _ (by omega)) rfl ?_
   refine op_assign rfl rfl ?_
   refine endF ?_
   exact XF.round (len - (k + 1)) [(0, _), (3, _), (4, _), (5, _), (6, _)] (by omega) ⟨rfl, rfl, rfl, rfl, rfl, trivial⟩ ⟨k + 1, by omega, rfl, rfl, by rw [ofTo_no hc21]; exact hS.clear⟩
 ·have hc15 := of_decide_eq_false hc; clear hc
  refine exitF ?_
  refine XF.thenX ?_
  refine XF.thenX ?_
  refine XF.blkX ?_
  refine XF.thenN ?_
  refine seqF (regF ?_)
  refine op_loadA (vs := [_, _, _]) Try.isAgg96 Try.sizeOf96 rfl (CellsAt.own (j := 0) (m := 3) (hS.at_ 0 rfl) rfl) rfl ?_
  refine op_storeA (i := 1) (vs := [_, _, _]) (cs' := [_, _, _]) (O' := [_, _, _]) hS Try.sizeOf96 rfl rfl rfl rfl rfl rfl rfl ?_
  clear hS; intro W8 hS
  refine endF (XF.thenN ?_)
  refine retF ?_
  refine XF.res (resC1 (vs := [_, _, _]) Try.results68 Try.isAgg96 Try.sizeOf96 rfl (CellsAt.own (j := 0) (m := 3) (hS.at_ 1 rfl) rfl)) ?_
  have e1 : row.length = k := by omega
  exact ⟨by unfold ofC; rw [e1], hS.below⟩
end Go.Proofs.Ytpkcaabbcoiiiaa
namespace Go.Proofs.Ytpkcaabbcoiiiaa
open Go Go.RowKit
section
variable {w W : World} {k : Nat} {n : Int} {f g : WF} {x y : PF}
theorem ext_f2R (hx : PIs w 2 n f x) (hy : PIs w 2 n g y) (hf : f.z = false) (hg : g.z = false) (p0 : 0 ≤ f.c) (p1 : f.c ≤ n) (q0 : 0 ≤ g.c) (q1 : g.c ≤ n) : PNew k W 2 n (costF (min (f.c + g.c) n)) (extP 2 n x y) := by
 obtain ⟨rfl, _, _⟩ := hx.k2 hf
 obtain ⟨rfl, _, _⟩ := hy.k2 hg
 rw [ext_2]
 exact new_cost (.cost _ rfl (by omega) (by omega))
theorem ext_f4C {m : Nat} {a : Option Addr} {cap : Nat} (hx : PIs w 4 m f x) (hy : PIs w 4 m g y) (hf : f.z = false) (hg : g.z = false) (hv : CRow W a (thenC f.cells g.cells)) (hl : ∀ ad, a = some ad → k ≤ ad.block) : PNew k W 4 m (cellsF a cap (thenC f.cells g.cells)) (extP 4 m x y) := by
 obtain ⟨hx', h0⟩ := hx.k4 hf
 obtain ⟨hy', h1⟩ := hy.k4 hg
 have hv2 := val_then h0 h1
 rw [hx', hy', ext_4]
 exact new_cells (.cells m _ rfl rfl hv2) hv2.bits (by have := hv2.le; have := hv2.len; unfold maxLen; omega) hv hl
end
theorem thenR_plain (t n : Int) (sa : Option Addr) (sc : Nat) (f g : WF) (x y : PF) (w : World) (hp : plainB t n 0 = true) (hx : PIs w t n f x) (hy : PIs w t n g y) :
  Calls Try.prog 37 #[.agg #[.int .i64 t, .int .i64 n, .slice sa 0 sc], f.val, g.val] w (WRet (.one t n) (.one (extP t n x y)) w) := by
 refine enterF (args := [.agg #[.int .i64 t, .int .i64 n, .slice sa 0 sc], f.val, g.val]) Try.func37 rfl Try.ntmps37 rfl ?_
 have hS := St.start w
 refine seqF (regF ?_)
 refine op_box (cs := [_, _, _]) hS rfl rfl rfl ?_
 clear hS; intro B1 W1 hS
 refine op_box (cs := [_, _, _, _, _, _]) hS rfl rfl rfl ?_
 clear hS; intro B2 W2 hS
 refine op_box (cs := [_, _, _, _, _, _]) hS rfl rfl rfl ?_
 clear hS; intro B3 W3 hS
 refine op_alloc (cs := [_, _, _, _, _, _]) hS Try.zeroValue45 rfl rfl ?_
 clear hS; intro B4 W4 hS
 refine endF (XF.thenN ?_)
 refine seqF ?_
 refine seqF (regF ?_)
 refine op_field (o' := 0) fa_45_0 rfl rfl rfl ?_
 refine op_load Try.isAgg4 rfl (cell_own (hS.at_ 2 rfl) rfl) rfl ?_
 refine op_move rfl rfl ?_
 refine op_cases (d := 11) rfl (fun hc => ?_) (fun hc => ?_)
 ·have hg11 := hc; clear hc
  have hz := hg11
  refine op_notF (d := 11) rfl rfl rfl rfl ?_
  refine op_notF (d := 11) rfl rfl rfl rfl ?_
  refine op_pickT rfl rfl rfl ?_
  refine endF (XF.thenN ?_)
  refine condT rfl ?_
  refine seqF (regF ?_)
  refine op_build (us := [(0, .bool _)]) rfl (bld_45_0 _) rfl ?_
  refine op_storeA (i := 0) (vs := [_, _, _, _, _, _]) (cs' := [_, _, _, _, _, _]) (O' := [_, _, _, _]) hS Try.sizeOf45 rfl rfl rfl rfl rfl rfl rfl ?_
  clear hS; intro W5 hS
  refine endF (XF.thenN ?_)
  refine retF ?_
  refine XF.thenR ?_
  refine XF.res (resC1 (vs := [_, _, _, _, _, _]) Try.results37 Try.isAgg45 Try.sizeOf45 rfl (CellsAt.own (j := 0) (m := 6) (hS.at_ 0 rfl) rfl)) ?_
  exact ext_zL hx hz hS.below
 ·have hg11 := hc; clear hc
  have hf := hg11
  refine op_wantedF (d := 11) rfl rfl ?_
  refine op_field (o' := 0) fa_45_0 rfl rfl rfl ?_
  refine op_wantedF (d := 11) rfl rfl ?_
  refine op_load Try.isAgg4 rfl (cell_own (hS.at_ 1 rfl) rfl) rfl ?_
  refine op_pickF rfl rfl rfl ?_
  refine endF (XF.thenN ?_)
  refine condF rfl (fun hc => ?_) (fun hc => ?_)
  ·have hc14 := hc; clear hc
   refine seqF (regF ?_)
   refine op_build (us := [(0, .bool _)]) rfl (bld_45_0 _) rfl ?_
   refine op_storeA (i := 0) (vs := [_, _, _, _, _, _]) (cs' := [_, _, _, _, _, _]) (O' := [_, _, _, _]) hS Try.sizeOf45 rfl rfl rfl rfl rfl rfl rfl ?_
   clear hS; intro W6 hS
   refine endF (XF.thenN ?_)
   refine retF ?_
   refine XF.thenR ?_
   refine XF.res (resC1 (vs := [_, _, _, _, _, _]) Try.results37 Try.isAgg45 Try.sizeOf45 rfl (CellsAt.own (j := 0) (m := 6) (hS.at_ 0 rfl) rfl)) ?_
   exact ext_zR hy hc14 hS.below
  ·have hc14 := hc; clear hc
   have hg := hc14
   refine skipF ?_
   refine XF.thenN ?_
   refine seqF (regF ?_)
   refine op_build (us := []) rfl (bld_45) rfl ?_
   refine op_alloc (cs := [_, _, _, _, _, _]) hS Try.zeroValue45 rfl rfl ?_
   clear hS; intro B7 W7 hS
   refine op_storeA (i := 0) (vs := [_, _, _, _, _, _]) (cs' := [_, _, _, _, _, _]) (O' := [_, _, _, _, _]) hS Try.sizeOf45 rfl rfl rfl rfl rfl rfl rfl ?_
   clear hS; intro W8 hS
   refine endF (XF.thenN ?_)
   refine seqF ?_
   refine seqF (regF ?_)
   refine op_field (o' := 0) fa_25_0 rfl rfl rfl ?_
   refine op_load Try.isAgg22 rfl (cell_own (hS.at_ 4 rfl) rfl) rfl ?_
   refine endF (XF.thenN ?_)
   refine blockF ?_
   refine seqF (regF ?_)
   refine op_eql rfl rfl rfl ?_
   refine op_assign rfl rfl ?_
   refine endF (XF.thenN ?_)
   refine condF rfl (fun hc => ?_) (fun hc => ?_)
   ·have hc19 := of_decide_eq_true hc; clear hc
    have e2 : t = 2 := hc19
    subst e2
    obtain ⟨_, p0, p1⟩ := hx.k2 hf
    obtain ⟨_, q0, q1⟩ := hy.k2 hg
    obtain ⟨d0, d1, _⟩ := plainB_dim hp
    refine regF ?_
    refine op_field (o' := 1) fa_45_1 rfl rfl rfl ?_
    refine op_load Try.isAgg3 rfl (cell_own (hS.at_ 3 rfl) rfl) rfl ?_
    refine op_field (o' := 1) fa_45_1 rfl rfl rfl ?_
    refine op_load Try.isAgg3 rfl (cell_own (hS.at_ 2 rfl) rfl) rfl ?_
    refine op_add rfl rfl (IntWalk.i64_in _ (by omega)) rfl ?_
    refine op_field (o' := 1) fa_25_1 rfl rfl rfl ?_
    refine op_load Try.isAgg3 rfl (cell_own (hS.at_ 4 rfl) rfl) rfl ?_
    refine op_min rfl rfl rfl ?_
    refine op_field (o' := 1) fa_45_1 rfl rfl rfl ?_
    refine op_store (i := 0) (cs' := [_, _, _, _, _, _]) (O' := [_, _, _, _, _]) hS Try.sizeOf3 rfl rfl rfl rfl rfl rfl rfl ?_
    clear hS; intro W9 hS
    refine endF ?_
    refine XF.blkN ?_
    refine XF.thenN ?_
    refine seqF (regF ?_)
    refine op_loadA (vs := [_, _, _, _, _, _]) Try.isAgg45 Try.sizeOf45 rfl (CellsAt.own (j := 0) (m := 6) (hS.at_ 0 rfl) rfl) rfl ?_
    refine op_storeA (i := 1) (vs := [_, _, _, _, _, _]) (cs' := [_, _, _, _, _, _]) (O' := [_, _, _, _, _]) hS Try.sizeOf45 rfl rfl rfl rfl rfl rfl rfl ?_
    clear hS; intro W10 hS
    refine endF (XF.thenN ?_)
    refine retF ?_
    refine XF.res (resC1 (vs := [_, _, _, _, _, _]) Try.results37 Try.isAgg45 Try.sizeOf45 rfl (CellsAt.own (j := 0) (m := 6) (hS.at_ 1 rfl) rfl)) ?_
    exact wret_one (ext_f2R hx hy hf hg p0 p1 q0 q1) hS.below
   ·have hc19 := of_decide_eq_false hc; clear hc
    refine seqF (regF ?_)
    refine op_eql rfl rfl rfl ?_
    refine op_assign rfl rfl ?_
    refine endF (XF.thenN ?_)
    refine condF rfl (fun hc => ?_) (fun hc => ?_)
    ·have hc30 := of_decide_eq_true hc; clear hc
     have e3 : t = 3 := hc30
     subst e3
     obtain ⟨m, rfl, hm⟩ := dim3 hp (.inl rfl)
     refine regF ?_
     refine op_field (o' := 1) fa_25_1 rfl rfl rfl ?_
     refine op_load Try.isAgg3 rfl (cell_own (hS.at_ 4 rfl) rfl) rfl ?_
     refine op_field (o' := 2) fa_45_2 rfl rfl rfl ?_
     refine op_loadA (vs := [_, _]) Try.isAgg41 Try.sizeOf41 rfl (CellsAt.own (j := 2) (m := 2) (hS.at_ 3 rfl) rfl) rfl ?_
     refine op_field (o' := 2) fa_45_2 rfl rfl rfl ?_
     refine op_loadA (vs := [_, _]) Try.isAgg41 Try.sizeOf41 rfl (CellsAt.own (j := 2) (m := 2) (hS.at_ 2 rfl) rfl) rfl ?_
     have hsz := hS.below.size
     refine op_call (vs := [_, _, _]) hS goes_67 rfl (extR_is _ _ _ _ _ _ _ _ _ _ (hx.at_.fat (by have := hx.rows64 (l := 0); omega) |>.below hS.below) (hy.at_.fat (by have := hy.rows64 (l := 0); omega) |>.below hS.below) _ rfl _ rfl _ rfl _ _ hx.at_.rl hy.at_.rl) rfl ?_
     rintro e W11 ⟨a1, c1, rfl, hv, hl, hb⟩
     refine ⟨_, rfl, hb, fun hS' => ?_⟩
     clear hS; have hS := hS'; clear hS'
     refine op_move rfl rfl ?_
     refine op_extract rfl rfl rfl ?_
     refine op_extract rfl rfl rfl ?_
     refine op_field (o' := 2) fa_45_2 rfl rfl rfl ?_
     refine op_storeA (i := 0) (vs := [_, _]) (cs' := [_, _, _, _, _, _]) (O' := [_, _, _, _, _]) hS Try.sizeOf41 rfl rfl rfl rfl rfl rfl rfl ?_
     clear hS; intro W12 hS
     refine endF ?_
     refine XF.blkN ?_
     refine XF.thenN ?_
     refine seqF (regF ?_)
     refine op_loadA (vs := [_, _, _, _, _, _]) Try.isAgg45 Try.sizeOf45 rfl (CellsAt.own (j := 0) (m := 6) (hS.at_ 0 rfl) rfl) rfl ?_
     refine op_storeA (i := 1) (vs := [_, _, _, _, _, _]) (cs' := [_, _, _, _, _, _]) (O' := [_, _, _, _, _]) hS Try.sizeOf45 rfl rfl rfl rfl rfl rfl rfl ?_
     clear hS; intro W13 hS
     refine endF (XF.thenN ?_)
     refine retF ?_
     refine XF.res (resC1 (vs := [_, _, _, _, _, _]) Try.results37 Try.isAgg45 Try.sizeOf45 rfl (CellsAt.own (j := 0) (m := 6) (hS.at_ 1 rfl) rfl)) ?_
     exact wret_one (ext_f3 hx hy hf hg (hv.agree (fun ad e => (hl ad e).1) (hS.since 0 rfl)) (fun ad e => Nat.le_trans hsz (hl ad e).1)) hS.below
    ·have hc30 := of_decide_eq_false hc; clear hc
     refine seqF (regF ?_)
     refine op_eql rfl rfl rfl ?_
     refine op_assign rfl rfl ?_
     refine endF (XF.thenN ?_)
     refine condF rfl (fun hc => ?_) (fun hc => ?_)
     ·have hc43 := of_decide_eq_true hc; clear hc
      have e4 : t = 4 := hc43
      subst e4
      obtain ⟨m, rfl, hm⟩ := dim3 hp (.inr rfl)
      obtain ⟨hpx, vx⟩ := hx.k4 hf
      obtain ⟨hpy, vy⟩ := hy.k4 hg
      refine seqF (regF ?_)
      refine op_assign rfl rfl ?_
      refine endF (XF.thenN ?_)
      refine blockF ?_
      refine loopF (fun q l W => ∃ (k : Nat) (v : Value), k ≤ m ∧ q = m - k ∧ l = [(3, .pointer (some ⟨B1, 0, none⟩)), (4, .pointer (some ⟨B2, 0, none⟩)), (5, .pointer (some ⟨B3, 0, none⟩)), (6, .pointer (some ⟨B4, 0, none⟩)), (7, .pointer (some ⟨B7, 0, none⟩)), (8, .int .i64 (k : Int))] ∧ St w [(B7, [.bool false, .int .i64 0, .int .u64 0, .slice none 0 0, v, .slice none 0 0], 45), (B4, [.bool false, .int .i64 0, .int .u64 0, .slice none 0 0, .slice none 0 0, .slice none 0 0], 45), (B3, [.bool g.z, .int .i64 g.c, .int .u64 (g.g : Int), .slice g.ra g.rl g.rc, .slice g.ca g.cl g.cc, .slice g.pa g.pl g.pc], 45), (B2, [.bool f.z, .int .i64 f.c, .int .u64 (f.g : Int), .slice f.ra f.rl f.rc, .slice f.ca f.cl f.cc, .slice f.pa f.pl f.pc], 45), (B1, [.int .i64 4, .int .i64 (m : Int), .slice sa 0 sc], 25)] [⟨v, k, flat ((thenC f.cells g.cells).take k), 96, 3⟩] [] W) (m - 0) ([(3, _), (4, _), (5, _), (6, _), (7, _), (8, _)]) ⟨rfl, rfl, rfl, rfl, rfl, rfl, trivial⟩ (⟨0, .slice none 0 0, Nat.zero_le _, rfl, rfl, hS.clear.newG _ _⟩) ?_
      clear hS
      rintro q l W ⟨k, v, hkm, rfl, rfl, hS⟩
      refine seqF ?_
      refine seqF (regF ?_)
      refine op_move rfl rfl ?_
      refine op_field (o' := 1) fa_25_1 rfl rfl rfl ?_
      refine op_load Try.isAgg3 rfl (cell_own (hS.at_ 4 rfl) rfl) rfl ?_
      refine op_lss rfl rfl rfl ?_
      refine endF (XF.thenN ?_)
      refine condF rfl (fun hc => ?_) (fun hc => ?_)
      ·have hc48 := of_decide_eq_true hc; clear hc
       have hk : k < m := by omega
       have hlx := vx.len
       have hly := vy.len
       obtain ⟨ba, offa, y1, eca, hy1, hba, a0, a1, a2⟩ := (hy.at_.cells.below hS.below).at_ (k := k) (by omega)
       have k1 : CellsAt W ba (offa + k * 3) [.int .u64 (y1.f : Int), .int .i64 y1.k, .int .i64 y1.v] := ⟨a0, a1, a2, trivial⟩
       have h1 : (thenC f.cells g.cells)[k]? = some (ofC f.cells y1) := by unfold thenC; rw [List.getElem?_map, hy1]; rfl
       have hcl := hx.at_.cl
       have hclg := hy.at_.cl
       simp only [eca] at hS
       refine skipF ?_
       refine XF.thenN ?_
       refine seqF ?_
       refine blockF ?_
       refine regBP (p := 11) (k := 13) (gi := 0) (m := 1) followsM hS rfl rfl (by kernel_rfl) (by kernel_rfl) (by kernel_rfl) (fun d hd => by cases hd) rfl rfl Try.underlying42 inf_96 rfl rfl (by show 0 < 3; decide) rfl rfl rfl (by dsimp only; simp only [maxLen]; omega) (by dsimp only; show _ * 24 ≤ _; omega) ?_
       refine blp_v 1 rfl rfl (by kernel_rfl) (rgV (li := [(7, _)]) rfl (w_free rfl) ⟨g_fr (by kernel_rfl) rfl, trivial⟩ (fun w hw => rn_field (o' := 4) fa_45_3 rfl rfl) (at_top rfl)) ?_
       refine blp_v 2 rfl rfl (by kernel_rfl) (rgV (li := [(51, _)]) rfl (w_free rfl) ⟨g_dep 0 (by kernel_rfl) (at_dep rfl rfl rfl), trivial⟩ (fun w hw => rn_load Try.isAgg42 rfl ((below_agree hw 0).cell (Nat.zero_le _) (cell_own (hS.at_ 0 rfl) rfl))) (at_top rfl)) ?_
       refine blp_v 3 rfl rfl (by kernel_rfl) (rgV (li := [(4, _)]) rfl (w_free rfl) ⟨g_fr (by kernel_rfl) rfl, trivial⟩ (fun w hw => rn_field (o' := 4) fa_45_3 rfl rfl) (at_top rfl)) ?_
       refine blp_v 4 rfl rfl (by kernel_rfl) (rgV (li := [(53, _)]) rfl (w_free rfl) ⟨g_dep 2 (by kernel_rfl) (at_dep rfl rfl rfl), trivial⟩ (fun w hw => rn_load Try.isAgg42 rfl ((below_agree hw 0).cell (Nat.zero_le _) (cell_own (hS.at_ 3 rfl) rfl))) (at_top rfl)) ?_
       refine blp_v 5 rfl rfl (by kernel_rfl) (rgV (li := [(5, _)]) rfl (w_free rfl) ⟨g_fr (by kernel_rfl) rfl, trivial⟩ (fun w hw => rn_field (o' := 4) fa_45_3 rfl rfl) (at_top rfl)) ?_
       refine blp_v 6 rfl rfl (by kernel_rfl) (rgV (li := [(55, _)]) rfl (w_free rfl) ⟨g_dep 4 (by kernel_rfl) (at_dep rfl rfl rfl), trivial⟩ (fun w hw => rn_load Try.isAgg42 rfl ((below_agree hw 0).cell (Nat.zero_le _) (cell_own (hS.at_ 2 rfl) rfl))) (at_top rfl)) ?_
       refine blp_v 7 rfl rfl (by kernel_rfl) (rgV (li := [(8, _)]) rfl (w_free rfl) ⟨g_fr (by kernel_rfl) rfl, trivial⟩ (fun w hw => rn_move rfl) (at_top rfl)) ?_
       refine blp_v 8 rfl rfl (by kernel_rfl) (rgV (li := [(56, _), (57, _)]) rfl (w_free rfl) ⟨g_dep 5 (by kernel_rfl) (at_dep rfl rfl rfl), g_dep 6 (by kernel_rfl) (at_dep rfl rfl rfl), trivial⟩ (fun w hw => rn_indexA  Try.underlying42 Try.sizeOf96 rfl rfl rfl (by omega) rfl) (at_top rfl)) ?_
       refine blp_v 9 rfl rfl (by kernel_rfl) (rgV (li := [(58, _)]) rfl (w_free rfl) ⟨g_dep 7 (by kernel_rfl) (at_dep rfl rfl rfl), trivial⟩ (fun w hw => rn_loadA (vs := [_, _, _]) Try.isAgg96 Try.sizeOf96 rfl (CellsAt.agree (below_agree hw 0) (Nat.zero_le _) (by assumption))) (at_top rfl)) ?_
       refine blp_v 10 rfl rfl (by kernel_rfl) (rg_call [isV _, isV _] rfl goes_68 (w_free rfl) ⟨p_tmp (g_dep 3 (by kernel_rfl) (at_dep rfl rfl rfl)), p_tmp (g_dep 8 (by kernel_rfl) (at_dep rfl rfl rfl)), trivial⟩ (fun vs w' hb hh => by have e := holds_isV (us := [_, _]) hh; subst e; exact (behindR_is f.ca f.cc f.cl f.cells y1 _ hx.at_.cl (by omega) ((hx.at_.cells.below hS.below).below hb) vx.oks (vy.oks k y1 hy1)).mono fun e w2 h => ⟨_, h.1, rfl, h.2⟩) (at_top rfl)) ?_
       refine blp_q 11 rfl rfl (by kernel_rfl) (isRow W.heap.size 1 96 _) (stab_isRow) (rg_rowV (us := [.agg (List.toArray [_, _, _])]) rfl (w_free rfl) Try.underlying42 Try.sizeOf96 Try.zeroValue96 rfl rfl ⟨p_tmp (g_dep 9 (by kernel_rfl) (at_dep rfl rfl rfl)), trivial⟩ (bs_42_1 _ _ _) (at_top rfl)) ?_
       refine blp_app 12 rfl rfl ?_
       refine blp_late 13 rfl rfl (rgV (li := [(7, _)]) rfl (w_free rfl) ⟨g_fr (by kernel_rfl) rfl, trivial⟩ (fun w hw => rn_field (o' := 4) fa_45_3 rfl rfl) (at_top rfl)) (lgV (li := [(7, _)]) rfl (w_free rfl) ⟨g_fr (by kernel_rfl) rfl, trivial⟩ (fun w => rn_field (o' := 4) fa_45_3 rfl rfl) (at_top rfl) rfl) ?_
       refine blp_nil ⟨_, _, g_dep 1 (by kernel_rfl) (at_dep rfl rfl rfl), g_dep 10 (by kernel_rfl) (at_dep rfl rfl rfl), rowOf_isRow rfl rfl, ?_⟩
       intro A14 v14 news14 W14 hbR hqA14 hS'
       clear hS; have hS := hS'; clear hS'
       cases hqA14
       refine fin_v ?_
       refine fin_v ?_
       refine fin_v ?_
       refine fin_v ?_
       refine fin_v ?_
       refine fin_v ?_
       refine fin_v ?_
       refine fin_v ?_
       refine fin_v ?_
       refine fin_v ?_
       refine fin_p ?_; intro _ _
       refine fin_v ?_
       refine fin_v ?_
       obtain ⟨g9, c9, e9, _, _⟩ := (hS.row 0 rfl).form (by show 0 < k + 1; omega)
       dsimp only at e9
       subst e9
       refine fin_nil ?_
       refine op_store (i := 0) (cs' := [_, _, _, _, _, _]) (O' := [_, _, _, _, _]) hS Try.sizeOf42 rfl rfl rfl rfl rfl rfl rfl ?_
       clear hS; intro W15 hS
       refine endF ?_
       refine XF.blkN ?_
       refine XF.thenN ?_
       refine regF ?_
       refine op_move rfl rfl ?_
       refine op_add rfl rfl (IntWalk.i64_in _ (by omega)) rfl ?_
       refine op_assign rfl rfl ?_
       refine endF ?_
       simp only [← eca] at hS
       exact XF.round (m - (k + 1)) [(3, _), (4, _), (5, _), (6, _), (7, _), (8, _)] (by omega) ⟨rfl, rfl, rfl, rfl, rfl, rfl, trivial⟩ ⟨k + 1, _, by omega, rfl, rfl, by rw [flat_step h1]; exact hS.clear⟩
      ·have hc48 := of_decide_eq_false hc; clear hc
       refine exitF ?_
       refine XF.thenX ?_
       refine XF.thenX ?_
       refine XF.blkX ?_
       refine XF.blkN ?_
       refine XF.thenN ?_
       refine seqF ?_
       obtain rfl : k = m := by omega
       have hrow := hS.row 0 rfl
       have hln : (thenC f.cells g.cells).length = k := by unfold thenC; rw [List.length_map]; exact vy.len
       have ht0 : (thenC f.cells g.cells).take k = thenC f.cells g.cells := List.take_of_length_le (by rw [hln]; exact Nat.le_refl _)
       simp only [ht0] at hrow
       obtain ⟨hn, a9, c9, rfl, _, _⟩ := crow_of_own hrow
       clear hrow
       refine regF ?_
       refine op_loadA (vs := [_, _, _, _, _, _]) Try.isAgg45 Try.sizeOf45 rfl (CellsAt.own (j := 0) (m := 6) (hS.at_ 0 rfl) rfl) rfl ?_
       refine op_storeA (i := 1) (vs := [_, _, _, _, _, _]) (cs' := [_, _, _, _, _, _]) (O' := [_, _, _, _, _]) hS Try.sizeOf45 rfl rfl rfl rfl rfl rfl rfl ?_
       clear hS; intro W16 hS
       refine endF (XF.thenN ?_)
       refine retF ?_
       refine XF.res (resC1 (vs := [_, _, _, _, _, _]) Try.results37 Try.isAgg45 Try.sizeOf45 rfl (CellsAt.own (j := 0) (m := 6) (hS.at_ 1 rfl) rfl)) ?_
       have hrow := hS.row 0 rfl
       simp only [ht0] at hrow
       obtain ⟨_, a8, c8, e8, hr9, hf9⟩ := crow_of_own hrow
       cases e8
       refine ⟨cellsF a9 c9 (thenC f.cells g.cells), ?_, ext_f4C hx hy hf hg hr9 (fun ad e => (hf9 ad e).1), hS.below⟩
       show _ = Ending.returned (Value.agg #[.bool false, .int .i64 0, .int .u64 ((0 : Nat) : Int), .slice none 0 0, .slice a9 (thenC f.cells g.cells).length c9, .slice none 0 0])
       rw [hln]
       rfl
     ·have hc43 := of_decide_eq_false hc; clear hc
      refine seqF (regF ?_)
      refine op_eql rfl rfl rfl ?_
      refine op_assign rfl rfl ?_
      refine endF (XF.thenN ?_)
      refine condF rfl (fun hc => absurd (of_decide_eq_true hc) (by exact plain_ne5 hp)) (fun hc => ?_)
      have hc := of_decide_eq_false hc
      refine skipF ?_
      refine XF.blkN ?_
      refine XF.thenN ?_
      refine seqF (regF ?_)
      refine op_loadA (vs := [_, _, _, _, _, _]) Try.isAgg45 Try.sizeOf45 rfl (CellsAt.own (j := 0) (m := 6) (hS.at_ 0 rfl) rfl) rfl ?_
      refine op_storeA (i := 1) (vs := [_, _, _, _, _, _]) (cs' := [_, _, _, _, _, _]) (O' := [_, _, _, _, _]) hS Try.sizeOf45 rfl rfl rfl rfl rfl rfl rfl ?_
      clear hS; intro W17 hS
      refine endF (XF.thenN ?_)
      refine retF ?_
      refine XF.res (resC1 (vs := [_, _, _, _, _, _]) Try.results37 Try.isAgg45 Try.sizeOf45 rfl (CellsAt.own (j := 0) (m := 6) (hS.at_ 1 rfl) rfl)) ?_
      have e1 : t = 1 := by
       have := (plainB_tag hp).2
       omega
      subst e1
      exact wret_one (ext_f1 hx hy hf hg) hS.below
theorem thenR_pair (t n u m : Int) (a1 a2 : Option Addr) (c1 c2 b off sc : Nat) (w : World) (hs1 : S3 w b off ⟨t, n, a1, 0, c1⟩) (hs2 : S3 w b (off + 3) ⟨u, m, a2, 0, c2⟩) (hp1 : plainB t n 0 = true) (hp2 : plainB u m 0 = true)(fra fca : Option Addr) (frc fcc fpc fb fo : Nat) (f1 f2 : WF) (x1 x2 : PF) (hf6 : W6 w fb fo f1) (hf7 : W6 w fb (fo + 6) f2) (hx1 : PIs w t n f1 x1) (hx2 : PIs w u m f2 x2)(gra gca : Option Addr) (grc gcc gpc gb go : Nat) (g1 g2 : WF) (y1 y2 : PF) (hg6 : W6 w gb go g1) (hg7 : W6 w gb (go + 6) g2) (hy1 : PIs w t n g1 y1) (hy2 : PIs w u m g2 y2) :
  Calls Try.prog 37 #[.agg #[.int .i64 5, .int .i64 0, .slice (some ⟨b, off, none⟩) 2 sc], .agg #[.bool false, .int .i64 0, .int .u64 0, .slice fra 0 frc, .slice fca 0 fcc, .slice (some ⟨fb, fo, none⟩) 2 fpc], .agg #[.bool false, .int .i64 0, .int .u64 0, .slice gra 0 grc, .slice gca 0 gcc, .slice (some ⟨gb, go, none⟩) 2 gpc]] w (WRet (.two t n u m) (.two (extP t n x1 y1) (extP u m x2 y2)) w) := by
 refine enterF (args := [.agg #[.int .i64 5, .int .i64 0, .slice (some ⟨b, off, none⟩) 2 sc], .agg #[.bool false, .int .i64 0, .int .u64 0, .slice fra 0 frc, .slice fca 0 fcc, .slice (some ⟨fb, fo, none⟩) 2 fpc], .agg #[.bool false, .int .i64 0, .int .u64 0, .slice gra 0 grc, .slice gca 0 gcc, .slice (some ⟨gb, go, none⟩) 2 gpc]]) Try.func37 rfl Try.ntmps37 rfl ?_
 have hS := St.start w
 refine seqF (regF ?_)
 refine op_box (cs := [_, _, _]) hS rfl rfl rfl ?_
 clear hS; intro B1 W1 hS
 refine op_box (cs := [_, _, _, _, _, _]) hS rfl rfl rfl ?_
 clear hS; intro B2 W2 hS
 refine op_box (cs := [_, _, _, _, _, _]) hS rfl rfl rfl ?_
 clear hS; intro B3 W3 hS
 refine op_alloc (cs := [_, _, _, _, _, _]) hS Try.zeroValue45 rfl rfl ?_
 clear hS; intro B4 W4 hS
 refine endF (XF.thenN ?_)
 refine seqF ?_
 refine seqF (regF ?_)
 refine op_field (o' := 0) fa_45_0 rfl rfl rfl ?_
 refine op_load Try.isAgg4 rfl (cell_own (hS.at_ 2 rfl) rfl) rfl ?_
 refine op_move rfl rfl ?_
 refine op_cases (d := 11) rfl (fun hc => absurd hc (by decide)) (fun hc => ?_)
 skip
 refine op_wantedF (d := 11) rfl rfl ?_
 refine op_field (o' := 0) fa_45_0 rfl rfl rfl ?_
 refine op_wantedF (d := 11) rfl rfl ?_
 refine op_load Try.isAgg4 rfl (cell_own (hS.at_ 1 rfl) rfl) rfl ?_
 refine op_pickF rfl rfl rfl ?_
 refine endF (XF.thenN ?_)
 refine condF rfl (fun hc => absurd hc (by decide)) (fun hc => ?_)
 skip
 refine skipF ?_
 refine XF.thenN ?_
 refine seqF (regF ?_)
 refine op_build (us := []) rfl (bld_45) rfl ?_
 refine op_alloc (cs := [_, _, _, _, _, _]) hS Try.zeroValue45 rfl rfl ?_
 clear hS; intro B5 W5 hS
 refine op_storeA (i := 0) (vs := [_, _, _, _, _, _]) (cs' := [_, _, _, _, _, _]) (O' := [_, _, _, _, _]) hS Try.sizeOf45 rfl rfl rfl rfl rfl rfl rfl ?_
 clear hS; intro W6 hS
 refine endF (XF.thenN ?_)
 refine seqF ?_
 refine seqF (regF ?_)
 refine op_field (o' := 0) fa_25_0 rfl rfl rfl ?_
 refine op_load Try.isAgg22 rfl (cell_own (hS.at_ 4 rfl) rfl) rfl ?_
 refine endF (XF.thenN ?_)
 refine blockF ?_
 refine seqF (regF ?_)
 refine op_eql rfl rfl rfl ?_
 refine op_assign rfl rfl ?_
 refine endF (XF.thenN ?_)
 refine condF rfl (fun hc => absurd (of_decide_eq_true hc) (by omega)) (fun hc => ?_)
 have hc := of_decide_eq_false hc
 refine seqF (regF ?_)
 refine op_eql rfl rfl rfl ?_
 refine op_assign rfl rfl ?_
 refine endF (XF.thenN ?_)
 refine condF rfl (fun hc => absurd (of_decide_eq_true hc) (by omega)) (fun hc => ?_)
 have hc := of_decide_eq_false hc
 refine seqF (regF ?_)
 refine op_eql rfl rfl rfl ?_
 refine op_assign rfl rfl ?_
 refine endF (XF.thenN ?_)
 refine condF rfl (fun hc => absurd (of_decide_eq_true hc) (by omega)) (fun hc => ?_)
 have hc := of_decide_eq_false hc
 refine seqF (regF ?_)
 refine op_eql rfl rfl rfl ?_
 refine op_assign rfl rfl ?_
 refine endF (XF.thenN ?_)
 refine condF rfl (fun hc => ?_) (fun hc => absurd (of_decide_eq_false hc) (by omega))
 have hc := of_decide_eq_true hc
 have hsz := hS.below.size
 have k1 := CellsAt.agree hS.agree (Nat.zero_le _) hs1.cells
 have k2 := CellsAt.agree hS.agree (Nat.zero_le _) hs2.cells
 have kf1 := CellsAt.agree hS.agree (Nat.zero_le _) hf6.cells
 have kf2 := CellsAt.agree hS.agree (Nat.zero_le _) hf7.cells
 have kg1 := CellsAt.agree hS.agree (Nat.zero_le _) hg6.cells
 have kg2 := CellsAt.agree hS.agree (Nat.zero_le _) hg7.cells
 refine regBK followsM 28 hS rfl rfl (by kernel_rfl) (by kernel_rfl) (by kernel_rfl) (fun d hd => by cases hd) ?_
 refine bl_cons 1 rfl (isV _) (stab_isV _) (rgV (li := [(3, _)]) rfl (w_free rfl) ⟨g_fr (by kernel_rfl) rfl, trivial⟩ (fun w hw => rn_field (o' := 2) fa_25_2 rfl rfl) (at_top rfl)) ?_
 refine bl_cons 2 rfl (isV _) (stab_isV _) (rgV (li := [(66, _)]) rfl (w_free rfl) ⟨g_dep 0 (by kernel_rfl) (at_dep rfl rfl rfl), trivial⟩ (fun w hw => rn_load Try.isAgg23 rfl ((below_agree hw 0).cell (Nat.zero_le _) (cell_own (hS.at_ 4 rfl) rfl))) (at_top rfl)) ?_
 refine bl_cons 3 rfl (isV _) (stab_isV _) (rgV (li := [(67, _)]) rfl (w_free rfl) ⟨g_dep 1 (by kernel_rfl) (at_dep rfl rfl rfl), trivial⟩ (fun w hw => rn_indexA (j := 0) Try.underlying23 Try.sizeOf25 rfl rfl rfl (by omega) (Nat.add_zero _)) (at_top rfl)) ?_
 refine bl_cons 4 rfl (isV _) (stab_isV _) (rgV (li := [(68, _)]) rfl (w_free rfl) ⟨g_dep 2 (by kernel_rfl) (at_dep rfl rfl rfl), trivial⟩ (fun w hw => rn_loadA (vs := [_, _, _]) Try.isAgg25 Try.sizeOf25 rfl (CellsAt.agree (below_agree hw 0) (Nat.zero_le _) (by assumption))) (at_top rfl)) ?_
 refine bl_cons 5 rfl (isV _) (stab_isV _) (rgV (li := [(4, _)]) rfl (w_free rfl) ⟨g_fr (by kernel_rfl) rfl, trivial⟩ (fun w hw => rn_field (o' := 5) fa_45_4 rfl rfl) (at_top rfl)) ?_
 refine bl_cons 6 rfl (isV _) (stab_isV _) (rgV (li := [(70, _)]) rfl (w_free rfl) ⟨g_dep 4 (by kernel_rfl) (at_dep rfl rfl rfl), trivial⟩ (fun w hw => rn_load Try.isAgg43 rfl ((below_agree hw 0).cell (Nat.zero_le _) (cell_own (hS.at_ 3 rfl) rfl))) (at_top rfl)) ?_
 refine bl_cons 7 rfl (isV _) (stab_isV _) (rgV (li := [(71, _)]) rfl (w_free rfl) ⟨g_dep 5 (by kernel_rfl) (at_dep rfl rfl rfl), trivial⟩ (fun w hw => rn_indexA (j := 0) Try.underlying43 Try.sizeOf45 rfl rfl rfl (by omega) (Nat.add_zero _)) (at_top rfl)) ?_
 refine bl_cons 8 rfl (isV _) (stab_isV _) (rgV (li := [(72, _)]) rfl (w_free rfl) ⟨g_dep 6 (by kernel_rfl) (at_dep rfl rfl rfl), trivial⟩ (fun w hw => rn_loadA (vs := [_, _, _, _, _, _]) Try.isAgg45 Try.sizeOf45 rfl (CellsAt.agree (below_agree hw 0) (Nat.zero_le _) (by assumption))) (at_top rfl)) ?_
 refine bl_cons 9 rfl (isV _) (stab_isV _) (rgV (li := [(5, _)]) rfl (w_free rfl) ⟨g_fr (by kernel_rfl) rfl, trivial⟩ (fun w hw => rn_field (o' := 5) fa_45_4 rfl rfl) (at_top rfl)) ?_
 refine bl_cons 10 rfl (isV _) (stab_isV _) (rgV (li := [(74, _)]) rfl (w_free rfl) ⟨g_dep 8 (by kernel_rfl) (at_dep rfl rfl rfl), trivial⟩ (fun w hw => rn_load Try.isAgg43 rfl ((below_agree hw 0).cell (Nat.zero_le _) (cell_own (hS.at_ 2 rfl) rfl))) (at_top rfl)) ?_
 refine bl_cons 11 rfl (isV _) (stab_isV _) (rgV (li := [(75, _)]) rfl (w_free rfl) ⟨g_dep 9 (by kernel_rfl) (at_dep rfl rfl rfl), trivial⟩ (fun w hw => rn_indexA (j := 0) Try.underlying43 Try.sizeOf45 rfl rfl rfl (by omega) (Nat.add_zero _)) (at_top rfl)) ?_
 refine bl_cons 12 rfl (isV _) (stab_isV _) (rgV (li := [(76, _)]) rfl (w_free rfl) ⟨g_dep 10 (by kernel_rfl) (at_dep rfl rfl rfl), trivial⟩ (fun w hw => rn_loadA (vs := [_, _, _, _, _, _]) Try.isAgg45 Try.sizeOf45 rfl (CellsAt.agree (below_agree hw 0) (Nat.zero_le _) (by assumption))) (at_top rfl)) ?_
 refine bl_cons 13 rfl (isNew W6.heap.size (.one t n) (.one (extP t n x1 y1))) (stab_isNew) (rg_call [isV _, isV _, isV _] rfl goes_37 (w_free rfl) ⟨p_tmp (g_dep 3 (by kernel_rfl) (at_dep rfl rfl rfl)), p_tmp (g_dep 7 (by kernel_rfl) (at_dep rfl rfl rfl)), p_tmp (g_dep 11 (by kernel_rfl) (at_dep rfl rfl rfl)), trivial⟩ (fun vs w' hb hh => by have e := holds_isV (us := [_, _, _]) hh; subst e; exact wret_gives hb.size (thenR_plain _ _ _ _ _ _ _ _ _ hp1 (hx1.below (hS.below.trans (hb.mono hS.below.size))) (hy1.below (hS.below.trans (hb.mono hS.below.size))))) (at_top rfl)) ?_
 refine bl_cons 14 rfl (isV _) (stab_isV _) (rgV (li := [(3, _)]) rfl (w_free rfl) ⟨g_fr (by kernel_rfl) rfl, trivial⟩ (fun w hw => rn_field (o' := 2) fa_25_2 rfl rfl) (at_top rfl)) ?_
 refine bl_cons 15 rfl (isV _) (stab_isV _) (rgV (li := [(79, _)]) rfl (w_free rfl) ⟨g_dep 13 (by kernel_rfl) (at_dep rfl rfl rfl), trivial⟩ (fun w hw => rn_load Try.isAgg23 rfl ((below_agree hw 0).cell (Nat.zero_le _) (cell_own (hS.at_ 4 rfl) rfl))) (at_top rfl)) ?_
 refine bl_cons 16 rfl (isV _) (stab_isV _) (rgV (li := [(80, _)]) rfl (w_free rfl) ⟨g_dep 14 (by kernel_rfl) (at_dep rfl rfl rfl), trivial⟩ (fun w hw => rn_indexA (j := 1) Try.underlying23 Try.sizeOf25 rfl rfl rfl (by omega) rfl) (at_top rfl)) ?_
 refine bl_cons 17 rfl (isV _) (stab_isV _) (rgV (li := [(81, _)]) rfl (w_free rfl) ⟨g_dep 15 (by kernel_rfl) (at_dep rfl rfl rfl), trivial⟩ (fun w hw => rn_loadA (vs := [_, _, _]) Try.isAgg25 Try.sizeOf25 rfl (CellsAt.agree (below_agree hw 0) (Nat.zero_le _) (by assumption))) (at_top rfl)) ?_
 refine bl_cons 18 rfl (isV _) (stab_isV _) (rgV (li := [(4, _)]) rfl (w_free rfl) ⟨g_fr (by kernel_rfl) rfl, trivial⟩ (fun w hw => rn_field (o' := 5) fa_45_4 rfl rfl) (at_top rfl)) ?_
 refine bl_cons 19 rfl (isV _) (stab_isV _) (rgV (li := [(83, _)]) rfl (w_free rfl) ⟨g_dep 17 (by kernel_rfl) (at_dep rfl rfl rfl), trivial⟩ (fun w hw => rn_load Try.isAgg43 rfl ((below_agree hw 0).cell (Nat.zero_le _) (cell_own (hS.at_ 3 rfl) rfl))) (at_top rfl)) ?_
 refine bl_cons 20 rfl (isV _) (stab_isV _) (rgV (li := [(84, _)]) rfl (w_free rfl) ⟨g_dep 18 (by kernel_rfl) (at_dep rfl rfl rfl), trivial⟩ (fun w hw => rn_indexA (j := 1) Try.underlying43 Try.sizeOf45 rfl rfl rfl (by omega) rfl) (at_top rfl)) ?_
 refine bl_cons 21 rfl (isV _) (stab_isV _) (rgV (li := [(85, _)]) rfl (w_free rfl) ⟨g_dep 19 (by kernel_rfl) (at_dep rfl rfl rfl), trivial⟩ (fun w hw => rn_loadA (vs := [_, _, _, _, _, _]) Try.isAgg45 Try.sizeOf45 rfl (CellsAt.agree (below_agree hw 0) (Nat.zero_le _) (by assumption))) (at_top rfl)) ?_
 refine bl_cons 22 rfl (isV _) (stab_isV _) (rgV (li := [(5, _)]) rfl (w_free rfl) ⟨g_fr (by kernel_rfl) rfl, trivial⟩ (fun w hw => rn_field (o' := 5) fa_45_4 rfl rfl) (at_top rfl)) ?_
 refine bl_cons 23 rfl (isV _) (stab_isV _) (rgV (li := [(87, _)]) rfl (w_free rfl) ⟨g_dep 21 (by kernel_rfl) (at_dep rfl rfl rfl), trivial⟩ (fun w hw => rn_load Try.isAgg43 rfl ((below_agree hw 0).cell (Nat.zero_le _) (cell_own (hS.at_ 2 rfl) rfl))) (at_top rfl)) ?_
 refine bl_cons 24 rfl (isV _) (stab_isV _) (rgV (li := [(88, _)]) rfl (w_free rfl) ⟨g_dep 22 (by kernel_rfl) (at_dep rfl rfl rfl), trivial⟩ (fun w hw => rn_indexA (j := 1) Try.underlying43 Try.sizeOf45 rfl rfl rfl (by omega) rfl) (at_top rfl)) ?_
 refine bl_cons 25 rfl (isV _) (stab_isV _) (rgV (li := [(89, _)]) rfl (w_free rfl) ⟨g_dep 23 (by kernel_rfl) (at_dep rfl rfl rfl), trivial⟩ (fun w hw => rn_loadA (vs := [_, _, _, _, _, _]) Try.isAgg45 Try.sizeOf45 rfl (CellsAt.agree (below_agree hw 0) (Nat.zero_le _) (by assumption))) (at_top rfl)) ?_
 refine bl_cons 26 rfl (isNew W6.heap.size (.one u m) (.one (extP u m x2 y2))) (stab_isNew) (rg_call [isV _, isV _, isV _] rfl goes_37 (w_free rfl) ⟨p_tmp (g_dep 16 (by kernel_rfl) (at_dep rfl rfl rfl)), p_tmp (g_dep 20 (by kernel_rfl) (at_dep rfl rfl rfl)), p_tmp (g_dep 24 (by kernel_rfl) (at_dep rfl rfl rfl)), trivial⟩ (fun vs w' hb hh => by have e := holds_isV (us := [_, _, _]) hh; subst e; exact wret_gives hb.size (thenR_plain _ _ _ _ _ _ _ _ _ hp2 (hx2.below (hS.below.trans (hb.mono hS.below.size))) (hy2.below (hS.below.trans (hb.mono hS.below.size))))) (at_top rfl)) ?_
 refine bl_cons 27 rfl (isPairRow W6.heap.size (.two t n u m) (.two (extP t n x1 y1) (extP u m x2 y2))) (stab_isPairRow) (rg_pairRow rfl (w_free rfl) ⟨p_tmp (g_dep 12 (by kernel_rfl) (at_dep rfl rfl rfl)), p_tmp (g_dep 25 (by kernel_rfl) (at_dep rfl rfl rfl)), trivial⟩ (at_top rfl)) ?_
 refine bl_cons 28 rfl (isV _) (stab_isV _) (rgV (li := [(7, _)]) rfl (w_free rfl) ⟨g_fr (by kernel_rfl) rfl, trivial⟩ (fun w hw => rn_field (o' := 5) fa_45_4 rfl rfl) (at_top rfl)) ?_
 refine bl_nil ?_
 intro W7 hbR hS'
 clear hS; have hS := hS'; clear hS'
 refine fin_v ?_
 refine fin_v ?_
 refine fin_v ?_
 refine fin_v ?_
 refine fin_v ?_
 refine fin_v ?_
 refine fin_v ?_
 refine fin_v ?_
 refine fin_v ?_
 refine fin_v ?_
 refine fin_v ?_
 refine fin_v ?_
 refine fin_p ?_; rintro _ ⟨v1, rfl, hn1⟩
 refine fin_v ?_
 refine fin_v ?_
 refine fin_v ?_
 refine fin_v ?_
 refine fin_v ?_
 refine fin_v ?_
 refine fin_v ?_
 refine fin_v ?_
 refine fin_v ?_
 refine fin_v ?_
 refine fin_v ?_
 refine fin_v ?_
 refine fin_p ?_; rintro _ ⟨v2, rfl, hn2⟩
 refine fin_p ?_; rintro _ ⟨b9, rfl, hn9⟩
 refine fin_v ?_
 refine fin_nil ?_
 refine op_store (i := 0) (cs' := [_, _, _, _, _, _]) (O' := [_, _, _, _, _]) hS Try.sizeOf43 rfl rfl rfl rfl rfl rfl rfl ?_
 clear hS; intro W8 hS
 refine endF ?_
 refine XF.blkN ?_
 refine XF.thenN ?_
 refine seqF (regF ?_)
 refine op_loadA (vs := [_, _, _, _, _, _]) Try.isAgg45 Try.sizeOf45 rfl (CellsAt.own (j := 0) (m := 6) (hS.at_ 0 rfl) rfl) rfl ?_
 refine op_storeA (i := 1) (vs := [_, _, _, _, _, _]) (cs' := [_, _, _, _, _, _]) (O' := [_, _, _, _, _]) hS Try.sizeOf45 rfl rfl rfl rfl rfl rfl rfl ?_
 clear hS; intro W9 hS
 refine endF (XF.thenN ?_)
 refine retF ?_
 refine XF.res (resC1 (vs := [_, _, _, _, _, _]) Try.results37 Try.isAgg45 Try.sizeOf45 rfl (CellsAt.own (j := 0) (m := 6) (hS.at_ 1 rfl) rfl)) ?_
 exact ⟨pairF b9, rfl, (hn9.agree (hS.since 0 rfl)).mono hsz, hS.below⟩
theorem thenR_ok {S : PS} {sf : SF} {f g : WF} {x y : PX} {w : World} (hs : SIs w S sf) (hok : S.ok) (hx : XIs w S f x) (hy : XIs w S g y) : Calls Try.prog 37 #[sf.val, f.val, g.val] w (WRet S (extX S x y) w) := by
 cases S <;> cases x <;> cases y <;> first | exact hx.elim | exact hy.elim | skip
 ·obtain ⟨a, c, rfl⟩ := hs
  exact thenR_plain _ _ _ _ _ _ _ _ _ hok hx hy
 ·obtain ⟨b, off, c, a1, c1, a2, c2, rfl, h1, h2⟩ := hs
  obtain ⟨ra, ca, rc, cc, pc, fb, fo, f1, f2, rfl, h6, h7, h8, h9⟩ := hx.two
  obtain ⟨ra', ca', rc', cc', pc', gb, go, g1, g2, rfl, h6', h7', h8', h9'⟩ := hy.two
  exact thenR_pair _ _ _ _ _ _ _ _ _ _ _ _ h1 h2 hok.1 hok.2 _ _ _ _ _ _ _ _ _ _ _ h6 h7 h8 h9 _ _ _ _ _ _ _ _ _ _ _ h6' h7' h8' h9'
end Go.Proofs.Ytpkcaabbcoiiiaa
namespace Go.Proofs.Ytpkcaabbcoiiiaa
open Go Go.RowKit
section
variable {P : Program} {n : Nat} {ops : Array Oper} {Q : Exit → Act → World → Prop} {l : Fr} {w0 W : World} {O : Own} {G : Grows} {K : List (Nat × World)} {os : List Oper} {d : Nat} {ty : TypeId} {pos : String} {aft : Array Edge}
theorem rn_sliceTo {T e : TypeId} {x y : Operand} {kk : IntKind} {a : Option Addr} {m c k s : Nat} {j : Int} (hU : P.underlying T = some (.slice e)) (hs : ∀ w, (sizeOf e).run P w = .ok s w) (hx : evL l x = some (.slice a m c)) (hy : evL l y = some (.int kk j)) (hj : j = (k : Int)) (hk : k ≤ c) (h0 : c ≠ 0) (ha : ∀ p, a = some p → ∃ b o, p = ⟨b, o, none⟩) :
  Runs P l ⟨some d, .slice T x none (some y) none, ty, pos, aft, none⟩ W (.slice a k c) W := fun ev he => by
 subst hj
 have h1 : (0 : Int) ≤ (k : Int) := by omega
 have h2 : (k : Int) ≤ (c : Int) := by omega
 have hm : a.map (·.add 0) = a := by
  cases a with
  | none => rfl
  | some p => obtain ⟨b, o, rfl⟩ := ha p rfl; rfl
 unfold execOp; simp only [Option.map_some, Option.map_none]; rw [he x _ hx, he y _ hy]
 simp [Instr.sliceAt, Instr.slice, Instr.sliceBounds, Instr.sliceBound, run_underlying hU, asIntOf, hk, hs, h0]
 exact hm
theorem op_sliceTo {T e : TypeId} {x y : Operand} {kk : IntKind} {a : Option Addr} {m c k s : Nat} {j : Int} (hU : P.underlying T = some (.slice e)) (hs : ∀ w, (sizeOf e).run P w = .ok s w) (hx : evL l x = some (.slice a m c)) (hy : evL l y = some (.int kk j)) (hj : j = (k : Int)) (hk : k ≤ c) (h0 : c ≠ 0) (ha : ∀ p, a = some p → ∃ b o, p = ⟨b, o, none⟩) (hd : Nat.blt d n = true)
  (h : OpsF P n ops Q os ((d, .slice a k c) :: l) W) : OpsF P n ops Q (⟨some d, .slice T x none (some y) none, ty, pos, aft, none⟩ :: os) l W := opV (rn_sliceTo hU hs hx hy hj hk h0 ha) hd h
end
end Go.Proofs.Ytpkcaabbcoiiiaa
namespace Go.Proofs.Ytpkcaabbcoiiiaa
open Go Go.RowKit
structure PdsOk (w : World) (S : PS) (px : RV → PX) (p : PV) : Prop where
 chk : pdsE p = 0
 ok : S.ok
 si : SIs w S p.s.f
 x : ∀ r ∈ p.rs, XIs w S r.x.f (px r)
 rl : p.rl ≤ 16384
 w4 : ∀ r ∈ p.rs, r.wl ≤ 4096
 st : 0 ≤ p.st ∧ p.st ≤ 4096
 sy : 0 ≤ p.sy ∧ p.sy ≤ 4096
 rule : ∀ r ∈ p.rs, ruleB p.st p.sy r = true
theorem pdsOk_of {w : World} {ds d : Nat} {p : PV} (hp : PvIn w ds d p) (h : pdsE p = 0) : ∃ S px, PdsOk w S px p := by
 have h2 : spaceE p.s = 0 ∧ p.rl ≤ 16384 ∧ (0 ≤ p.st ∧ p.st ≤ 4096) ∧ (0 ≤ p.sy ∧ p.sy ≤ 4096) ∧ p.rs.all (ruleB p.st p.sy) = true ∧ wtE p.s p.rs = 0 := by
  have hd := h
  unfold pdsE at hd
  split at hd
  ·rename_i hn; exact absurd hd hn
  ·rename_i hn
   split at hd
   ·cases hd
   ·rename_i hr
    split at hd
    ·cases hd
    ·rename_i ho
     split at hd
     ·rename_i ha; exact ⟨Decidable.of_not_not hn, by omega, by omega, by omega, ha, hd⟩
     ·cases hd
 obtain ⟨hs, hrl, hst, hsy, hr, hw⟩ := h2
 obtain ⟨S, hok, hsi, hx⟩ := space_of hp.s hs
 have hall : ∀ r ∈ p.rs, chkW p.s r.x = 0 := by
  have key : ∀ rs : List RV, wtE p.s rs = 0 → ∀ r ∈ rs, chkW p.s r.x = 0 := by
   intro rs
   induction rs with
   | nil => intro _ r hr; cases hr
   | cons a rs ih =>
    intro hz r hr
    unfold wtE at hz
    split at hz
    ·rename_i h0
     rcases List.mem_cons.1 hr with rfl | hr
     ·exact h0
     ·exact ih hz r hr
    ·rename_i h0; exact absurd hz h0
  exact key _ hw
 have hex : ∀ r, ∃ x, r ∈ p.rs → XIs w S r.x.f x := fun r => by
  by_cases hm : r ∈ p.rs
  ·have h0 := hall r hm
   have hokw : okW p.s r.x = true := by
    unfold chkW at h0
    rw [if_pos hs] at h0
    split at h0
    ·assumption
    ·cases h0
   obtain ⟨x, hxx⟩ := hx r.x d (hp.rin r hm).x hokw
   exact ⟨x, fun _ => hxx⟩
  ·exact ⟨zeroX S, fun h => absurd h hm⟩
 refine ⟨S, fun r => Classical.choose (hex r), h, hok, hsi, fun r hm => Classical.choose_spec (hex r) hm, hrl, fun r hm => ?_, hst, hsy, fun r hm => List.all_eq_true.1 hr r hm⟩
 have := List.all_eq_true.1 hr r hm
 unfold ruleB at this
 simp only [Bool.and_eq_true, decide_eq_true_eq] at this
 exact this.2.2.2.1
abbrev shC (sf : SF) (f0 : WF) (s2 : SF) (zt yt : Int) (v1 v2 v3 : Value) : List Value := [.int .i64 sf.tag, .int .i64 sf.dim, .slice sf.a sf.len sf.cap, .bool f0.z, .int .i64 f0.c, .int .u64 (f0.g : Int), .slice f0.ra f0.rl f0.rc, .slice f0.ca f0.cl f0.cc, .slice f0.pa f0.pl f0.pc, .int .i64 s2.tag, .int .i64 s2.dim, .slice s2.a s2.len s2.cap, .int .i64 zt, .int .i64 yt, v1, v2, v3]
abbrev PR := Int × Bool × Int × Int × Int × List Int × PX
structure R9 where
 num : Int
 first : Bool
 p : Int
 g : Int
 q : Int
 wa : Option Addr
 wc : Nat
 ws : List Int
 f : WF
 x : PX
abbrev R9.pl (r : R9) : PR := (r.num, r.first, r.p, r.g, r.q, r.ws, r.x)
abbrev ten9 (r : R9) : List Value := [.int .i64 r.p, .int .i64 r.g, .int .i64 r.q, .slice r.wa r.ws.length r.wc, .bool r.f.z, .int .i64 r.f.c, .int .u64 (r.f.g : Int), .slice r.f.ra r.f.rl r.f.rc, .slice r.f.ca r.f.cl r.f.cc, .slice r.f.pa r.f.pl r.f.pc]
structure RHeld (lo : Nat) (S : PS) (W : World) (r : R9) : Prop where
 w : RowN lo W r.wa r.wc r.ws
 x : XNew lo W S r.f r.x
theorem RHeld.agree {lo : Nat} {S : PS} {A W : World} {r : R9} (h : RHeld lo S A r) (hg : Agree lo A W) : RHeld lo S W r := ⟨h.w.agree hg, h.x.agree hg⟩
theorem RHeld.mono {lo lo' : Nat} {S : PS} {W : World} {r : R9} (h : RHeld lo S W r) (hl : lo' ≤ lo) : RHeld lo' S W r := ⟨h.w.mono hl, h.x.mono hl⟩
def partsF (one : PX) (num : Int) (p g q : Int) (ws : List Int) (x : PX) (z y : Int) : List PR :=
 if ws.length ≤ 2 then [(num, true, p, g, q, ws, x)]
 else (num, true, p, g, z, [y, ws.getD (ws.length - 1) 0], x) :: (List.range (ws.length - 3)).map (fun i : Nat => (num, false, z + (i : Int), y + (i : Int), z + (i : Int) + 1, [y + (i : Int) + 1, ws.getD (ws.length - 2 - i) 0], one)) ++ [(num, false, z + ((ws.length - 3 : Nat) : Int), y + ((ws.length - 3 : Nat) : Int), q, [ws.getD 0 0, ws.getD 1 0], one)]
def moreF (rs : List RV) : Nat := (rs.map (fun r => r.wl - 2)).sum
def shortF (one : PX) (px : RV → PX) : List RV → Nat → Int → Int → List PR
 | [], _, _, _ => []
 | r :: rs, i, z, y => partsF one (i : Int) r.p r.g r.q r.ws (px r) z y ++ shortF one px rs (i + 1) (z + ((r.wl - 2 : Nat) : Int)) (y + ((r.wl - 2 : Nat) : Int))
theorem partsF_len {one : PX} {num p g q : Int} {ws : List Int} {x : PX} {z y : Int} : (partsF one num p g q ws x z y).length = ws.length - 2 + 1 := by
 unfold partsF
 split
 ·simp; omega
 ·simp; omega
theorem moreF_cons (r : RV) (rs : List RV) : moreF (r :: rs) = (r.wl - 2) + moreF rs := by unfold moreF; simp
theorem moreF_le : ∀ {rs : List RV} {m : Nat}, (∀ r ∈ rs, r.wl ≤ m) → moreF rs ≤ rs.length * m
 | [], m, _ => by simp [moreF]
 | r :: rs, m, h => by
  rw [moreF_cons, List.length_cons, Nat.succ_mul]
  have h1 := h r List.mem_cons_self
  have h2 := moreF_le (rs := rs) (m := m) fun x hx => h x (List.mem_cons_of_mem _ hx)
  omega
theorem moreF_take {rs : List RV} {i : Nat} {r : RV} (h : rs[i]? = some r) : moreF (rs.take (i + 1)) = moreF (rs.take i) + (r.wl - 2) := by
 unfold moreF
 rw [List.take_add_one, h, List.map_append, List.sum_append]
 simp
theorem moreF_take_le {rs : List RV} {i : Nat} : moreF (rs.take i) ≤ moreF rs := by
 unfold moreF
 have h := congrArg (fun z => (z.map (fun r : RV => r.wl - 2)).sum) (List.take_append_drop i rs)
 simp only [List.map_append, List.sum_append] at h
 omega
theorem shortF_app {one : PX} {px : RV → PX} (r : RV) : ∀ (rs : List RV) (i : Nat) (z y : Int), shortF one px (rs ++ [r]) i z y = shortF one px rs i z y ++ partsF one ((i + rs.length : Nat) : Int) r.p r.g r.q r.ws (px r) (z + (moreF rs : Int)) (y + (moreF rs : Int))
 | [], i, z, y => by simp [shortF, moreF]
 | x :: rs, i, z, y => by
  simp only [List.cons_append, shortF, shortF_app r rs, List.append_assoc, List.length_cons]
  rw [moreF_cons, show i + 1 + rs.length = i + (rs.length + 1) by omega]
  congr 2
  rw [show z + ((x.wl - 2 : Nat) : Int) + (moreF rs : Int) = z + (((x.wl - 2) + moreF rs : Nat) : Int) by omega, show y + ((x.wl - 2 : Nat) : Int) + (moreF rs : Int) = y + (((x.wl - 2) + moreF rs : Nat) : Int) by omega]
theorem shortF_take {one : PX} {px : RV → PX} {rs : List RV} {i : Nat} {r : RV} {z y : Int} (h : rs[i]? = some r) : shortF one px (rs.take (i + 1)) 0 z y = shortF one px (rs.take i) 0 z y ++ partsF one (i : Int) r.p r.g r.q r.ws (px r) (z + (moreF (rs.take i) : Int)) (y + (moreF (rs.take i) : Int)) := by
 have hi := (List.getElem?_eq_some_iff.1 h).1
 rw [List.take_add_one, h]
 show shortF one px (rs.take i ++ [r]) 0 z y = _
 rw [shortF_app, List.length_take, Nat.min_eq_left (by omega), Nat.zero_add]
def isRuleN (lo : Nat) (S : PS) (p g q : Int) (ws : List Int) (x : PX) : Asr := fun v w => ∃ (a : Option Addr) (c : Nat) (f : WF), v = .agg (([.int .i64 p, .int .i64 g, .int .i64 q, .slice a ws.length c] ++ f.six : List Value)).toArray ∧ RowN lo w a c ws ∧ XNew lo w S f x
theorem bldR9 (p g q : Int) (a : Option Addr) (l c : Nat) (f : WF) : Try.prog.built 47 [(0, .int .i64 p), (1, .int .i64 g), (2, .int .i64 q), (3, .slice a l c), (4, f.val)] = some #[.int .i64 p, .int .i64 g, .int .i64 q, .slice a l c, .bool f.z, .int .i64 f.c, .int .u64 (f.g : Int), .slice f.ra f.rl f.rc, .slice f.ca f.cl f.cc, .slice f.pa f.pl f.pc] := by kernel_rfl
def isClN9 (lo : Nat) (ws : List Int) : Asr := fun v w => ∃ a c, v = .slice a ws.length c ∧ RowN lo w a c ws
theorem cl_gN9 {P : Program} {f : FuncId} {vs : Array Value} {w : World} {lo l : Nat} {ws : List Int} (hlo : lo ≤ w.heap.size) (hl : ws.length = l) (h : Calls P f vs w fun e w' => ∃ v, e = .returned v ∧ Below w.heap.size w w' ∧ w'.ownsRow w.heap.size 3 1 v l (ws.map (Value.int .i64))) : Calls P f vs w (GivesN (isClN9 lo ws) w) := by
 subst hl
 refine h.mono fun e w2 ⟨v, he, hb, hr⟩ => ⟨v, he, fun w3 hg => ?_, hb⟩
 obtain ⟨a, c, rfl, _⟩ := ownsRow_sl hr
 exact ⟨a, c, rfl, (RowN.agree (show RowN _ _ _ _ _ from hr) hg).mono hlo⟩
theorem row_cl9 {lo : Nat} {x y : Int} {v : Value} {w : World} (h : isRow lo 2 3 [.int .i64 x, .int .i64 y] v w) : isClN9 lo [x, y] v w := by
 obtain ⟨B, rfl, hlo, hB⟩ := h
 exact ⟨_, _, rfl, rfl, .inr ⟨B, 2, _, rfl, hlo, hB, Nat.le_refl _, by simp only [maxLen]; omega, rfl, rfl⟩⟩
theorem wret_gN {P : Program} {f : FuncId} {vs : Array Value} {w : World} {lo : Nat} {S : PS} {x : PX} (hlo : lo ≤ w.heap.size) (h : Calls P f vs w (WRet S x w)) : Calls P f vs w (GivesN (isNew lo S x) w) :=
 h.mono fun e w2 ⟨g, he, hn, hb⟩ => ⟨_, he, fun w3 hg => ⟨g, rfl, (hn.agree hg).mono hlo⟩, hb⟩
theorem six_inj {f g : WF} (h : f.val = g.val) : f.six = g.six := by
 have h1 : (Value.agg f.six.toArray) = .agg g.six.toArray := h
 injection h1 with h1
 exact congrArg Array.toList h1
theorem bld_rule9 {d j1 j2 j3 j4 j5 t1 t2 t3 t4 t5 lo : Nat} {ty : TypeId} {pos : String} {S : PS} {p g q : Int} {ws : List Int} {x : PX} {pW : Asr} (hW : ∀ v w, pW v w → isClN9 lo ws v w) : ∀ (ev : Operand → Value) (w : World), DepsH [(j1, t1, isV (.int .i64 p)), (j2, t2, isV (.int .i64 g)), (j3, t3, isV (.int .i64 q)), (j4, t4, pW), (j5, t5, isNew lo S x)] ev w →
  ∃ v, (execOp ev ⟨some d, .build 47 #[(0, .tmp t1), (1, .tmp t2), (2, .tmp t3), (3, .tmp t4), (4, .tmp t5)], ty, pos, #[], none⟩).run Try.prog w = .ok (.value v) w ∧ ∀ w2, DepsH [(j1, t1, isV (.int .i64 p)), (j2, t2, isV (.int .i64 g)), (j3, t3, isV (.int .i64 q)), (j4, t4, pW), (j5, t5, isNew lo S x)] ev w2 → isRuleN lo S p g q ws x v w2 := fun ev w ⟨h1, h2, h3, h4, ⟨f, h5, h6⟩, _⟩ => by
 have e1 : ev (.tmp t1) = _ := h1
 have e2 : ev (.tmp t2) = _ := h2
 have e3 : ev (.tmp t3) = _ := h3
 have e5 : ev (.tmp t5) = _ := h5
 obtain ⟨a, c, e4, h7⟩ := hW _ _ h4
 refine ⟨.agg (([.int .i64 p, .int .i64 g, .int .i64 q, .slice a ws.length c] ++ f.six : List Value)).toArray, ?_, fun w2 ⟨_, _, _, k4, ⟨f2, k5, k6⟩, _⟩ => ?_⟩
 ·have hr := run_build w 47 #[(0, .int .i64 p), (1, .int .i64 g), (2, .int .i64 q), (3, .slice a ws.length c), (4, f.val)] _ (P := Try.prog) (bldR9 p g q a ws.length c f)
  unfold execOp
  simp only [List.map_toArray, List.map_cons, List.map_nil, e1, e2, e3, e4, e5]
  simp [hr]
 ·obtain ⟨a2, c2, e6, k7⟩ := hW _ _ k4
  rw [e4] at e6
  injection e6 with e6 _ e7
  subst e6; subst e7
  have k5' : ev (.tmp t5) = _ := k5
  rw [e5] at k5'
  exact ⟨a, c, f2, by rw [six_inj k5'], k7, k6⟩
end Go.Proofs.Ytpkcaabbcoiiiaa
namespace Go.Proofs.Ytpkcaabbcoiiiaa
open Go Go.RowKit
theorem bs_23_1 (v00 : Value) (v01 : Value) (v02 : Value) : Instr.fill (fun i => some (i * 3, 3)) ((Array.range (1 * 3)).map ((Value.cells (.agg #[.int .i64 0, .int .i64 0, .slice none 0 0]))[· % (Value.cells (.agg #[.int .i64 0, .int .i64 0, .slice none 0 0])).size]!)) [(0, .agg #[v00, v01, v02])] = some (List.toArray [v00, v01, v02]) := by kernel_rfl
theorem goes_32 : goesIn Try.prog 32 = true := by kernel_rfl
theorem goes_86 : goesIn Try.prog 86 = true := by kernel_rfl
theorem inf_25 : Try.prog.info? 25 = some Try.t25 := by kernel_rfl
theorem w6_at9 {w : World} {B : Nat} {f : WF} {o : Nat} (h : CellsAt w B o f.six) : W6 w B o f := ⟨h.1, h.2.1, h.2.2.1, h.2.2.2.1, h.2.2.2.2.1, h.2.2.2.2.2.1⟩
abbrev bare3 (q : SF) : List Value := [.int .i64 q.tag, .int .i64 q.dim, .slice none 0 0]
theorem ringPlus_is (S : PS) (sf : SF) (f0 f : WF) (x : PX) (B : Nat) (w : World) (hs : SIs w S sf) (hok : S.ok) (hB : w.heap[B]? = some (.cells f.six.toArray 45 (0, 0))) (hx : XIs w S f x) (ht : Tabs w) :
  Calls Try.prog 86 #[ringV sf f0, .slice (some ⟨B, 0, none⟩) 1 1] w (WRet S x w) := by
 refine enterF (args := [ringV sf f0, .slice (some ⟨B, 0, none⟩) 1 1]) Try.func86 rfl Try.ntmps86 rfl ?_
 have hS := St.start w
 refine seqF (regF ?_)
 refine op_box (cs := [_, _, _, _, _, _, _, _, _]) hS rfl rfl rfl ?_
 clear hS; intro B1 W1 hS
 refine op_alloc (cs := [_, _, _, _, _, _]) hS Try.zeroValue45 rfl rfl ?_
 clear hS; intro B2 W2 hS
 refine endF (XF.thenN ?_)
 refine seqF (regF ?_)
 refine op_field (o' := 0) fa_84_0 rfl rfl rfl ?_
 refine op_loadA (vs := [_, _, _]) Try.isAgg25 Try.sizeOf25 rfl (CellsAt.own (j := 0) (m := 3) (hS.at_ 1 rfl) rfl) rfl ?_
 refine op_move rfl rfl ?_
 have hsz9 := hS.below.size
 have hB9 := (hS.below.block B (lt_of_heap hB)).trans hB
 refine op_call (vs := [_, _]) hS goes_102 rfl (CombineW_ok S sf _ (hs.below hS.below) hok (some ⟨B, 0, none⟩) 1 1 [f] [x] (.inr ⟨B, 0, rfl, fun i g hg => by
  cases i with
  | zero => cases hg; exact w6_at9 (CellsAt.own (j := 0) (m := 6) hB9 rfl)
  | succ i => simp at hg⟩) ⟨rfl, fun i g y hg hy => by
  cases i with
  | zero => cases hg; cases hy; exact hx.below hS.below
  | succ i => simp at hg⟩ rfl (by decide) (ht.below hS.below)) rfl ?_
 rintro e W3 ⟨f9, rfl, hn9, hb⟩
 refine ⟨_, rfl, hb, fun hS' => ?_⟩
 clear hS; have hS := hS'; clear hS'
 refine op_move rfl rfl ?_
 refine op_extract rfl rfl rfl ?_
 refine op_extract rfl rfl rfl ?_
 refine op_alloc (cs := [_, _, _, _, _, _]) hS Try.zeroValue45 rfl rfl ?_
 clear hS; intro B4 W4 hS
 refine op_storeA (i := 0) (vs := [_, _, _, _, _, _]) (cs' := [_, _, _, _, _, _]) (O' := [_, _, _]) hS Try.sizeOf45 rfl rfl rfl rfl rfl rfl rfl ?_
 clear hS; intro W5 hS
 refine op_assign rfl rfl ?_
 refine endF (XF.thenN ?_)
 refine seqF (regF ?_)
 refine op_loadA (vs := [_, _, _, _, _, _]) Try.isAgg45 Try.sizeOf45 rfl (CellsAt.own (j := 0) (m := 6) (hS.at_ 0 rfl) rfl) rfl ?_
 refine op_storeA (i := 1) (vs := [_, _, _, _, _, _]) (cs' := [_, _, _, _, _, _]) (O' := [_, _, _]) hS Try.sizeOf45 rfl rfl rfl rfl rfl rfl rfl ?_
 clear hS; intro W6 hS
 refine endF (XF.thenN ?_)
 refine retF ?_
 refine XF.res (resC1 (vs := [_, _, _, _, _, _]) Try.results86 Try.isAgg45 Try.sizeOf45 rfl (CellsAt.own (j := 0) (m := 6) (hS.at_ 1 rfl) rfl)) ?_
 have e9 : [x].foldl (combX S) (zeroX S) = x := combX_zero hx.ok
 rw [e9] at hn9
 exact ⟨f9, rfl, (hn9.agree (hS.since 0 rfl)).mono hsz9, hS.below⟩
theorem ringCopy_is (S : PS) (sf : SF) (f0 f : WF) (x : PX) (w : World) (hs : SIs w S sf) (hok : S.ok) (hx : XIs w S f x) (ht : Tabs w) :
  Calls Try.prog 62 #[ringV sf f0, f.val] w (WRet S x w) := by
 refine enterF (args := [ringV sf f0, f.val]) Try.func62 rfl Try.ntmps62 rfl ?_
 have hS := St.start w
 refine seqF (regF ?_)
 refine op_box (cs := [_, _, _, _, _, _, _, _, _]) hS rfl rfl rfl ?_
 clear hS; intro B1 W1 hS
 refine op_box (cs := [_, _, _, _, _, _]) hS rfl rfl rfl ?_
 clear hS; intro B2 W2 hS
 refine op_alloc (cs := [_, _, _, _, _, _]) hS Try.zeroValue45 rfl rfl ?_
 clear hS; intro B3 W3 hS
 refine endF (XF.thenN ?_)
 refine seqF (regF ?_)
 refine op_loadA (vs := [_, _, _, _, _, _, _, _, _]) Try.isAgg84 Try.sizeOf84 rfl (CellsAt.own (j := 0) (m := 9) (hS.at_ 2 rfl) rfl) rfl ?_
 refine op_loadA (vs := [_, _, _, _, _, _]) Try.isAgg45 Try.sizeOf45 rfl (CellsAt.own (j := 0) (m := 6) (hS.at_ 1 rfl) rfl) rfl ?_
 refine op_buildSlice (us := [(0, .agg (List.toArray [_, _, _, _, _, _]))]) hS Try.underlying43 Try.sizeOf45 Try.zeroValue45 rfl rfl rfl (bs_43_1 _ _ _ _ _ _) rfl ?_
 clear hS; intro B4 W4 hS
 have hsz9 := hS.below.size
 refine op_call (vs := [_, _]) hS goes_86 rfl (ringPlus_is S sf f0 f x B4 _ (hs.below hS.below) hok (hS.at_ 0 rfl) (hx.below hS.below) (ht.below hS.below)) rfl ?_
 rintro e W5 ⟨f9, rfl, hn9, hb⟩
 refine ⟨_, rfl, hb, fun hS' => ?_⟩
 clear hS; have hS := hS'; clear hS'
 refine op_storeA (i := 1) (vs := [_, _, _, _, _, _]) (cs' := [_, _, _, _, _, _]) (O' := [_, _, _, _]) hS Try.sizeOf45 rfl rfl rfl rfl rfl rfl rfl ?_
 clear hS; intro W6 hS
 refine endF (XF.thenN ?_)
 refine retF ?_
 refine XF.res (resC1 (vs := [_, _, _, _, _, _]) Try.results62 Try.isAgg45 Try.sizeOf45 rfl (CellsAt.own (j := 0) (m := 6) (hS.at_ 1 rfl) rfl)) ?_
 exact ⟨f9, rfl, (hn9.agree (hS.since 0 rfl)).mono hsz9, hS.below⟩
theorem copySpace1 (t n : Int) (a : Option Addr) (c : Nat) (w : World) :
  Calls Try.prog 32 #[.agg #[.int .i64 t, .int .i64 n, .slice a 0 c]] w (fun e w' => e = .returned (.agg #[.int .i64 t, .int .i64 n, .slice none 0 0]) ∧ Below w.heap.size w w') := by
 refine enterF (args := [.agg #[.int .i64 t, .int .i64 n, .slice a 0 c]]) Try.func32 rfl Try.ntmps32 rfl ?_
 have hS := St.start w
 refine seqF (regF ?_)
 refine op_box (cs := [_, _, _]) hS rfl rfl rfl ?_
 clear hS; intro B1 W1 hS
 refine op_alloc (cs := [_, _, _]) hS Try.zeroValue25 rfl rfl ?_
 clear hS; intro B2 W2 hS
 refine endF (XF.thenN ?_)
 refine seqF (regF ?_)
 refine op_assign rfl rfl ?_
 refine endF (XF.thenN ?_)
 refine seqF ?_
 refine seqF (regF ?_)
 refine op_field (o' := 2) fa_25_2 rfl rfl rfl ?_
 refine op_load Try.isAgg23 rfl (cell_own (hS.at_ 1 rfl) rfl) rfl ?_
 refine op_len Try.underlying23 rfl rfl ?_
 refine op_move rfl rfl ?_
 refine endF (XF.thenN ?_)
 refine blockF ?_
 refine loopF (fun m l W => l = [(1, .pointer (some ⟨B1, 0, none⟩)), (2, .pointer (some ⟨B2, 0, none⟩)), (3, .slice none 0 0), (8, .int .i64 0), (9, .int .i64 0)] ∧ St w [(B2, [.int .i64 0, .int .i64 0, .slice none 0 0], 25), (B1, [.int .i64 t, .int .i64 n, .slice a 0 c], 25)] [] [] W) (0) ([(1, _), (2, _), (3, _), (8, _), (9, _)]) ⟨rfl, rfl, rfl, rfl, rfl, trivial⟩ (⟨rfl, hS.clear⟩) ?_
 clear hS
 rintro m l W ⟨rfl, hS⟩
 refine seqF (regF ?_)
 refine op_lss rfl rfl rfl ?_
 refine endF (XF.thenN ?_)
 refine seqF ?_
 refine condF rfl (fun hc => absurd (of_decide_eq_true hc) (by decide)) (fun hc => ?_)
 have hc := of_decide_eq_false hc
 refine exitF ?_
 refine XF.thenX ?_
 refine XF.thenX ?_
 refine XF.blkX ?_
 refine XF.thenN ?_
 refine seqF (regF ?_)
 refine op_move rfl rfl ?_
 refine op_field (o' := 2) fa_25_2 rfl rfl rfl ?_
 refine op_store (i := 1) (cs' := [_, _, _]) (O' := [_, _]) hS Try.sizeOf23 rfl rfl rfl rfl rfl rfl rfl ?_
 clear hS; intro W3 hS
 refine endF (XF.thenN ?_)
 refine seqF (regF ?_)
 refine op_loadA (vs := [_, _, _]) Try.isAgg25 Try.sizeOf25 rfl (CellsAt.own (j := 0) (m := 3) (hS.at_ 1 rfl) rfl) rfl ?_
 refine op_storeA (i := 0) (vs := [_, _, _]) (cs' := [_, _, _]) (O' := [_, _]) hS Try.sizeOf25 rfl rfl rfl rfl rfl rfl rfl ?_
 clear hS; intro W4 hS
 refine endF (XF.thenN ?_)
 refine retF ?_
 refine XF.res (resC1 (vs := [_, _, _]) Try.results32 Try.isAgg25 Try.sizeOf25 rfl (CellsAt.own (j := 0) (m := 3) (hS.at_ 0 rfl) rfl)) ?_
 exact ⟨rfl, hS.below⟩
theorem copySpace2 (tag dim : Int) (sa : Option Addr) (slen scap : Nat) (fs : List SF) (w : World) (hrow : ∀ (i : Nat) q, fs[i]? = some q → ∃ b off, sa = some ⟨b, off, none⟩ ∧ S3 w b (off + i * 3) q) (hlen : fs.length = slen) (h0 : ∀ q ∈ fs, q.len = 0) (hm : slen ≤ 2) :
  Calls Try.prog 32 #[.agg #[.int .i64 tag, .int .i64 dim, .slice sa slen scap]] w (fun e w' => ∃ v, e = .returned (.agg #[.int .i64 tag, .int .i64 dim, v]) ∧ w'.ownsRow w.heap.size 25 3 v slen (fs.flatMap bare3) ∧ Below w.heap.size w w') := by
 refine enterF (args := [.agg #[.int .i64 tag, .int .i64 dim, .slice sa slen scap]]) Try.func32 rfl Try.ntmps32 rfl ?_
 have hS := St.start w
 refine seqF (regF ?_)
 refine op_box (cs := [_, _, _]) hS rfl rfl rfl ?_
 clear hS; intro B1 W1 hS
 refine op_alloc (cs := [_, _, _]) hS Try.zeroValue25 rfl rfl ?_
 clear hS; intro B2 W2 hS
 refine endF (XF.thenN ?_)
 refine seqF (regF ?_)
 refine op_assign rfl rfl ?_
 refine endF (XF.thenN ?_)
 refine seqF ?_
 refine seqF ?_
 have hS := hS.newG 25 3
 refine regF ?_
 refine op_field (o' := 2) fa_25_2 rfl rfl rfl ?_
 refine op_load Try.isAgg23 rfl (cell_own (hS.at_ 1 rfl) rfl) rfl ?_
 refine op_len Try.underlying23 rfl rfl ?_
 refine op_move rfl rfl ?_
 refine endF (XF.thenN ?_)
 refine blockF ?_
 refine loopF (fun m l W => ∃ (i : Nat) (v : Value), i ≤ slen ∧ m = slen - i ∧ l = [(1, .pointer (some ⟨B1, 0, none⟩)), (2, .pointer (some ⟨B2, 0, none⟩)), (3, v), (7, .slice sa slen scap), (8, .int .i64 (slen : Int)), (9, .int .i64 (i : Int))] ∧ St w [(B2, [.int .i64 0, .int .i64 0, .slice none 0 0], 25), (B1, [.int .i64 tag, .int .i64 dim, .slice sa slen scap], 25)] [⟨v, i, (fs.take i).flatMap bare3, 25, 3⟩] [] W) (slen - 0) ([(1, _), (2, _), (3, _), (7, _), (8, _), (9, _)]) ⟨rfl, rfl, rfl, rfl, rfl, rfl, trivial⟩ (⟨0, _, Nat.zero_le _, rfl, rfl, hS.clear⟩) ?_
 clear hS
 rintro m l W ⟨i, v, hi, rfl, rfl, hS⟩
 refine seqF (regF ?_)
 refine op_lss rfl rfl rfl ?_
 refine endF (XF.thenN ?_)
 refine seqF ?_
 refine condF rfl (fun hc => ?_) (fun hc => ?_)
 ·have hc10 := of_decide_eq_true hc; clear hc
  have hk : i < slen := by omega
  obtain ⟨q, hq⟩ : ∃ q, fs[i]? = some q := ⟨fs[i]'(by omega), by simp [show i < fs.length by omega]⟩
  obtain ⟨b, off, rfl, hs3⟩ := hrow i q hq
  obtain ⟨t9, d9, a9, l9, c9⟩ := q
  obtain rfl : l9 = 0 := h0 _ (List.mem_of_getElem? hq)
  have k1 : CellsAt W b (off + i * 3) [.int .i64 t9, .int .i64 d9, .slice a9 0 c9] := CellsAt.agree hS.agree (Nat.zero_le _) hs3.cells
  refine skipF ?_
  refine XF.thenN ?_
  refine seqF ?_
  refine blockF ?_
  refine seqF (regF ?_)
  refine op_indexA  Try.underlying23 Try.sizeOf25 rfl rfl rfl (by omega) rfl rfl ?_
  refine op_loadA (vs := [_, _, _]) Try.isAgg25 Try.sizeOf25 rfl (k1) rfl ?_
  refine op_alloc (cs := [_, _, _]) hS Try.zeroValue25 rfl rfl ?_
  clear hS; intro B3 W3 hS
  refine op_storeA (i := 0) (vs := [_, _, _]) (cs' := [_, _, _]) (O' := [_, _, _]) hS Try.sizeOf25 rfl rfl rfl rfl rfl rfl rfl ?_
  clear hS; intro W4 hS
  refine endF (XF.thenN ?_)
  refine regF ?_
  refine op_move rfl rfl ?_
  refine op_loadA (vs := [_, _, _]) Try.isAgg25 Try.sizeOf25 rfl (CellsAt.own (j := 0) (m := 3) (hS.at_ 0 rfl) rfl) rfl ?_
  refine op_call (vs := [_]) hS goes_32 rfl (copySpace1 t9 d9 a9 c9 _) rfl ?_
  rintro e W5 ⟨rfl, hb⟩
  refine ⟨_, rfl, hb, fun hS' => ?_⟩
  clear hS; have hS := hS'; clear hS' hb
  refine op_buildSlice (us := [(0, .agg (List.toArray [_, _, _]))]) hS Try.underlying23 Try.sizeOf25 Try.zeroValue25 rfl rfl rfl (bs_23_1 _ _ _) rfl ?_
  clear hS; intro B6 W6 hS
  refine op_append (i := 0) (news := [_, _, _]) hS Try.underlying23 inf_25 rfl rfl (by show 0 < 3; decide) rfl rfl rfl rfl rfl (CellsAt.own (j := 0) (m := 3) (hS.at_ 0 rfl) rfl) rfl rfl (by dsimp only; simp only [maxLen]; omega) (by dsimp only; show _ * 40 ≤ _; omega) rfl ?_
  clear hS; intro v7 W7 hS
  refine op_assign rfl rfl ?_
  refine endF ?_
  refine XF.blkN ?_
  refine XF.thenN ?_
  refine regF ?_
  refine op_add rfl rfl (IntWalk.i64_in _ (by omega)) rfl ?_
  refine op_move rfl rfl ?_
  refine endF ?_
  exact XF.round (slen - (i + 1)) [(1, _), (2, _), (3, _), (7, _), (8, _), (9, _)] (by omega) ⟨rfl, rfl, rfl, rfl, rfl, rfl, trivial⟩ ⟨i + 1, _, by omega, rfl, rfl, hS.tail.tail.clear.castG (by simp [List.take_add_one, hq, bare3])⟩
 ·have hc10 := of_decide_eq_false hc; clear hc
  have hil : i = slen := by omega
  rw [List.take_of_length_le (by omega), hil] at hS
  obtain ⟨a9, c9, rfl⟩ := hS.headSl
  refine exitF ?_
  refine XF.thenX ?_
  refine XF.thenX ?_
  refine XF.blkX ?_
  refine XF.thenN ?_
  refine seqF (regF ?_)
  refine op_move rfl rfl ?_
  refine op_field (o' := 2) fa_25_2 rfl rfl rfl ?_
  refine op_store (i := 1) (cs' := [_, _, _]) (O' := [_, _]) hS Try.sizeOf23 rfl rfl rfl rfl rfl rfl rfl ?_
  clear hS; intro W8 hS
  refine endF (XF.thenN ?_)
  refine seqF (regF ?_)
  refine op_loadA (vs := [_, _, _]) Try.isAgg25 Try.sizeOf25 rfl (CellsAt.own (j := 0) (m := 3) (hS.at_ 1 rfl) rfl) rfl ?_
  refine op_storeA (i := 0) (vs := [_, _, _]) (cs' := [_, _, _]) (O' := [_, _]) hS Try.sizeOf25 rfl rfl rfl rfl rfl rfl rfl ?_
  clear hS; intro W9 hS
  refine endF (XF.thenN ?_)
  refine retF ?_
  refine XF.res (resC1 (vs := [_, _, _]) Try.results32 Try.isAgg25 Try.sizeOf25 rfl (CellsAt.own (j := 0) (m := 3) (hS.at_ 0 rfl) rfl)) ?_
  exact ⟨_, rfl, hS.row 0 rfl, hS.below⟩
end Go.Proofs.Ytpkcaabbcoiiiaa
namespace Go.Proofs.Ytpkcaabbcoiiiaa
open Go Go.RowKit
section
variable {P : Program} {n : Nat} {Q : Exit → Act → World → Prop} {l : Fr} {w0 W : World} {ops : Array Oper} {os : List Oper} {O : Own} {G : Grows} {K : List (Nat × World)} {L L2 : List Asr} {i : Nat} {ty : TypeId} {pos : String}
def lastC (ops : Array Oper) (k : Nat) : Bool := decide (k + 1 = ops.size) && (List.range k).all fun j => (earlyL ops k).contains j
theorem lastC_size {k : Nat} (h : lastC ops k = true) : k + 1 = ops.size := by
 unfold lastC at h
 exact of_decide_eq_true (Bool.and_eq_true_iff.1 h).1
theorem lastC_all {k : Nat} {o : Oper} {LB : Array Bool} (h : lastC ops k = true) (ho : ops[k]? = some o) (hdep : ∀ e ∈ o.after, Region.binds .any e = true → LB.getD e.on false = true) (hcl : ∀ j, LB.getD j false = true → ∀ x ∈ aft ops j, LB.getD x false = true) : ∀ j, j < k → LB.getD j false = true := fun j hj => by
 unfold lastC at h
 have h2 := List.all_eq_true.1 (Bool.and_eq_true_iff.1 h).2 j (List.mem_range.2 hj)
 refine early_done (D := fun x => LB.getD x false = true) (fun x hx => ?_) hcl j (List.contains_iff_mem.1 h2)
 obtain ⟨e, he, h5, h6⟩ := aft_mem ho hx
 have h7 := hdep e he h6
 rw [h5] at h7
 exact h7
theorem closed_step {o : Oper} {LB : Array Bool} (hi : i < LB.size) (ho : ops[i]? = some o) (hdep : ∀ e ∈ o.after, Region.binds .any e = true → LB.getD e.on false = true) (hcl : ∀ j, LB.getD j false = true → ∀ x ∈ aft ops j, LB.getD x false = true) : ∀ j, (LB.setIfInBounds i true).getD j false = true → ∀ x ∈ aft ops j, (LB.setIfInBounds i true).getD x false = true := fun j hj x hx => by
 have hx2 : LB.getD x false = true := by
  by_cases hji : j = i
  ·subst hji
   obtain ⟨e, he, h5, h6⟩ := aft_mem ho hx
   have h7 := hdep e he h6
   rw [h5] at h7
   exact h7
  ·rw [getD_set_ne false (Ne.symm hji)] at hj
   exact hcl j hj x hx
 by_cases hxi : x = i
 ·subst hxi
  rw [Array.getD_eq_getD_getElem?, Array.getElem?_setIfInBounds_self_of_lt hi]; rfl
 ·rw [getD_set_ne false (Ne.symm hxi)]; exact hx2
theorem region_lastSC {k : Nat} {dn : Nat → Bool} {t0 : Array Value} {d0 : List Deferred} {G : World → Prop} {I : Nat → Value → World → Prop} (hl : lastC ops k = true) (ht : tidyR ops t0.size = true) (hst : ∀ i v w w', G w → I i v w → Below w.heap.size w w' → I i v w')
  (hstep : ∀ i, i < k → dn i = false → RStep P ops Q t0 G I i) (hfin : RFin ops t0 d0 G I k (wpOp P ops Q k (Q .normal))) :
  ∀ (fuel : Nat) (L : Array Bool) (a : Act) (w : World), L.size = ops.size → L.getD k true = false → (∀ i, dn i = true → L.getD i false = true) → L.toList.count false ≤ fuel → (∀ j, L.getD j false = true → ∀ x ∈ aft ops j, L.getD x false = true) → RInv ops t0 d0 G I L a w → wpAny P .any ops Q fuel L a w := by
 have hk : k + 1 = ops.size := lastC_size hl
 have cnt : ∀ (L : Array Bool) i, L.getD i true = false → L.toList[i]? = some false := fun L i h1 => by
  rw [Array.getD_eq_getD_getElem?] at h1
  rw [Array.getElem?_toList]
  cases hL : L[i]? with
  | none => rw [hL] at h1; cases h1
  | some b => rw [hL] at h1; simpa using h1
 intro fuel
 induction fuel with
 | zero =>
  intro L a w hs hlk hlp hc hcl h
  have := cnt_set _ _ (cnt L k hlk)
  omega
 | succ fuel ih =>
  intro L a w hs hlk hlp hc hcl h
  refine ⟨fun hr => ?_, fun i hi => ?_⟩
  ·rw [ready_nil ht hs hr k (by omega)] at hlk
   cases hlk
  ·obtain ⟨h1, o, ho, hdep⟩ := mem_ready.1 hi
   have his : i < ops.size := (Array.getElem?_eq_some_iff.1 ho).1
   have hc1 := cnt_set _ _ (cnt L i h1)
   have hip : dn i = false := by
    cases hd : dn i with
    | false => rfl
    | true =>
     have h3 := hlp i hd
     have h2 := cnt L i h1
     rw [Array.getElem?_toList] at h2
     rw [Array.getD_eq_getD_getElem?, h2] at h3
     cases h3
   by_cases hik : i = k
   ·subst hik
    have hall : ∀ j, j < i → L.getD j false = true := lastC_all hl ho (fun e he hb => hdep e he hb) hcl
    refine wpOp_mono ?_ (hfin a w h.size h.defers h.frame h.glob fun j d hj hd => h.done j d hd (hall j hj))
    intro a' w' hq
    have hnil : Region.ready .any ops (L.setIfInBounds i true) = [] := by
     cases hr : Region.ready .any ops (L.setIfInBounds i true) with
     | nil => rfl
     | cons j rest =>
      have hj : j ∈ Region.ready .any ops (L.setIfInBounds i true) := by rw [hr]; exact List.mem_cons_self
      obtain ⟨h5, o', ho', _⟩ := mem_ready.1 hj
      have hjs : j < ops.size := (Array.getElem?_eq_some_iff.1 ho').1
      by_cases hji : j = i
      ·subst hji
       rw [Array.getD_eq_getD_getElem?, Array.getElem?_eq_getElem (by simpa using (by omega : j < L.size))] at h5
       simp at h5
      ·rw [getD_set_ne true (Ne.symm hji)] at h5
       have h6 := hall j (by omega)
       rw [Array.getD_eq_getD_getElem?] at h5 h6
       rw [Array.getElem?_eq_getElem (by omega)] at h5 h6
       simp at h5 h6
       rw [h5] at h6
       cases h6
    cases fuel with
    | zero => exact ⟨hnil, hq⟩
    | succ fuel => exact ⟨fun _ => hq, by rw [hnil]; simp⟩
   ·refine wpOp_mono ?_ (hstep i (by omega) hip a w h.frameE h.glob (h.deps hi))
    rintro a' w' ⟨⟨v, rfl, hI⟩, hG, hB⟩
    refine ih _ _ _ (by simpa using hs) (by rw [getD_set_ne true hik]; exact hlk) (fun j hj => ?_) ?_ (closed_step (by omega) ho (fun e he hb => hdep e he hb) hcl) (h.next ht h1 hst hI hG hB)
    ·have hij : i ≠ j := fun e => by subst e; rw [hip] at hj; cases hj
     rw [getD_set_ne false hij]; exact hlp j hj
    ·rw [Array.toList_setIfInBounds]
     omega
theorem region_appendC {k p dp : Nat} {t0 : Array Value} {d0 : List Deferred} {late : Nat → Bool} {o : Oper} {RA : World → Value → World → Prop} (hl : lastC ops k = true) (ht : tidyR ops t0.size = true) (hst : StabL L) (hst2 : StabL L2) (hpk : p < k) (hp : ops[p]? = some o) (hod : o.dst = some dp) (hog : o.guard = none)
  (hearly : ∀ j, j < k → j ≠ p → late j = false → j ∈ earlyL ops p)
  (hstep : ∀ i, i < k → i ≠ p → RStep P ops Q t0 (fun w => Below W.heap.size W w) (atI L) i)
  (happ : ∀ (a : Act) (w : World), (∀ t, freeT ops t = true → a.eval (.tmp t) = t0.getD t undef) → Below W.heap.size W w → (∀ j d, waitsFor ops p j d = true → atI L j (a.eval (.tmp d)) w) → ∃ v w', (execOp a.eval o).run P w = .ok (.value v) w' ∧ RA w v w')
  (hL2p : atI L2 p = anyA) (hpure : ∀ i, i < k → i ≠ p → ∀ v w w', atI L i v w → atI L2 i v w')
  (hlate : ∀ v' W2 i, i < k → i ≠ p → late i = true → RStep P ops Q t0 (fun w => w = W2) (IP L2 p v') i)
  (hfin : ∀ A v' W2, Below W.heap.size W A → RA A v' W2 → RFin ops t0 d0 (fun w => w = W2) (IP L2 p v') k (wpOp P ops Q k (Q .normal))) :
  ∀ (fuel : Nat) (LB : Array Bool) (a : Act) (w : World), LB.size = ops.size → LB.getD k true = false → LB.toList.count false ≤ fuel → LB.getD p true = false → (∀ j, LB.getD j false = true → ∀ x ∈ aft ops j, LB.getD x false = true) → RInv ops t0 d0 (fun w => Below W.heap.size W w) (atI L) LB a w → wpAny P .any ops Q fuel LB a w := by
 have hl0 := hl
 have hk : k + 1 = ops.size := lastC_size hl
 have cnt : ∀ (L : Array Bool) i, L.getD i true = false → L.toList[i]? = some false := fun L i h1 => by
  rw [Array.getD_eq_getD_getElem?] at h1
  rw [Array.getElem?_toList]
  cases hL : L[i]? with
  | none => rw [hL] at h1; cases h1
  | some b => rw [hL] at h1; simpa using h1
 intro fuel
 induction fuel with
 | zero =>
  intro LB a w hs hlk hc hlp hcl h
  have := cnt_set _ _ (cnt LB k hlk)
  omega
 | succ fuel ih =>
  intro LB a w hs hlk hc hlp hcl h
  refine ⟨fun hr => ?_, fun i hi => ?_⟩
  ·rw [ready_nil ht hs hr k (by omega)] at hlk
   cases hlk
  ·obtain ⟨h1, o', ho, hdep⟩ := mem_ready.1 hi
   have his : i < ops.size := (Array.getElem?_eq_some_iff.1 ho).1
   have hc1 := cnt_set _ _ (cnt LB i h1)
   by_cases hik : i = k
   ·subst hik
    have h3 := lastC_all hl ho (fun e he hb => hdep e he hb) hcl p hpk
    have h4 := cnt LB p hlp
    rw [Array.getElem?_toList] at h4
    rw [Array.getD_eq_getD_getElem?, h4] at h3
    cases h3
   ·by_cases hip : i = p
    ·subst hip
     rw [hp] at ho
     have ho' := (Option.some.inj ho).symm
     subst ho'
     obtain ⟨v', w', hr, hRA⟩ := happ a w h.frameE h.glob (h.deps hi)
     have step : wpOp P ops Q i (fun a2 w2 => a2 = a.put (some dp) v' ∧ w2 = w') a w := by
      unfold wpOp
      simp only [hp, wanted_free hog, if_true]
      refine .inl ?_
      unfold Oper.wp
      rw [hr]
      exact ⟨by rw [hod], rfl⟩
     refine wpOp_mono ?_ step
     rintro a2 w2 ⟨rfl, rfl⟩
     have hdst : (ops[i]?).bind (·.dst) = some dp := by rw [hp]; exact hod
     refine region_lastSC (t0 := t0) (d0 := d0) (dn := fun j => decide (j = i) || (decide (j < k) && !late j)) (G := fun w => w = w2) (I := IP L2 i v') hl0 ht ?_ ?_ (hfin _ _ _ h.glob hRA) fuel _ _ _ (by simpa using hs) (by rw [getD_set_ne true hik]; exact hlk) ?_ ?_ (closed_step (by omega) hp (fun e he hb => hdep e he hb) hcl) ?_
     ·rintro j v w1 w3 _ ⟨h5, h6⟩ hb
      exact ⟨h5, atI_stab hst2 _ _ _ _ h6 hb⟩
     ·intro j hj hd
      simp only [Bool.or_eq_false_iff, decide_eq_false_iff_not, Bool.and_eq_false_iff, Bool.not_eq_false'] at hd
      refine hlate v' w2 j hj hd.1 ?_
      rcases hd.2 with h5 | h5
      ·exact absurd hj h5
      ·exact h5
     ·intro j hd
      simp only [Bool.or_eq_true, decide_eq_true_eq, Bool.and_eq_true, Bool.not_eq_true'] at hd
      by_cases hji : j = i
      ·subst hji
       rw [Array.getD_eq_getD_getElem?, Array.getElem?_setIfInBounds_self_of_lt (by omega)]; rfl
      ·rcases hd with hd | ⟨hd1, hd2⟩
       ·exact absurd hd hji
       ·rw [getD_set_ne false (Ne.symm hji)]
        refine early_done (D := fun x => LB.getD x false = true) (fun x hx => ?_) (fun j hj x hx => hcl j hj x hx) j (hearly j hd1 hji hd2)
        obtain ⟨e, he, h5, h6⟩ := aft_mem hp hx
        have h7 := hdep e he h6
        rw [h5] at h7
        exact h7
     ·rw [Array.toList_setIfInBounds]; omega
     ·refine ⟨by rw [put_size]; exact h.size, by rw [put_defers]; exact h.defers, fun t hf => ?_, rfl, fun j d hd hj => ?_⟩
      ·rw [put_other ?_]
       ·exact h.frame t hf
       ·intro e
        have := Array.all_eq_true'.1 hf _ (Array.mem_of_getElem? hp)
        simp at this
        exact this (hod.trans e)
      ·by_cases hji : j = i
       ·subst hji
        rw [hdst] at hd
        rw [put_at hd (by rw [h.size]; exact (tidy_dst ht (hdst.trans hd)).1)]
        exact ⟨fun _ => rfl, by rw [hL2p]; trivial⟩
       ·rw [getD_set_ne false (Ne.symm hji)] at hj
        rw [put_other (fun e => hji ((tidy_dst ht (hdst.trans e)).2 j hd))]
        have hjk : j < k := by
         obtain ⟨o2, ho2, _⟩ := Option.bind_eq_some_iff.1 hd
         have h5 := (Array.getElem?_eq_some_iff.1 ho2).1
         have h6 : j ≠ k := fun e => by
          subst e
          have h4 := cnt LB j hlk
          rw [Array.getElem?_toList] at h4
          rw [Array.getD_eq_getD_getElem?, h4] at hj
          cases hj
         omega
        exact ⟨fun e => absurd e hji, hpure j hjk hji _ _ _ (h.done j d hd hj)⟩
    ·refine wpOp_mono ?_ (hstep i (by omega) hip a w h.frameE h.glob (h.deps hi))
     rintro a' w' ⟨⟨v, rfl, hI⟩, hG, hB⟩
     refine ih _ _ _ (by simpa using hs) (by rw [getD_set_ne true hik]; exact hlk) ?_ (by rw [getD_set_ne true hip]; exact hlp) (fun j hj x hx => ?_) (h.next ht h1 (fun i v w w' _ h hb => atI_stab hst i v w w' h hb) hI hG hB)
     ·rw [Array.toList_setIfInBounds]
      omega
     ·have hx2 : LB.getD x false = true := by
       by_cases hji : j = i
       ·subst hji
        obtain ⟨e, he, h5, h6⟩ := aft_mem ho hx
        have h7 := hdep e he h6
        rw [h5] at h7
        exact h7
       ·rw [getD_set_ne false (Ne.symm hji)] at hj
        exact hcl j hj x hx
      by_cases hxi : x = i
      ·subst hxi
       rw [Array.getD_eq_getD_getElem?, Array.getElem?_setIfInBounds_self_of_lt (by omega)]; rfl
      ·rw [getD_set_ne false (Ne.symm hxi)]; exact hx2
theorem regBPC {id dp p k : Nat} {o : Oper} {t e tx tz : TypeId} {inf : TypeInfo} {z : Value} {gi m : Nat} {g : GR} {aftp : Array Edge} (hm : P.follows .mixedOrders = true) (hS : St w0 O G K W) (hk : os[k]? = some o) (hlen : os.length = k + 1) (hl : lastC os.toArray k = true) (ht : tidyR os.toArray n = true) (hdst : (os.take k).all (fun o => o.dst.isSome) = true) (hfree : ∀ d, o.dst = some d → look l d = none)
  (hp : os[p]? = some ⟨some dp, .call { callee := .builtin .append, args := #[.tmp tx, .tmp tz], argTypes := #[t, t] }, ty, pos, aftp, none⟩) (hpk : Nat.blt p k = true)
  (hU : P.underlying t = some (.slice e)) (hinf : P.info? e = some inf) (hz : inf.zero = some z) (hzs : z.cells.size = inf.size) (hsz : 0 < inf.size)
  (hi : G[gi]? = some g) (he : g.e = e) (hgs : g.size = inf.size) (h63 : g.n + m ≤ maxLen) (hbytes : (g.n + m) * inf.bytes ≤ 140737488355328)
  (h : BLP P n os.toArray Q l W p (fun Lr L2r => ∃ (py : Asr) (q : List Value → World → Prop), OpG n os.toArray l Lr.reverse p tx (isV g.v) ∧ OpG n os.toArray l Lr.reverse p tz py ∧ RowOf m inf.size q py ∧
   ∀ A v' news W', Below W.heap.size W A → q news A → St w0 O (G.set gi ⟨v', g.n + m, g.xs ++ news, e, g.size⟩) ((W.heap.size, A) :: K) W' → FinI (os.take k) (pvL v' p 0 L2r.reverse) l (fun l' W' => OpsF P n os.toArray Q [o] l' W') W') k [] [] 0) : CodeF P n (.region id os.toArray true) Q l W := by
 obtain ⟨Lr, L2r, h1, h2, h3, h4, h5, py, q, hx, hy, hpy, hfin⟩ := blp_run p ht k 0 [] [] rfl rfl (fun p hp => by cases hp) (fun p hp => by cases hp) (fun i hi => by omega) h
 have hpk' : p < k := Nat.lt_of_lt_of_le (Nat.lt_succ_self _) (Nat.le_of_ble_eq_true hpk)
 subst he
 rw [Nat.zero_add] at h1 h2 h5
 have hpo : os.toArray[p]? = some ⟨some dp, .call { callee := .builtin .append, args := #[.tmp tx, .tmp tz], argTypes := #[t, t] }, ty, pos, aftp, none⟩ := by simpa using hp
 have hko : os.toArray[k]? = some o := by simpa using hk
 have hL2p : atI L2r.reverse p = anyA := by
  rcases (h5 p hpk').2 with h6 | h6
  ·exact h6.2
  ·exact absurd rfl h6.1
 intro a ha
 refine wp_region_any hm (region_appendC (W := W) (t0 := a.tmps) (d0 := a.defers) (L := Lr.reverse) (L2 := L2r.reverse) (late := fun j => !earlyR os.toArray p j)
  (RA := fun A v' W' => ∃ news, q news A ∧ St w0 O (G.set gi ⟨v', g.n + m, g.xs ++ news, g.e, g.size⟩) ((W.heap.size, A) :: K) W') hl (by rw [ha.size]; exact ht) (stabL_of fun q hq => h3 q (List.mem_reverse.1 hq)) (stabL_of fun q hq => h4 q (List.mem_reverse.1 hq)) hpk' hpo rfl rfl ?_ ?_ ?_ hL2p ?_ ?_ ?_ _ _ _ _ (by simp) ?_ (count_rep _) ?_ (fun j hj => by rw [Array.getD_eq_getD_getElem?, Array.getElem?_replicate] at hj; split at hj <;> simp at hj) (inv_zero ((Below.refl _ _).drew)))
 ·intro j hj hjp he
  simp only [Bool.not_eq_false'] at he
  exact List.contains_iff_mem.1 he
 ·intro i hi hip
  rcases (h5 i hi).2 with h6 | h6
  ·exact absurd h6.1 hip
  ·exact h6.2.1 a ha
 ·intro b w hF hG hD
  have ex : b.eval (.tmp tx) = g.v := hx a ha b w hF hD
  obtain ⟨bb, oo, c, cs, ey, hc, hcl, h1c, hq⟩ := hpy _ w (hy a ha b w hF hD)
  have hS2 := hS.call hG
  have hrow := hS2.row gi hi
  rw [hgs] at hrow
  obtain ⟨v', W', hr, k2, k3, k4⟩ := append_own2 (P := P) (w := w) w0.heap.size t ty g.e inf z hU hinf hz hzs hsz g.v g.n g.xs hrow ⟨bb, oo, none⟩ m c cs hcl (fun j u hj => by rw [Addr.add_lit]; exact hc.get j u hj) (fun u hu => List.all_eq_true.1 h1c u hu) h63 hbytes hS2.below.size
  rw [← hgs] at k2
  refine ⟨v', W', ?_, cs, hq, hS2.setG gi hi k2 k3 k4⟩
  unfold execOp
  simp only [resolve, invoke, builtin, Sem.run_bind, Sem.run_pure, Result.andThen_ok, List.map_toArray, List.map_cons, List.map_nil, ex, ey, hr]
 ·intro i hi hip v w w' hv
  exact (h5 i hi).1 v w w' hv
 ·intro v' W2 i hi hip hlt
  rcases (h5 i hi).2 with h6 | h6
  ·exact absurd h6.1 hip
  ·rcases h6.2.2 with h7 | h7
   ·rw [h7] at hlt; cases hlt
   ·exact h7 v' W2 a ha
 ·rintro A v' W2 hB ⟨news, hq, hS2⟩
  intro a' W' hs hd hf hG hI
  subst hG
  have hdst' : ∀ o ∈ os.take k, ∃ d, o.dst = some d := fun o ho => Option.isSome_iff_exists.1 (List.all_eq_true.1 hdst o ho)
  have htk : (os.take k).length = k := by simp; omega
  refine fin_has (os.take k) (pvL v' p 0 L2r.reverse) l (fun i d hi hd' => ?_) (hs.trans ha.size) (hd.trans ha.defers) ?_ hdst' (fun l' h ha' => ?_) (hfin A v' news W' hB hq hS2)
  ·have hik : i < k := by omega
   have h6 := hI i d hik (by rw [List.getElem?_take, if_pos hik] at hd'; simpa using hd')
   rw [atI_pvL L2r.reverse 0 i (by simp; omega)]
   by_cases hip : i + 0 = p
   ·rw [if_pos hip]; exact h6.1 hip
   ·rw [if_neg hip]; exact h6.2
  ·intro t' v hv hno
   rw [hf t' (by
    unfold freeT; rw [Array.all_eq_true']; intro o' ho'
    have ho2 : o' ∈ os := by simpa using ho'
    obtain ⟨j, hj⟩ := List.getElem?_of_mem ho2
    by_cases hjk : j < k
    ·have : o' ∈ os.take k := List.mem_of_getElem? (by rw [List.getElem?_take, if_pos hjk]; exact hj)
     simpa using hno o' this
    ·have hjl := (List.getElem?_eq_some_iff.1 hj).1
     have : j = k := by omega
     subst this
     rw [hk] at hj
     have e2 := Option.some.inj hj
     subst e2
     cases hx : o.dst with
     | none => simp
     | some d => simp; intro e; subst e; rw [hfree d hx] at hv; cases hv)]
   exact ha.at_ t' v hv
  ·have h6 := h a' ha'
   unfold wpOp
   rw [hko]
   exact h6
 ·rw [Array.getD_eq_getD_getElem?, Array.getElem?_replicate, if_pos (by simp; omega)]; rfl
 ·rw [Array.getD_eq_getD_getElem?, Array.getElem?_replicate, if_pos (by simp; omega)]; rfl
end
end Go.Proofs.Ytpkcaabbcoiiiaa
namespace Go.Proofs.Ytpkcaabbcoiiiaa
open Go Go.RowKit
theorem bs_26_1 (v00 : Value) (v01 : Value) (v02 : Value) (v03 : Value) (v04 : Value) (v05 : Value) (v06 : Value) (v07 : Value) (v08 : Value) (v09 : Value) : Instr.fill (fun i => some (i * 10, 10)) ((Array.range (1 * 10)).map ((Value.cells (.agg #[.int .i64 0, .int .i64 0, .int .i64 0, .slice none 0 0, .bool false, .int .i64 0, .int .u64 0, .slice none 0 0, .slice none 0 0, .slice none 0 0]))[· % (Value.cells (.agg #[.int .i64 0, .int .i64 0, .int .i64 0, .slice none 0 0, .bool false, .int .i64 0, .int .u64 0, .slice none 0 0, .slice none 0 0, .slice none 0 0])).size]!)) [(0, .agg #[v00, v01, v02, v03, v04, v05, v06, v07, v08, v09])] = some (List.toArray [v00, v01, v02, v03, v04, v05, v06, v07, v08, v09]) := by kernel_rfl
theorem bs_31_1 (v0 : Bool) : Instr.fill (fun i => some (i * 1, 1)) ((Array.range (1 * 1)).map ((Value.cells (.bool false))[· % (Value.cells (.bool false)).size]!)) [(0, .bool v0)] = some (List.toArray [.bool v0]) := by kernel_rfl
theorem fa_87_1 (w : World) (b o : Nat) : (Instr.fieldAt 87 (.pointer (some ⟨b, o, none⟩)) 1).run Try.prog w = .ok (.pointer (some ⟨b, o + 9, none⟩)) w := by
 simp [Instr.fieldAt, run_underlying Try.underlying87, Instr.sureAddr, go_sem, Addr.add_lit]
theorem fa_33_0 (w : World) (b o : Nat) : (Instr.fieldAt 33 (.pointer (some ⟨b, o, none⟩)) 0).run Try.prog w = .ok (.pointer (some ⟨b, o + 0, none⟩)) w := by
 simp [Instr.fieldAt, run_underlying Try.underlying33, Instr.sureAddr, go_sem, Addr.add_lit]
theorem fa_33_1 (w : World) (b o : Nat) : (Instr.fieldAt 33 (.pointer (some ⟨b, o, none⟩)) 1).run Try.prog w = .ok (.pointer (some ⟨b, o + 6, none⟩)) w := by
 simp [Instr.fieldAt, run_underlying Try.underlying33, Instr.sureAddr, go_sem, Addr.add_lit]
theorem fa_33_2 (w : World) (b o : Nat) : (Instr.fieldAt 33 (.pointer (some ⟨b, o, none⟩)) 2).run Try.prog w = .ok (.pointer (some ⟨b, o + 7, none⟩)) w := by
 simp [Instr.fieldAt, run_underlying Try.underlying33, Instr.sureAddr, go_sem, Addr.add_lit]
theorem inf_4 : Try.prog.info? 4 = some Try.t4 := by kernel_rfl
theorem inf_47 : Try.prog.info? 47 = some Try.t47 := by kernel_rfl
theorem shPut_is (sf : SF) (f0 : WF) (s2 : SF) (zt yt : Int) (v1 v2 v3 : Value) (n : Nat) (xs1 xs2 xs3 : List Value) (B : Nat) (Ot : Own) (K : List (Nat × World)) (w0 : World) (num : Int) (fl : Bool) (rp rg rq : Int) (rwa : Option Addr) (rwl rwc : Nat) (f : WF) (w : World) (hS0 : St w0 ((B, shC sf f0 s2 zt yt v1 v2 v3, 87) :: Ot) [⟨v1, n, xs1, 47, 10⟩, ⟨v2, n, xs2, 3, 1⟩, ⟨v3, n, xs3, 4, 1⟩] K w) (hn : n ≤ 100000) :
  Calls Try.prog 60 #[.pointer (some ⟨B, 0, none⟩), .int .i64 num, .bool fl, .agg #[.int .i64 rp, .int .i64 rg, .int .i64 rq, .slice rwa rwl rwc, .bool f.z, .int .i64 f.c, .int .u64 (f.g : Int), .slice f.ra f.rl f.rc, .slice f.ca f.cl f.cc, .slice f.pa f.pl f.pc]] w (fun e w' => ∃ u1 u2 u3 : Value, e = .returned (.tuple #[]) ∧ St w0 ((B, shC sf f0 s2 zt yt u1 u2 u3, 87) :: Ot) [⟨u1, n + 1, xs1 ++ [.int .i64 rp, .int .i64 rg, .int .i64 rq, .slice rwa rwl rwc, .bool f.z, .int .i64 f.c, .int .u64 (f.g : Int), .slice f.ra f.rl f.rc, .slice f.ca f.cl f.cc, .slice f.pa f.pl f.pc], 47, 10⟩, ⟨u2, n + 1, xs2 ++ [.int .i64 num], 3, 1⟩, ⟨u3, n + 1, xs3 ++ [.bool fl], 4, 1⟩] K w') := by
 refine enterF (args := [.pointer (some ⟨B, 0, none⟩), .int .i64 num, .bool fl, .agg #[.int .i64 rp, .int .i64 rg, .int .i64 rq, .slice rwa rwl rwc, .bool f.z, .int .i64 f.c, .int .u64 (f.g : Int), .slice f.ra f.rl f.rc, .slice f.ca f.cl f.cc, .slice f.pa f.pl f.pc]]) Try.func60 rfl Try.ntmps60 rfl ?_
 have hS := hS0
 refine seqF (regF ?_)
 refine op_box (cs := [_, _, _, _, _, _, _, _, _, _]) hS rfl rfl rfl ?_
 clear hS; intro B1 W1 hS
 refine endF (XF.thenN ?_)
 refine seqF ?_
 refine regBPC (p := 9) (k := 14) (gi := 0) (m := 1) followsM hS rfl rfl (by kernel_rfl) (by kernel_rfl) (by kernel_rfl) (fun d hd => by cases hd) rfl rfl Try.underlying26 inf_47 rfl rfl (by show 0 < 10; decide) rfl rfl rfl (by dsimp only; simp only [maxLen]; omega) (by dsimp only; show _ * 144 ≤ _; omega) ?_
 refine blp_late 1 rfl rfl (rgV (li := [(0, _)]) rfl (w_free rfl) ⟨g_fr (by kernel_rfl) rfl, trivial⟩ (fun w hw => rn_move rfl) (at_top rfl)) (lgV (li := [(0, _)]) rfl (w_free rfl) ⟨g_fr (by kernel_rfl) rfl, trivial⟩ (fun w => rn_move rfl) (at_top rfl) rfl) ?_
 refine blp_v 2 rfl rfl (by kernel_rfl) (rgV (li := [(0, _)]) rfl (w_free rfl) ⟨g_fr (by kernel_rfl) rfl, trivial⟩ (fun w hw => rn_move rfl) (at_top rfl)) ?_
 refine blp_v 3 rfl rfl (by kernel_rfl) (rgV (li := [(9, _)]) rfl (w_free rfl) ⟨g_dep 1 (by kernel_rfl) (at_dep rfl rfl rfl), trivial⟩ (fun w hw => rn_nilCheck rfl) (at_top rfl)) ?_
 refine blp_v 4 rfl rfl (by kernel_rfl) (rgV (li := [(10, _)]) rfl (w_free rfl) ⟨g_dep 2 (by kernel_rfl) (at_dep rfl rfl rfl), trivial⟩ (fun w hw => rn_field (o' := 9) fa_87_1 rfl rfl) (at_top rfl)) ?_
 refine blp_v 5 rfl rfl (by kernel_rfl) (rgV (li := [(11, _)]) rfl (w_free rfl) ⟨g_dep 3 (by kernel_rfl) (at_dep rfl rfl rfl), trivial⟩ (fun w hw => rn_field (o' := 9) fa_33_0 rfl rfl) (at_top rfl)) ?_
 refine blp_v 6 rfl rfl (by kernel_rfl) (rgV (li := [(12, _)]) rfl (w_free rfl) ⟨g_dep 4 (by kernel_rfl) (at_dep rfl rfl rfl), trivial⟩ (fun w hw => rn_field (o' := 14) fa_28_3 rfl rfl) (at_top rfl)) ?_
 refine blp_v 7 rfl rfl (by kernel_rfl) (rgV (li := [(13, _)]) rfl (w_free rfl) ⟨g_dep 5 (by kernel_rfl) (at_dep rfl rfl rfl), trivial⟩ (fun w hw => rn_load Try.isAgg26 rfl ((below_agree hw 0).cell (Nat.zero_le _) (cell_own (hS.at_ 1 rfl) rfl))) (at_top rfl)) ?_
 refine blp_v 8 rfl rfl (by kernel_rfl) (rgV (li := [(7, _)]) rfl (w_free rfl) ⟨g_fr (by kernel_rfl) rfl, trivial⟩ (fun w hw => rn_loadA (vs := [_, _, _, _, _, _, _, _, _, _]) Try.isAgg47 Try.sizeOf47 rfl (CellsAt.agree (below_agree hw 0) (Nat.zero_le _) (CellsAt.own (j := 0) (m := 10) (hS.at_ 0 rfl) rfl))) (at_top rfl)) ?_
 refine blp_q 9 rfl rfl (by kernel_rfl) (isRow W1.heap.size 1 47 _) (stab_isRow) (rg_rowV (us := [.agg (List.toArray [_, _, _, _, _, _, _, _, _, _])]) rfl (w_free rfl) Try.underlying26 Try.sizeOf47 Try.zeroValue47 rfl rfl ⟨p_tmp (g_dep 7 (by kernel_rfl) (at_dep rfl rfl rfl)), trivial⟩ (bs_26_1 _ _ _ _ _ _ _ _ _ _) (at_top rfl)) ?_
 refine blp_app 10 rfl rfl ?_
 refine blp_late 11 rfl rfl (rgV (li := [(8, _)]) rfl (w_free rfl) ⟨g_dep 0 (by kernel_rfl) (at_dep rfl rfl rfl), trivial⟩ (fun w hw => rn_nilCheck rfl) (at_top rfl)) (lgV (li := [(8, _)]) rfl (w_free rfl) ⟨g_dep 0 (by kernel_rfl) (at_dep rfl rfl rfl), trivial⟩ (fun w => rn_nilCheck rfl) (at_top rfl) rfl) ?_
 refine blp_late 12 rfl rfl (rgV (li := [(18, _)]) rfl (w_free rfl) ⟨g_dep 10 (by kernel_rfl) (at_dep rfl rfl rfl), trivial⟩ (fun w hw => rn_field (o' := 9) fa_87_1 rfl rfl) (at_top rfl)) (lgV (li := [(18, _)]) rfl (w_free rfl) ⟨g_dep 10 (by kernel_rfl) (at_dep rfl rfl rfl), trivial⟩ (fun w => rn_field (o' := 9) fa_87_1 rfl rfl) (at_top rfl) rfl) ?_
 refine blp_late 13 rfl rfl (rgV (li := [(19, _)]) rfl (w_free rfl) ⟨g_dep 11 (by kernel_rfl) (at_dep rfl rfl rfl), trivial⟩ (fun w hw => rn_field (o' := 9) fa_33_0 rfl rfl) (at_top rfl)) (lgV (li := [(19, _)]) rfl (w_free rfl) ⟨g_dep 11 (by kernel_rfl) (at_dep rfl rfl rfl), trivial⟩ (fun w => rn_field (o' := 9) fa_33_0 rfl rfl) (at_top rfl) rfl) ?_
 refine blp_late 14 rfl rfl (rgV (li := [(20, _)]) rfl (w_free rfl) ⟨g_dep 12 (by kernel_rfl) (at_dep rfl rfl rfl), trivial⟩ (fun w hw => rn_field (o' := 14) fa_28_3 rfl rfl) (at_top rfl)) (lgV (li := [(20, _)]) rfl (w_free rfl) ⟨g_dep 12 (by kernel_rfl) (at_dep rfl rfl rfl), trivial⟩ (fun w => rn_field (o' := 14) fa_28_3 rfl rfl) (at_top rfl) rfl) ?_
 refine blp_nil ⟨_, _, g_dep 6 (by kernel_rfl) (at_dep rfl rfl rfl), g_dep 8 (by kernel_rfl) (at_dep rfl rfl rfl), rowOf_isRow rfl rfl, ?_⟩
 intro A2 v2 news2 W2 hbR hqA2 hS'
 clear hS; have hS := hS'; clear hS'
 cases hqA2
 refine fin_v ?_
 refine fin_v ?_
 refine fin_v ?_
 refine fin_v ?_
 refine fin_v ?_
 refine fin_v ?_
 refine fin_v ?_
 refine fin_v ?_
 refine fin_p ?_; intro _ _
 refine fin_v ?_
 refine fin_v ?_
 refine fin_v ?_
 refine fin_v ?_
 refine fin_v ?_
 refine fin_nil ?_
 refine op_store (i := 1) (cs' := [_, _, _, _, _, _, _, _, _, _, _, _, _, _, _, _, _]) (O' := (_ :: _ :: Ot)) hS Try.sizeOf26 rfl rfl (by first | rfl | exact (hS.oneV 0 _ rfl :) | exact (hS.oneV 1 _ rfl :) | exact (hS.oneV 2 _ rfl :) | exact (hS.oneV 3 _ rfl :)) rfl rfl rfl rfl ?_
 clear hS; intro W3 hS
 refine endF (XF.thenN ?_)
 refine seqF (regF ?_)
 refine op_move rfl rfl ?_
 refine op_move rfl rfl ?_
 refine op_nilCheck rfl rfl ?_
 refine op_field (o' := 9) fa_87_1 rfl rfl rfl ?_
 refine op_field (o' := 15) fa_33_1 rfl rfl rfl ?_
 refine op_load Try.isAgg29 rfl (cell_own (hS.at_ 1 rfl) rfl) rfl ?_
 refine op_move rfl rfl ?_
 refine op_buildSlice (us := [(0, .int .i64 _)]) hS Try.underlying29 Try.sizeOf3 Try.zeroValue3 rfl rfl rfl (bs_29_1 _) rfl ?_
 clear hS; intro B4 W4 hS
 refine op_append (i := 1) (news := [_]) hS Try.underlying29 inf_3 rfl rfl (by show 0 < 1; decide) rfl rfl rfl rfl rfl (CellsAt.own (j := 0) (m := 1) (hS.at_ 0 rfl) rfl) rfl rfl (by dsimp only; simp only [maxLen]; omega) (by dsimp only; show _ * 8 ≤ _; omega) rfl ?_
 clear hS; intro v5 W5 hS
 refine op_nilCheck rfl rfl ?_
 refine op_field (o' := 9) fa_87_1 rfl rfl rfl ?_
 refine op_field (o' := 15) fa_33_1 rfl rfl rfl ?_
 refine op_store (i := 2) (cs' := [_, _, _, _, _, _, _, _, _, _, _, _, _, _, _, _, _]) (O' := (_ :: _ :: _ :: Ot)) hS Try.sizeOf29 rfl rfl (by first | rfl | exact (hS.oneV 0 _ rfl :) | exact (hS.oneV 1 _ rfl :) | exact (hS.oneV 2 _ rfl :) | exact (hS.oneV 3 _ rfl :)) rfl rfl rfl rfl ?_
 clear hS; intro W6 hS
 refine endF (XF.thenN ?_)
 refine regF ?_
 refine op_move rfl rfl ?_
 refine op_move rfl rfl ?_
 refine op_nilCheck rfl rfl ?_
 refine op_field (o' := 9) fa_87_1 rfl rfl rfl ?_
 refine op_field (o' := 16) fa_33_2 rfl rfl rfl ?_
 refine op_load Try.isAgg31 rfl (cell_own (hS.at_ 2 rfl) rfl) rfl ?_
 refine op_move rfl rfl ?_
 refine op_buildSlice (us := [(0, .bool _)]) hS Try.underlying31 Try.sizeOf4 Try.zeroValue4 rfl rfl rfl (bs_31_1 _) rfl ?_
 clear hS; intro B7 W7 hS
 refine op_append (i := 2) (news := [_]) hS Try.underlying31 inf_4 rfl rfl (by show 0 < 1; decide) rfl rfl rfl rfl rfl (CellsAt.own (j := 0) (m := 1) (hS.at_ 0 rfl) rfl) rfl rfl (by dsimp only; simp only [maxLen]; omega) (by dsimp only; show _ * 1 ≤ _; omega) rfl ?_
 clear hS; intro v8 W8 hS
 refine op_nilCheck rfl rfl ?_
 refine op_field (o' := 9) fa_87_1 rfl rfl rfl ?_
 refine op_field (o' := 16) fa_33_2 rfl rfl rfl ?_
 refine op_store (i := 3) (cs' := [_, _, _, _, _, _, _, _, _, _, _, _, _, _, _, _, _]) (O' := (_ :: _ :: _ :: _ :: Ot)) hS Try.sizeOf31 rfl rfl (by first | rfl | exact (hS.oneV 0 _ rfl :) | exact (hS.oneV 1 _ rfl :) | exact (hS.oneV 2 _ rfl :) | exact (hS.oneV 3 _ rfl :)) rfl rfl rfl rfl ?_
 clear hS; intro W9 hS
 refine endF ?_
 refine XF.resN (res0 Try.results60) ?_
 exact ⟨_, _, _, rfl, hS.tail.tail.tail.keep K (fun q hq => by simp [hq])⟩
end Go.Proofs.Ytpkcaabbcoiiiaa
namespace Go.Proofs.Ytpkcaabbcoiiiaa
open Go Go.RowKit
theorem fa_87_0 (w : World) (b o : Nat) : (Instr.fieldAt 87 (.pointer (some ⟨b, o, none⟩)) 0).run Try.prog w = .ok (.pointer (some ⟨b, o + 0, none⟩)) w := by
 simp [Instr.fieldAt, run_underlying Try.underlying87, Instr.sureAddr, go_sem, Addr.add_lit]
theorem goes_60 : goesIn Try.prog 60 = true := by kernel_rfl
theorem goes_62 : goesIn Try.prog 62 = true := by kernel_rfl
theorem shParts_is (sf : SF) (f0 : WF) (sq : SF) (zt yt : Int) (v1 v2 v3 : Value) (n : Nat) (xs1 xs2 xs3 : List Value) (B : Nat) (Ot : Own) (K : List (Nat × World)) (w0 : World) (S : PS) (x : PX) (num rp rg rq : Int) (rwa : Option Addr) (rwl rwc : Nat) (ws : List Int) (f : WF) (w : World) (hS0 : St w0 ((B, shC sf f0 sq (zt) (yt) v1 v2 v3, 87) :: Ot) [⟨v1, n, xs1, 47, 10⟩, ⟨v2, n, xs2, 3, 1⟩, ⟨v3, n, xs3, 4, 1⟩] K w) (hn : n ≤ 50000) (hs : SIs w0 S sf) (hok : S.ok) (hx : XIs w0 S f x) (hrow : Row w0 rwa ws) (hlen : ws.length = rwl) (hw4 : rwl ≤ 4096) (hz : 0 ≤ zt ∧ zt ≤ 10000) (hy : 0 ≤ yt ∧ yt ≤ 10000) (ht : Tabs w0) :
  Calls Try.prog 33 #[.pointer (some ⟨B, 0, none⟩), .int .i64 num, .agg #[.int .i64 rp, .int .i64 rg, .int .i64 rq, .slice rwa rwl rwc, .bool f.z, .int .i64 f.c, .int .u64 (f.g : Int), .slice f.ra f.rl f.rc, .slice f.ca f.cl f.cc, .slice f.pa f.pl f.pc]] w (fun e w' => ∃ (u1 u2 u3 : Value) (Kn : List (Nat × World)) (ns : List R9), e = .returned (.tuple #[]) ∧ ns.map R9.pl = partsF (oneX S) num rp rg rq ws x zt yt ∧ (∀ q ∈ K, q ∈ Kn) ∧ Held w0 Kn (fun W2 => ∀ r ∈ ns, RHeld w0.heap.size S W2 r) ∧ St w0 ((B, shC sf f0 sq (zt + ((rwl - 2 : Nat) : Int)) (yt + ((rwl - 2 : Nat) : Int)) u1 u2 u3, 87) :: Ot) [⟨u1, n + ns.length, xs1 ++ ns.flatMap ten9, 47, 10⟩, ⟨u2, n + ns.length, xs2 ++ ns.map (fun r => Value.int .i64 r.num), 3, 1⟩, ⟨u3, n + ns.length, xs3 ++ ns.map (fun r => Value.bool r.first), 4, 1⟩] Kn w') := by
 refine enterF (args := [.pointer (some ⟨B, 0, none⟩), .int .i64 num, .agg #[.int .i64 rp, .int .i64 rg, .int .i64 rq, .slice rwa rwl rwc, .bool f.z, .int .i64 f.c, .int .u64 (f.g : Int), .slice f.ra f.rl f.rc, .slice f.ca f.cl f.cc, .slice f.pa f.pl f.pc]]) Try.func33 rfl Try.ntmps33 rfl ?_
 have hS := hS0
 refine seqF (regF ?_)
 refine op_box (cs := [_, _, _, _, _, _, _, _, _, _]) hS rfl rfl rfl ?_
 clear hS; intro B1 W1 hS
 refine endF (XF.thenN ?_)
 refine seqF (regF ?_)
 refine op_field (o' := 3) fa_47_3 rfl rfl rfl ?_
 refine op_load Try.isAgg29 rfl (cell_own (hS.at_ 0 rfl) rfl) rfl ?_
 refine op_len Try.underlying29 rfl rfl ?_
 refine op_assign rfl rfl ?_
 refine endF (XF.thenN ?_)
 refine seqF ?_
 refine seqF (regF ?_)
 refine op_move rfl rfl ?_
 refine op_leq rfl rfl rfl ?_
 refine endF (XF.thenN ?_)
 refine condF rfl (fun hc => ?_) (fun hc => ?_)
 ·have hc14 := of_decide_eq_true hc; clear hc
  refine seqF ?_
  have hS7 := hS
  have hszN := hS.below.size
  refine regY (al := []) (G := fun _ => [⟨v1, n, xs1, 47, 10⟩, ⟨v2, n, xs2, 3, 1⟩, ⟨v3, n, xs3, 4, 1⟩]) (E := []) (k := 19) (ds := [34]) followsM rfl hS rfl rfl (by kernel_rfl) (by kernel_rfl) rfl (by decide) rfl ?_
  refine bly_cons 1 rfl (isV _) (syV fst_take [(0, _)] rfl rfl (fun _ => (w_free rfl)) (fun _ => ⟨g_fr (by kernel_rfl) rfl, trivial⟩) (fun s w hw => rn_move rfl) (at_top rfl)) ?_
  refine bly_cons 2 rfl (isV _) (syV fst_take [(1, _)] rfl rfl (fun _ => (w_free rfl)) (fun _ => ⟨g_fr (by kernel_rfl) rfl, trivial⟩) (fun s w hw => rn_move rfl) (at_top rfl)) ?_
  refine bly_cons 3 rfl (isV _) (syV fst_take [(5, _)] rfl rfl (fun _ => (w_free rfl)) (fun _ => ⟨g_fr (by kernel_rfl) rfl, trivial⟩) (fun s w hw => rn_field (o' := 0) fa_47_0 rfl rfl) (at_top rfl)) ?_
  refine bly_cons 4 rfl (isV _) (syV fst_take [(17, _)] rfl rfl (fun _ => (w_free rfl)) (fun _ => ⟨g_dep 2 (by kernel_rfl) (at_n rfl rfl (at_dep rfl rfl rfl)), trivial⟩) (fun s w hw => rn_load Try.isAgg3 rfl ((cell_own (hw.at_ 0 rfl) rfl))) (at_top rfl)) ?_
  refine bly_cons 5 rfl (isV _) (syV fst_take [(5, _)] rfl rfl (fun _ => (w_free rfl)) (fun _ => ⟨g_fr (by kernel_rfl) rfl, trivial⟩) (fun s w hw => rn_field (o' := 1) fa_47_1 rfl rfl) (at_top rfl)) ?_
  refine bly_cons 6 rfl (isV _) (syV fst_take [(19, _)] rfl rfl (fun _ => (w_free rfl)) (fun _ => ⟨g_dep 4 (by kernel_rfl) (at_n rfl rfl (at_dep rfl rfl rfl)), trivial⟩) (fun s w hw => rn_load Try.isAgg3 rfl ((cell_own (hw.at_ 0 rfl) rfl))) (at_top rfl)) ?_
  refine bly_cons 7 rfl (isV _) (syV fst_take [(5, _)] rfl rfl (fun _ => (w_free rfl)) (fun _ => ⟨g_fr (by kernel_rfl) rfl, trivial⟩) (fun s w hw => rn_field (o' := 2) fa_47_2 rfl rfl) (at_top rfl)) ?_
  refine bly_cons 8 rfl (isV _) (syV fst_take [(21, _)] rfl rfl (fun _ => (w_free rfl)) (fun _ => ⟨g_dep 6 (by kernel_rfl) (at_n rfl rfl (at_dep rfl rfl rfl)), trivial⟩) (fun s w hw => rn_load Try.isAgg3 rfl ((cell_own (hw.at_ 0 rfl) rfl))) (at_top rfl)) ?_
  refine bly_cons 9 rfl (isV _) (syV fst_take [(5, _)] rfl rfl (fun _ => (w_free rfl)) (fun _ => ⟨g_fr (by kernel_rfl) rfl, trivial⟩) (fun s w hw => rn_field (o' := 3) fa_47_3 rfl rfl) (at_top rfl)) ?_
  refine bly_cons 10 rfl (isV _) (syV fst_take [(23, _)] rfl rfl (fun _ => (w_free rfl)) (fun _ => ⟨g_dep 8 (by kernel_rfl) (at_n rfl rfl (at_dep rfl rfl rfl)), trivial⟩) (fun s w hw => rn_load Try.isAgg29 rfl ((cell_own (hw.at_ 0 rfl) rfl))) (at_top rfl)) ?_
  refine bly_cons 11 rfl (isClN9 W1.heap.size ws) (sy_call fst_take (fun s => [isV _]) rfl rfl goes_61 (fun _ => w_free rfl) (fun s => ⟨p_tmp (g_dep 9 (by kernel_rfl) (at_n rfl rfl (at_dep rfl rfl rfl))), trivial⟩) (fun vs s0 w' hk hw hlo hh => by have e := holds_isV (us := [_]) hh; subst e; exact cl_gN9 hlo hlen (clone_ints (c := rwc) (hrow.below hw.below) hlen (by omega))) (at_top rfl)) ?_
  refine bly_cons 12 rfl (isV _) (syV fst_take [(0, _)] rfl rfl (fun _ => (w_free rfl)) (fun _ => ⟨g_fr (by kernel_rfl) rfl, trivial⟩) (fun s w hw => rn_move rfl) (at_top rfl)) ?_
  refine bly_cons 13 rfl (isV _) (syV fst_take [(26, _)] rfl rfl (fun _ => (w_free rfl)) (fun _ => ⟨g_dep 11 (by kernel_rfl) (at_n rfl rfl (at_dep rfl rfl rfl)), trivial⟩) (fun s w hw => rn_nilCheck rfl) (at_top rfl)) ?_
  refine bly_cons 14 rfl (isV _) (syV fst_take [(27, _)] rfl rfl (fun _ => (w_free rfl)) (fun _ => ⟨g_dep 12 (by kernel_rfl) (at_n rfl rfl (at_dep rfl rfl rfl)), trivial⟩) (fun s w hw => rn_field (o' := 0) fa_87_0 rfl rfl) (at_top rfl)) ?_
  refine bly_cons 15 rfl (isV _) (syV fst_take [(28, _)] rfl rfl (fun _ => (w_free rfl)) (fun _ => ⟨g_dep 13 (by kernel_rfl) (at_n rfl rfl (at_dep rfl rfl rfl)), trivial⟩) (fun s w hw => rn_loadA (vs := [_, _, _, _, _, _, _, _, _]) Try.isAgg84 Try.sizeOf84 rfl ((CellsAt.own (j := 0) (m := 9) (hw.at_ 1 rfl) rfl))) (at_top rfl)) ?_
  refine bly_cons 16 rfl (isV _) (syV fst_take [(5, _)] rfl rfl (fun _ => (w_free rfl)) (fun _ => ⟨g_fr (by kernel_rfl) rfl, trivial⟩) (fun s w hw => rn_field (o' := 4) fa_47_4 rfl rfl) (at_top rfl)) ?_
  refine bly_cons 17 rfl (isV _) (syV fst_take [(30, _)] rfl rfl (fun _ => (w_free rfl)) (fun _ => ⟨g_dep 15 (by kernel_rfl) (at_n rfl rfl (at_dep rfl rfl rfl)), trivial⟩) (fun s w hw => rn_loadA (vs := [_, _, _, _, _, _]) Try.isAgg45 Try.sizeOf45 rfl ((CellsAt.own (j := 4) (m := 6) (hw.at_ 0 rfl) rfl))) (at_top rfl)) ?_
  refine bly_cons 18 rfl (isNew W1.heap.size S x) (sy_call fst_take (fun s => [isV _, isV _]) rfl rfl goes_62 (fun _ => w_free rfl) (fun s => ⟨p_tmp (g_dep 14 (by kernel_rfl) (at_n rfl rfl (at_dep rfl rfl rfl))), p_tmp (g_dep 16 (by kernel_rfl) (at_n rfl rfl (at_dep rfl rfl rfl))), trivial⟩) (fun vs s0 w' hk hw hlo hh => by have e := holds_isV (us := [_, _]) hh; subst e; exact wret_gN hlo (ringCopy_is S sf f0 f x w' (hs.below hw.below) hok (hx.below hw.below) (ht.below hw.below))) (at_top rfl)) ?_
  refine bly_cons 19 rfl (isRuleN W1.heap.size S (rp) (rg) (rq) ws (x)) (syPs [(3, 18, isV _), (5, 20, isV _), (7, 22, isV _), (10, 25, isClN9 W1.heap.size ws), (17, 32, isNew W1.heap.size S x)] rfl rfl ⟨⟨by kernel_rfl, at_dep rfl rfl rfl⟩, ⟨by kernel_rfl, at_dep rfl rfl rfl⟩, ⟨by kernel_rfl, at_dep rfl rfl rfl⟩, ⟨by kernel_rfl, at_dep rfl rfl rfl⟩, ⟨by kernel_rfl, at_dep rfl rfl rfl⟩, trivial⟩ (bld_rule9 (fun _ _ h => h)) (at_top rfl)) ?_
  refine bly_nil ?_
  intro s2 W2 Ks2 hall2 hsz2 hKs2 hS' hcov2 hfx2 hno2
  clear hS; have hS := hS'.castO (O' := (_ :: _ :: Ot)) rfl; clear hS'
  refine castL (L' := [AwS _ _ (isV _), AwS _ _ (isV _), AwS _ _ (isV _), AwS _ _ (isV _), AwS _ _ (isV _), AwS _ _ (isV _), AwS _ _ (isV _), AwS _ _ (isV _), AwS _ _ (isV _), AwS _ _ (isV _), AwS _ _ (isClN9 W1.heap.size ws), AwS _ _ (isV _), AwS _ _ (isV _), AwS _ _ (isV _), AwS _ _ (isV _), AwS _ _ (isV _), AwS _ _ (isV _), AwS _ _ (isNew W1.heap.size S x), AwS _ _ (isRuleN W1.heap.size S (rp) (rg) (rq) ws (x))]) rfl ?_
  refine fin_sV ?_
  refine fin_sV ?_
  refine fin_sV ?_
  refine fin_sV ?_
  refine fin_sV ?_
  refine fin_sV ?_
  refine fin_sV ?_
  refine fin_sV ?_
  refine fin_sV ?_
  refine fin_sV ?_
  refine fin_p ?_; intro _ _
  refine fin_sV ?_
  refine fin_sV ?_
  refine fin_sV ?_
  refine fin_sV ?_
  refine fin_sV ?_
  refine fin_sV ?_
  refine fin_p ?_; intro _ _
  refine fin_p ?_; rintro vR hR9; have hcovC := @hcov2; obtain ⟨aR, cR, fR, rfl, hwR, hxR⟩ := hR9.here
  refine fin_nil ?_
  have HR : Held w0 (_ ++ K) (fun W2 => RHeld w0.heap.size S W2 ⟨num, true, rp, rg, rq, aR, cR, ws, fR, x⟩) := fun h2 hk => (RHeld.agree (r := ⟨num, true, rp, rg, rq, aR, cR, ws, fR, x⟩) ⟨hwR, hxR⟩ (sameX_agree9 (hcovC h2 (fun q hq => hk q (List.mem_append_left _ hq))) (fun b h1 hx => by have h3 := xb_lt9 hS7 hx; omega))).mono hszN
  refine op_callX (vs := [_, _, _, _]) goes_60 rfl (shPut_is sf f0 sq (zt) (yt) v1 v2 v3 (n) (xs1) (xs2) (xs3) B _ _ w0 num true (rp) (rg) (rq) aR (ws).length cR fR _ (hS.perm (List.Perm.swap _ _ _)) (by omega)) rfl ?_
  rintro e W9 ⟨w1, w2, w3, rfl, hS9⟩
  refine ⟨_, rfl, ?_⟩
  clear hS; have hS := hS9.perm (List.Perm.swap _ _ _); clear hS9
  refine endF (XF.thenN ?_)
  refine retF ?_
  refine XF.thenR ?_
  refine XF.res (res0 Try.results33) ?_
  have e0 : ((rwl - 2 : Nat) : Int) = 0 := by omega
  refine ⟨w1, w2, w3, _, [⟨num, true, rp, rg, rq, aR, cR, ws, fR, x⟩], rfl, by unfold partsF; rw [if_pos (by omega)]; rfl, fun q hq => List.mem_append_right _ hq, fun h2 hk r hr => by simp at hr; subst hr; exact HR h2 hk, ?_⟩
  rw [e0, Int.add_zero, Int.add_zero]
  exact hS.tail.castG (by simp)
 ·have hc14 := of_decide_eq_false hc; clear hc
  obtain ⟨wb, wo, rfl, hcell⟩ : ∃ b o, rwa = some ⟨b, o, none⟩ ∧ ∀ i, i < ws.length → w0.cell? ⟨b, o + i, none⟩ = some (.int .i64 (ws.getD i 0)) := by
   rcases hrow with h | ⟨b, o, h, hc⟩
   ·rw [h] at hlen; simp at hlen; omega
   ·exact ⟨b, o, h, hc⟩
  refine skipF ?_
  refine XF.thenN ?_
  refine seqF ?_
  refine regB (m := 14) followsM hS (by kernel_rfl) (by kernel_rfl) rfl ?_
  refine bl_cons 1 rfl (isV _) (stab_isV _) (rgV (li := [(0, _)]) rfl (w_free rfl) ⟨g_fr (by kernel_rfl) rfl, trivial⟩ (fun w hw => rn_move rfl) (at_top rfl)) ?_
  refine bl_cons 2 rfl (isV _) (stab_isV _) (rgV (li := [(35, _)]) rfl (w_free rfl) ⟨g_dep 0 (by kernel_rfl) (at_dep rfl rfl rfl), trivial⟩ (fun w hw => rn_nilCheck rfl) (at_top rfl)) ?_
  refine bl_cons 3 rfl (isV _) (stab_isV _) (rgV (li := [(36, _)]) rfl (w_free rfl) ⟨g_dep 1 (by kernel_rfl) (at_dep rfl rfl rfl), trivial⟩ (fun w hw => rn_field (o' := 9) fa_87_1 rfl rfl) (at_top rfl)) ?_
  refine bl_cons 4 rfl (isV _) (stab_isV _) (rgV (li := [(37, _)]) rfl (w_free rfl) ⟨g_dep 2 (by kernel_rfl) (at_dep rfl rfl rfl), trivial⟩ (fun w hw => rn_field (o' := 9) fa_33_0 rfl rfl) (at_top rfl)) ?_
  refine bl_cons 5 rfl (isV _) (stab_isV _) (rgV (li := [(38, _)]) rfl (w_free rfl) ⟨g_dep 3 (by kernel_rfl) (at_dep rfl rfl rfl), trivial⟩ (fun w hw => rn_field (o' := 12) fa_28_1 rfl rfl) (at_top rfl)) ?_
  refine bl_cons 6 rfl (isV _) (stab_isV _) (rgV (li := [(39, _)]) rfl (w_free rfl) ⟨g_dep 4 (by kernel_rfl) (at_dep rfl rfl rfl), trivial⟩ (fun w hw => rn_load Try.isAgg3 rfl ((below_agree hw 0).cell (Nat.zero_le _) (cell_own (hS.at_ 1 rfl) rfl))) (at_top rfl)) ?_
  refine bl_cons 7 rfl (isV _) (stab_isV _) (rgV (li := [(0, _)]) rfl (w_free rfl) ⟨g_fr (by kernel_rfl) rfl, trivial⟩ (fun w hw => rn_move rfl) (at_top rfl)) ?_
  refine bl_cons 8 rfl (isV _) (stab_isV _) (rgV (li := [(41, _)]) rfl (w_free rfl) ⟨g_dep 6 (by kernel_rfl) (at_dep rfl rfl rfl), trivial⟩ (fun w hw => rn_nilCheck rfl) (at_top rfl)) ?_
  refine bl_cons 9 rfl (isV _) (stab_isV _) (rgV (li := [(42, _)]) rfl (w_free rfl) ⟨g_dep 7 (by kernel_rfl) (at_dep rfl rfl rfl), trivial⟩ (fun w hw => rn_field (o' := 9) fa_87_1 rfl rfl) (at_top rfl)) ?_
  refine bl_cons 10 rfl (isV _) (stab_isV _) (rgV (li := [(43, _)]) rfl (w_free rfl) ⟨g_dep 8 (by kernel_rfl) (at_dep rfl rfl rfl), trivial⟩ (fun w hw => rn_field (o' := 9) fa_33_0 rfl rfl) (at_top rfl)) ?_
  refine bl_cons 11 rfl (isV _) (stab_isV _) (rgV (li := [(44, _)]) rfl (w_free rfl) ⟨g_dep 9 (by kernel_rfl) (at_dep rfl rfl rfl), trivial⟩ (fun w hw => rn_field (o' := 13) fa_28_2 rfl rfl) (at_top rfl)) ?_
  refine bl_cons 12 rfl (isV _) (stab_isV _) (rgV (li := [(45, _)]) rfl (w_free rfl) ⟨g_dep 10 (by kernel_rfl) (at_dep rfl rfl rfl), trivial⟩ (fun w hw => rn_load Try.isAgg3 rfl ((below_agree hw 0).cell (Nat.zero_le _) (cell_own (hS.at_ 1 rfl) rfl))) (at_top rfl)) ?_
  refine bl_cons 13 rfl (isV _) (stab_isV _) (rgV (li := [(40, _)]) rfl (w_free rfl) ⟨g_dep 5 (by kernel_rfl) (at_dep rfl rfl rfl), trivial⟩ (fun w hw => rn_assign rfl) (at_top rfl)) ?_
  refine bl_cons 14 rfl (isV _) (stab_isV _) (rgV (li := [(46, _)]) rfl (w_free rfl) ⟨g_dep 11 (by kernel_rfl) (at_dep rfl rfl rfl), trivial⟩ (fun w hw => rn_assign rfl) (at_top rfl)) ?_
  refine bl_nil ?_
  intro W3 hbR hS'
  clear hS; have hS := hS'; clear hS'
  refine fin_v ?_
  refine fin_v ?_
  refine fin_v ?_
  refine fin_v ?_
  refine fin_v ?_
  refine fin_v ?_
  refine fin_v ?_
  refine fin_v ?_
  refine fin_v ?_
  refine fin_v ?_
  refine fin_v ?_
  refine fin_v ?_
  refine fin_v ?_
  refine fin_v ?_
  refine fin_nil ?_
  refine XF.thenN ?_
  refine seqF (regF ?_)
  refine op_move rfl rfl ?_
  refine op_nilCheck rfl rfl ?_
  refine op_field (o' := 9) fa_87_1 rfl rfl rfl ?_
  refine op_field (o' := 9) fa_33_0 rfl rfl rfl ?_
  refine op_field (o' := 12) fa_28_1 rfl rfl rfl ?_
  refine op_load Try.isAgg3 rfl (cell_own (hS.at_ 1 rfl) rfl) rfl ?_
  refine op_move rfl rfl ?_
  refine op_sub rfl rfl (IntWalk.i64_in _ (by omega)) rfl ?_
  refine op_add rfl rfl (IntWalk.i64_in _ (by omega)) rfl ?_
  refine op_nilCheck rfl rfl ?_
  refine op_field (o' := 9) fa_87_1 rfl rfl rfl ?_
  refine op_field (o' := 9) fa_33_0 rfl rfl rfl ?_
  refine op_field (o' := 12) fa_28_1 rfl rfl rfl ?_
  refine op_store (i := 1) (cs' := [_, _, _, _, _, _, _, _, _, _, _, _, _, _, _, _, _]) (O' := (_ :: _ :: Ot)) hS Try.sizeOf3 rfl rfl rfl rfl rfl rfl rfl ?_
  clear hS; intro W4 hS
  refine endF (XF.thenN ?_)
  refine seqF (regF ?_)
  refine op_move rfl rfl ?_
  refine op_nilCheck rfl rfl ?_
  refine op_field (o' := 9) fa_87_1 rfl rfl rfl ?_
  refine op_field (o' := 9) fa_33_0 rfl rfl rfl ?_
  refine op_field (o' := 13) fa_28_2 rfl rfl rfl ?_
  refine op_load Try.isAgg3 rfl (cell_own (hS.at_ 1 rfl) rfl) rfl ?_
  refine op_move rfl rfl ?_
  refine op_sub rfl rfl (IntWalk.i64_in _ (by omega)) rfl ?_
  refine op_add rfl rfl (IntWalk.i64_in _ (by omega)) rfl ?_
  refine op_nilCheck rfl rfl ?_
  refine op_field (o' := 9) fa_87_1 rfl rfl rfl ?_
  refine op_field (o' := 9) fa_33_0 rfl rfl rfl ?_
  refine op_field (o' := 13) fa_28_2 rfl rfl rfl ?_
  refine op_store (i := 1) (cs' := [_, _, _, _, _, _, _, _, _, _, _, _, _, _, _, _, _]) (O' := (_ :: _ :: Ot)) hS Try.sizeOf3 rfl rfl rfl rfl rfl rfl rfl ?_
  clear hS; intro W5 hS
  refine endF (XF.thenN ?_)
  refine seqF ?_
  have e2 : (rwl : Int) - 2 = ((rwl - 2 : Nat) : Int) := by omega
  rw [e2] at hS
  have k7 : w0.cell? ⟨wb, wo + (rwl - 1) * 1, none⟩ = some (.int .i64 (ws.getD (ws.length - 1) 0)) := by rw [Nat.mul_one, hlen]; exact hlen ▸ hcell (ws.length - 1) (by omega)
  have hS7 := hS
  have hszN := hS.below.size
  refine regY (al := []) (G := fun _ => [⟨v1, n, xs1, 47, 10⟩, ⟨v2, n, xs2, 3, 1⟩, ⟨v3, n, xs3, 4, 1⟩]) (E := []) (k := 23) (ds := [96]) followsM rfl hS rfl rfl (by kernel_rfl) (by kernel_rfl) rfl (by decide) rfl ?_
  refine bly_cons 1 rfl (isV _) (syV fst_take [(0, _)] rfl rfl (fun _ => (w_free rfl)) (fun _ => ⟨g_fr (by kernel_rfl) rfl, trivial⟩) (fun s w hw => rn_move rfl) (at_top rfl)) ?_
  refine bly_cons 2 rfl (isV _) (syV fst_take [(1, _)] rfl rfl (fun _ => (w_free rfl)) (fun _ => ⟨g_fr (by kernel_rfl) rfl, trivial⟩) (fun s w hw => rn_move rfl) (at_top rfl)) ?_
  refine bly_cons 3 rfl (isV _) (syV fst_take [(5, _)] rfl rfl (fun _ => (w_free rfl)) (fun _ => ⟨g_fr (by kernel_rfl) rfl, trivial⟩) (fun s w hw => rn_field (o' := 0) fa_47_0 rfl rfl) (at_top rfl)) ?_
  refine bly_cons 4 rfl (isV _) (syV fst_take [(75, _)] rfl rfl (fun _ => (w_free rfl)) (fun _ => ⟨g_dep 2 (by kernel_rfl) (at_n rfl rfl (at_dep rfl rfl rfl)), trivial⟩) (fun s w hw => rn_load Try.isAgg3 rfl ((cell_own (hw.at_ 0 rfl) rfl))) (at_top rfl)) ?_
  refine bly_cons 5 rfl (isV _) (syV fst_take [(5, _)] rfl rfl (fun _ => (w_free rfl)) (fun _ => ⟨g_fr (by kernel_rfl) rfl, trivial⟩) (fun s w hw => rn_field (o' := 1) fa_47_1 rfl rfl) (at_top rfl)) ?_
  refine bly_cons 6 rfl (isV _) (syV fst_take [(77, _)] rfl rfl (fun _ => (w_free rfl)) (fun _ => ⟨g_dep 4 (by kernel_rfl) (at_n rfl rfl (at_dep rfl rfl rfl)), trivial⟩) (fun s w hw => rn_load Try.isAgg3 rfl ((cell_own (hw.at_ 0 rfl) rfl))) (at_top rfl)) ?_
  refine bly_cons 7 rfl (isV _) (syV fst_take [(7, _)] rfl rfl (fun _ => (w_free rfl)) (fun _ => ⟨g_fr (by kernel_rfl) rfl, trivial⟩) (fun s w hw => rn_move rfl) (at_top rfl)) ?_
  refine bly_cons 8 rfl (isV _) (syV fst_take [(8, _)] rfl rfl (fun _ => (w_free rfl)) (fun _ => ⟨g_fr (by kernel_rfl) rfl, trivial⟩) (fun s w hw => rn_move rfl) (at_top rfl)) ?_
  refine bly_cons 9 rfl (isV _) (syV fst_take [(5, _)] rfl rfl (fun _ => (w_free rfl)) (fun _ => ⟨g_fr (by kernel_rfl) rfl, trivial⟩) (fun s w hw => rn_field (o' := 3) fa_47_3 rfl rfl) (at_top rfl)) ?_
  refine bly_cons 10 rfl (isV _) (syV fst_take [(81, _)] rfl rfl (fun _ => (w_free rfl)) (fun _ => ⟨g_dep 8 (by kernel_rfl) (at_n rfl rfl (at_dep rfl rfl rfl)), trivial⟩) (fun s w hw => rn_load Try.isAgg29 rfl ((cell_own (hw.at_ 0 rfl) rfl))) (at_top rfl)) ?_
  refine bly_cons 11 rfl (isV _) (syV fst_take [(6, _)] rfl rfl (fun _ => (w_free rfl)) (fun _ => ⟨g_fr (by kernel_rfl) rfl, trivial⟩) (fun s w hw => rn_move rfl) (at_top rfl)) ?_
  refine bly_cons 12 rfl (isV _) (syV fst_take [(83, _)] rfl rfl (fun _ => (w_free rfl)) (fun _ => ⟨g_dep 10 (by kernel_rfl) (at_n rfl rfl (at_dep rfl rfl rfl)), trivial⟩) (fun s w hw => rn_sub rfl rfl (IntWalk.i64_in _ (by omega))) (at_top rfl)) ?_
  refine bly_cons 13 rfl (isV _) (syV fst_take [(82, _), (84, _)] rfl rfl (fun _ => (w_free rfl)) (fun _ => ⟨g_dep 9 (by kernel_rfl) (at_n rfl rfl (at_dep rfl rfl rfl)), g_dep 11 (by kernel_rfl) (at_n rfl rfl (at_dep rfl rfl rfl)), trivial⟩) (fun s w hw => rn_indexA (j := rwl - 1) Try.underlying29 Try.sizeOf3 rfl rfl (by omega) (by omega) rfl) (at_top rfl)) ?_
  refine bly_cons 14 rfl (isV _) (syV fst_take [(85, _)] rfl rfl (fun _ => (w_free rfl)) (fun _ => ⟨g_dep 12 (by kernel_rfl) (at_n rfl rfl (at_dep rfl rfl rfl)), trivial⟩) (fun s w hw => rn_load Try.isAgg3 rfl (hw.agree.cell (Nat.zero_le _) (k7))) (at_top rfl)) ?_
  refine bly_cons 15 rfl (isRow W5.heap.size 2 3 _) (sy_rowV fst_take (us := [.int .i64 _, .int .i64 _]) rfl rfl (fun _ => (w_free rfl)) Try.underlying29 Try.sizeOf3 Try.zeroValue3 rfl rfl (fun _ => ⟨p_tmp (g_dep 7 (by kernel_rfl) (at_n rfl rfl (at_dep rfl rfl rfl))), p_tmp (g_dep 13 (by kernel_rfl) (at_n rfl rfl (at_dep rfl rfl rfl))), trivial⟩) (bs_29_2 _ _) (at_top rfl)) ?_
  refine bly_cons 16 rfl (isV _) (syV fst_take [(0, _)] rfl rfl (fun _ => (w_free rfl)) (fun _ => ⟨g_fr (by kernel_rfl) rfl, trivial⟩) (fun s w hw => rn_move rfl) (at_top rfl)) ?_
  refine bly_cons 17 rfl (isV _) (syV fst_take [(88, _)] rfl rfl (fun _ => (w_free rfl)) (fun _ => ⟨g_dep 15 (by kernel_rfl) (at_n rfl rfl (at_dep rfl rfl rfl)), trivial⟩) (fun s w hw => rn_nilCheck rfl) (at_top rfl)) ?_
  refine bly_cons 18 rfl (isV _) (syV fst_take [(89, _)] rfl rfl (fun _ => (w_free rfl)) (fun _ => ⟨g_dep 16 (by kernel_rfl) (at_n rfl rfl (at_dep rfl rfl rfl)), trivial⟩) (fun s w hw => rn_field (o' := 0) fa_87_0 rfl rfl) (at_top rfl)) ?_
  refine bly_cons 19 rfl (isV _) (syV fst_take [(90, _)] rfl rfl (fun _ => (w_free rfl)) (fun _ => ⟨g_dep 17 (by kernel_rfl) (at_n rfl rfl (at_dep rfl rfl rfl)), trivial⟩) (fun s w hw => rn_loadA (vs := [_, _, _, _, _, _, _, _, _]) Try.isAgg84 Try.sizeOf84 rfl ((CellsAt.own (j := 0) (m := 9) (hw.at_ 1 rfl) rfl))) (at_top rfl)) ?_
  refine bly_cons 20 rfl (isV _) (syV fst_take [(5, _)] rfl rfl (fun _ => (w_free rfl)) (fun _ => ⟨g_fr (by kernel_rfl) rfl, trivial⟩) (fun s w hw => rn_field (o' := 4) fa_47_4 rfl rfl) (at_top rfl)) ?_
  refine bly_cons 21 rfl (isV _) (syV fst_take [(92, _)] rfl rfl (fun _ => (w_free rfl)) (fun _ => ⟨g_dep 19 (by kernel_rfl) (at_n rfl rfl (at_dep rfl rfl rfl)), trivial⟩) (fun s w hw => rn_loadA (vs := [_, _, _, _, _, _]) Try.isAgg45 Try.sizeOf45 rfl ((CellsAt.own (j := 4) (m := 6) (hw.at_ 0 rfl) rfl))) (at_top rfl)) ?_
  refine bly_cons 22 rfl (isNew W5.heap.size S x) (sy_call fst_take (fun s => [isV _, isV _]) rfl rfl goes_62 (fun _ => w_free rfl) (fun s => ⟨p_tmp (g_dep 18 (by kernel_rfl) (at_n rfl rfl (at_dep rfl rfl rfl))), p_tmp (g_dep 20 (by kernel_rfl) (at_n rfl rfl (at_dep rfl rfl rfl))), trivial⟩) (fun vs s0 w' hk hw hlo hh => by have e := holds_isV (us := [_, _]) hh; subst e; exact wret_gN hlo (ringCopy_is S sf f0 f x w' (hs.below hw.below) hok (hx.below hw.below) (ht.below hw.below))) (at_top rfl)) ?_
  refine bly_cons 23 rfl (isRuleN W5.heap.size S (rp) (rg) (zt) [yt, ws.getD (ws.length - 1) 0] (x)) (syPs [(3, 76, isV _), (5, 78, isV _), (6, 79, isV _), (14, 87, isRow W5.heap.size 2 3 [.int .i64 (yt), .int .i64 (ws.getD (ws.length - 1) 0)]), (21, 94, isNew W5.heap.size S x)] rfl rfl ⟨⟨by kernel_rfl, at_dep rfl rfl rfl⟩, ⟨by kernel_rfl, at_dep rfl rfl rfl⟩, ⟨by kernel_rfl, at_dep rfl rfl rfl⟩, ⟨by kernel_rfl, at_dep rfl rfl rfl⟩, ⟨by kernel_rfl, at_dep rfl rfl rfl⟩, trivial⟩ (bld_rule9 (fun _ _ h => row_cl9 h)) (at_top rfl)) ?_
  refine bly_nil ?_
  intro s6 W6 Ks6 hall6 hsz6 hKs6 hS' hcov6 hfx6 hno6
  clear hS; have hS := hS'.castO (O' := (_ :: _ :: Ot)) rfl; clear hS'
  refine castL (L' := [AwS _ _ (isV _), AwS _ _ (isV _), AwS _ _ (isV _), AwS _ _ (isV _), AwS _ _ (isV _), AwS _ _ (isV _), AwS _ _ (isV _), AwS _ _ (isV _), AwS _ _ (isV _), AwS _ _ (isV _), AwS _ _ (isV _), AwS _ _ (isV _), AwS _ _ (isV _), AwS _ _ (isV _), AwS _ _ (isRow W5.heap.size 2 3 _), AwS _ _ (isV _), AwS _ _ (isV _), AwS _ _ (isV _), AwS _ _ (isV _), AwS _ _ (isV _), AwS _ _ (isV _), AwS _ _ (isNew W5.heap.size S x), AwS _ _ (isRuleN W5.heap.size S (rp) (rg) (zt) [yt, ws.getD (ws.length - 1) 0] (x))]) rfl ?_
  refine fin_sV ?_
  refine fin_sV ?_
  refine fin_sV ?_
  refine fin_sV ?_
  refine fin_sV ?_
  refine fin_sV ?_
  refine fin_sV ?_
  refine fin_sV ?_
  refine fin_sV ?_
  refine fin_sV ?_
  refine fin_sV ?_
  refine fin_sV ?_
  refine fin_sV ?_
  refine fin_sV ?_
  refine fin_p ?_; intro _ _
  refine fin_sV ?_
  refine fin_sV ?_
  refine fin_sV ?_
  refine fin_sV ?_
  refine fin_sV ?_
  refine fin_sV ?_
  refine fin_p ?_; intro _ _
  refine fin_p ?_; rintro vR hR9; have hcovC := @hcov6; obtain ⟨aR, cR, fR, rfl, hwR, hxR⟩ := hR9.here
  refine fin_nil ?_
  have HR : Held w0 (_ ++ ((W1.heap.size, W3) :: K)) (fun W2 => RHeld w0.heap.size S W2 ⟨num, true, rp, rg, zt, aR, cR, [yt, ws.getD (ws.length - 1) 0], fR, x⟩) := fun h2 hk => (RHeld.agree (r := ⟨num, true, rp, rg, zt, aR, cR, [yt, ws.getD (ws.length - 1) 0], fR, x⟩) ⟨hwR, hxR⟩ (sameX_agree9 (hcovC h2 (fun q hq => hk q (List.mem_append_left _ hq))) (fun b h1 hx => by have h3 := xb_lt9 hS7 hx; omega))).mono hszN
  refine op_callX (vs := [_, _, _, _]) goes_60 rfl (shPut_is sf f0 sq (zt + ((rwl - 2 : Nat) : Int)) (yt + ((rwl - 2 : Nat) : Int)) v1 v2 v3 (n) (xs1) (xs2) (xs3) B _ _ w0 num true (rp) (rg) (zt) aR ([yt, ws.getD (ws.length - 1) 0]).length cR fR _ (hS.perm (List.Perm.swap _ _ _)) (by omega)) rfl ?_
  rintro e W9 ⟨w1, w2, w3, rfl, hS9⟩
  refine ⟨_, rfl, ?_⟩
  clear hS; have hS := hS9.perm (List.Perm.swap _ _ _); clear hS9
  refine endF (XF.thenN ?_)
  refine seqF ?_
  refine seqF (regF ?_)
  refine op_move rfl rfl ?_
  refine op_sub rfl rfl (IntWalk.i64_in _ (by omega)) rfl ?_
  refine op_move rfl rfl ?_
  refine endF (XF.thenN ?_)
  refine blockF ?_
  refine loopF (fun m l W => ∃ (i : Nat) (u1 u2 u3 : Value) (Kk : List (Nat × World)) (ns : List R9), i ≤ rwl - 3 ∧ m = (rwl - 3) - i ∧ l = [(0, .pointer (some ⟨B, 0, none⟩)), (1, .int .i64 num), (5, .pointer (some ⟨B1, 0, none⟩)), (6, .int .i64 (rwl : Int)), (7, .int .i64 zt), (8, .int .i64 yt), (98, .int .i64 ((rwl : Int) - 3)), (99, .int .i64 (i : Int))] ∧ ns.map R9.pl = (num, true, rp, rg, zt, [yt, ws.getD (ws.length - 1) 0], x) :: (List.range i).map (fun i : Nat => ((num, false, zt + (i : Int), yt + (i : Int), zt + (i : Int) + 1, [yt + (i : Int) + 1, ws.getD (ws.length - 2 - i) 0], oneX S) : PR)) ∧ (∀ q ∈ K, q ∈ Kk) ∧ Held w0 Kk (fun W2 => ∀ r ∈ ns, RHeld w0.heap.size S W2 r) ∧ St w0 ((B1, [.int .i64 rp, .int .i64 rg, .int .i64 rq, .slice (some ⟨wb, wo, none⟩) rwl rwc, .bool f.z, .int .i64 f.c, .int .u64 (f.g : Int), .slice f.ra f.rl f.rc, .slice f.ca f.cl f.cc, .slice f.pa f.pl f.pc], 47) :: (B, shC sf f0 sq (zt + ((rwl - 2 : Nat) : Int)) (yt + ((rwl - 2 : Nat) : Int)) u1 u2 u3, 87) :: Ot) [⟨u1, n + ns.length, xs1 ++ ns.flatMap ten9, 47, 10⟩, ⟨u2, n + ns.length, xs2 ++ ns.map (fun r => Value.int .i64 r.num), 3, 1⟩, ⟨u3, n + ns.length, xs3 ++ ns.map (fun r => Value.bool r.first), 4, 1⟩] Kk W) ((rwl - 3) - 0) ([(0, _), (1, _), (5, _), (6, _), (7, _), (8, _), (98, _), (99, _)]) ⟨rfl, rfl, rfl, rfl, rfl, rfl, rfl, rfl, trivial⟩ (⟨0, w1, w2, w3, _, [⟨num, true, rp, rg, zt, aR, cR, [yt, ws.getD (ws.length - 1) 0], fR, x⟩], Nat.zero_le _, rfl, rfl, rfl, fun q hq => List.mem_append_right _ (List.mem_cons_of_mem _ hq), fun h2 hk r hr => by simp at hr; subst hr; exact HR h2 hk, by exact hS.castG (by simp)⟩) ?_
  clear hS
  rintro m l W ⟨i, u1, u2, u3, Kk, ns, hi, rfl, rfl, hns, hsub, HN, hS⟩
  refine seqF (regF ?_)
  refine op_lss rfl rfl rfl ?_
  refine endF (XF.thenN ?_)
  refine seqF ?_
  refine condF rfl (fun hc => ?_) (fun hc => ?_)
  ·have hc100 := of_decide_eq_true hc; clear hc
   have hk : i < rwl - 3 := by omega
   have hnl : ns.length = i + 1 := by have := congrArg List.length hns; simpa using this
   have k11 : w0.cell? ⟨wb, wo + (rwl - 2 - i) * 1, none⟩ = some (.int .i64 (ws.getD (ws.length - 2 - i) 0)) := by rw [Nat.mul_one, hlen]; exact hlen ▸ hcell (ws.length - 2 - i) (by omega)
   refine skipF ?_
   refine XF.thenN ?_
   refine seqF ?_
   refine blockF ?_
   refine seqF (regF ?_)
   refine op_move rfl rfl ?_
   refine op_assign rfl rfl ?_
   refine endF (XF.thenN ?_)
   have hS7 := hS
   have hszN := hS.below.size
   refine regY (al := []) (G := fun _ => [⟨u1, n + ns.length, xs1 ++ ns.flatMap ten9, 47, 10⟩, ⟨u2, n + ns.length, xs2 ++ ns.map (fun r => Value.int .i64 r.num), 3, 1⟩, ⟨u3, n + ns.length, xs3 ++ ns.map (fun r => Value.bool r.first), 4, 1⟩]) (E := []) (k := 31) (ds := [133]) followsM rfl hS rfl rfl (by kernel_rfl) (by kernel_rfl) rfl (by decide) rfl ?_
   refine bly_cons 1 rfl (isV _) (syV fst_take [(0, _)] rfl rfl (fun _ => (w_free rfl)) (fun _ => ⟨g_fr (by kernel_rfl) rfl, trivial⟩) (fun s w hw => rn_move rfl) (at_top rfl)) ?_
   refine bly_cons 2 rfl (isV _) (syV fst_take [(1, _)] rfl rfl (fun _ => (w_free rfl)) (fun _ => ⟨g_fr (by kernel_rfl) rfl, trivial⟩) (fun s w hw => rn_move rfl) (at_top rfl)) ?_
   refine bly_cons 3 rfl (isV _) (syV fst_take [(7, _)] rfl rfl (fun _ => (w_free rfl)) (fun _ => ⟨g_fr (by kernel_rfl) rfl, trivial⟩) (fun s w hw => rn_move rfl) (at_top rfl)) ?_
   refine bly_cons 4 rfl (isV _) (syV fst_take [(9, _)] rfl rfl (fun _ => (w_free rfl)) (fun _ => ⟨g_fr (by kernel_rfl) rfl, trivial⟩) (fun s w hw => rn_move rfl) (at_top rfl)) ?_
   refine bly_cons 5 rfl (isV _) (syV fst_take [(104, _), (105, _)] rfl rfl (fun _ => (w_free rfl)) (fun _ => ⟨g_dep 2 (by kernel_rfl) (at_n rfl rfl (at_dep rfl rfl rfl)), g_dep 3 (by kernel_rfl) (at_n rfl rfl (at_dep rfl rfl rfl)), trivial⟩) (fun s w hw => rn_add rfl rfl (IntWalk.i64_in _ (by omega))) (at_top rfl)) ?_
   refine bly_cons 6 rfl (isV _) (syV fst_take [(8, _)] rfl rfl (fun _ => (w_free rfl)) (fun _ => ⟨g_fr (by kernel_rfl) rfl, trivial⟩) (fun s w hw => rn_move rfl) (at_top rfl)) ?_
   refine bly_cons 7 rfl (isV _) (syV fst_take [(9, _)] rfl rfl (fun _ => (w_free rfl)) (fun _ => ⟨g_fr (by kernel_rfl) rfl, trivial⟩) (fun s w hw => rn_move rfl) (at_top rfl)) ?_
   refine bly_cons 8 rfl (isV _) (syV fst_take [(107, _), (108, _)] rfl rfl (fun _ => (w_free rfl)) (fun _ => ⟨g_dep 5 (by kernel_rfl) (at_n rfl rfl (at_dep rfl rfl rfl)), g_dep 6 (by kernel_rfl) (at_n rfl rfl (at_dep rfl rfl rfl)), trivial⟩) (fun s w hw => rn_add rfl rfl (IntWalk.i64_in _ (by omega))) (at_top rfl)) ?_
   refine bly_cons 9 rfl (isV _) (syV fst_take [(7, _)] rfl rfl (fun _ => (w_free rfl)) (fun _ => ⟨g_fr (by kernel_rfl) rfl, trivial⟩) (fun s w hw => rn_move rfl) (at_top rfl)) ?_
   refine bly_cons 10 rfl (isV _) (syV fst_take [(9, _)] rfl rfl (fun _ => (w_free rfl)) (fun _ => ⟨g_fr (by kernel_rfl) rfl, trivial⟩) (fun s w hw => rn_move rfl) (at_top rfl)) ?_
   refine bly_cons 11 rfl (isV _) (syV fst_take [(110, _), (111, _)] rfl rfl (fun _ => (w_free rfl)) (fun _ => ⟨g_dep 8 (by kernel_rfl) (at_n rfl rfl (at_dep rfl rfl rfl)), g_dep 9 (by kernel_rfl) (at_n rfl rfl (at_dep rfl rfl rfl)), trivial⟩) (fun s w hw => rn_add rfl rfl (IntWalk.i64_in _ (by omega))) (at_top rfl)) ?_
   refine bly_cons 12 rfl (isV _) (syV fst_take [(112, _)] rfl rfl (fun _ => (w_free rfl)) (fun _ => ⟨g_dep 10 (by kernel_rfl) (at_n rfl rfl (at_dep rfl rfl rfl)), trivial⟩) (fun s w hw => rn_add rfl rfl (IntWalk.i64_in _ (by omega))) (at_top rfl)) ?_
   refine bly_cons 13 rfl (isV _) (syV fst_take [(8, _)] rfl rfl (fun _ => (w_free rfl)) (fun _ => ⟨g_fr (by kernel_rfl) rfl, trivial⟩) (fun s w hw => rn_move rfl) (at_top rfl)) ?_
   refine bly_cons 14 rfl (isV _) (syV fst_take [(9, _)] rfl rfl (fun _ => (w_free rfl)) (fun _ => ⟨g_fr (by kernel_rfl) rfl, trivial⟩) (fun s w hw => rn_move rfl) (at_top rfl)) ?_
   refine bly_cons 15 rfl (isV _) (syV fst_take [(114, _), (115, _)] rfl rfl (fun _ => (w_free rfl)) (fun _ => ⟨g_dep 12 (by kernel_rfl) (at_n rfl rfl (at_dep rfl rfl rfl)), g_dep 13 (by kernel_rfl) (at_n rfl rfl (at_dep rfl rfl rfl)), trivial⟩) (fun s w hw => rn_add rfl rfl (IntWalk.i64_in _ (by omega))) (at_top rfl)) ?_
   refine bly_cons 16 rfl (isV _) (syV fst_take [(116, _)] rfl rfl (fun _ => (w_free rfl)) (fun _ => ⟨g_dep 14 (by kernel_rfl) (at_n rfl rfl (at_dep rfl rfl rfl)), trivial⟩) (fun s w hw => rn_add rfl rfl (IntWalk.i64_in _ (by omega))) (at_top rfl)) ?_
   refine bly_cons 17 rfl (isV _) (syV fst_take [(5, _)] rfl rfl (fun _ => (w_free rfl)) (fun _ => ⟨g_fr (by kernel_rfl) rfl, trivial⟩) (fun s w hw => rn_field (o' := 3) fa_47_3 rfl rfl) (at_top rfl)) ?_
   refine bly_cons 18 rfl (isV _) (syV fst_take [(118, _)] rfl rfl (fun _ => (w_free rfl)) (fun _ => ⟨g_dep 16 (by kernel_rfl) (at_n rfl rfl (at_dep rfl rfl rfl)), trivial⟩) (fun s w hw => rn_load Try.isAgg29 rfl ((cell_own (hw.at_ 0 rfl) rfl))) (at_top rfl)) ?_
   refine bly_cons 19 rfl (isV _) (syV fst_take [(6, _)] rfl rfl (fun _ => (w_free rfl)) (fun _ => ⟨g_fr (by kernel_rfl) rfl, trivial⟩) (fun s w hw => rn_move rfl) (at_top rfl)) ?_
   refine bly_cons 20 rfl (isV _) (syV fst_take [(120, _)] rfl rfl (fun _ => (w_free rfl)) (fun _ => ⟨g_dep 18 (by kernel_rfl) (at_n rfl rfl (at_dep rfl rfl rfl)), trivial⟩) (fun s w hw => rn_sub rfl rfl (IntWalk.i64_in _ (by omega))) (at_top rfl)) ?_
   refine bly_cons 21 rfl (isV _) (syV fst_take [(9, _)] rfl rfl (fun _ => (w_free rfl)) (fun _ => ⟨g_fr (by kernel_rfl) rfl, trivial⟩) (fun s w hw => rn_move rfl) (at_top rfl)) ?_
   refine bly_cons 22 rfl (isV _) (syV fst_take [(121, _), (122, _)] rfl rfl (fun _ => (w_free rfl)) (fun _ => ⟨g_dep 19 (by kernel_rfl) (at_n rfl rfl (at_dep rfl rfl rfl)), g_dep 20 (by kernel_rfl) (at_n rfl rfl (at_dep rfl rfl rfl)), trivial⟩) (fun s w hw => rn_sub rfl rfl (IntWalk.i64_in _ (by omega))) (at_top rfl)) ?_
   refine bly_cons 23 rfl (isV _) (syV fst_take [(119, _), (123, _)] rfl rfl (fun _ => (w_free rfl)) (fun _ => ⟨g_dep 17 (by kernel_rfl) (at_n rfl rfl (at_dep rfl rfl rfl)), g_dep 21 (by kernel_rfl) (at_n rfl rfl (at_dep rfl rfl rfl)), trivial⟩) (fun s w hw => rn_indexA (j := rwl - 2 - i) Try.underlying29 Try.sizeOf3 rfl rfl (by omega) (by omega) rfl) (at_top rfl)) ?_
   refine bly_cons 24 rfl (isV _) (syV fst_take [(124, _)] rfl rfl (fun _ => (w_free rfl)) (fun _ => ⟨g_dep 22 (by kernel_rfl) (at_n rfl rfl (at_dep rfl rfl rfl)), trivial⟩) (fun s w hw => rn_load Try.isAgg3 rfl (hw.agree.cell (Nat.zero_le _) (k11))) (at_top rfl)) ?_
   refine bly_cons 25 rfl (isRow W.heap.size 2 3 _) (sy_rowV fst_take (us := [.int .i64 _, .int .i64 _]) rfl rfl (fun _ => (w_free rfl)) Try.underlying29 Try.sizeOf3 Try.zeroValue3 rfl rfl (fun _ => ⟨p_tmp (g_dep 15 (by kernel_rfl) (at_n rfl rfl (at_dep rfl rfl rfl))), p_tmp (g_dep 23 (by kernel_rfl) (at_n rfl rfl (at_dep rfl rfl rfl))), trivial⟩) (bs_29_2 _ _) (at_top rfl)) ?_
   refine bly_cons 26 rfl (isV _) (syV fst_take [(0, _)] rfl rfl (fun _ => (w_free rfl)) (fun _ => ⟨g_fr (by kernel_rfl) rfl, trivial⟩) (fun s w hw => rn_move rfl) (at_top rfl)) ?_
   refine bly_cons 27 rfl (isV _) (syV fst_take [(127, _)] rfl rfl (fun _ => (w_free rfl)) (fun _ => ⟨g_dep 25 (by kernel_rfl) (at_n rfl rfl (at_dep rfl rfl rfl)), trivial⟩) (fun s w hw => rn_nilCheck rfl) (at_top rfl)) ?_
   refine bly_cons 28 rfl (isV _) (syV fst_take [(128, _)] rfl rfl (fun _ => (w_free rfl)) (fun _ => ⟨g_dep 26 (by kernel_rfl) (at_n rfl rfl (at_dep rfl rfl rfl)), trivial⟩) (fun s w hw => rn_field (o' := 0) fa_87_0 rfl rfl) (at_top rfl)) ?_
   refine bly_cons 29 rfl (isV _) (syV fst_take [(129, _)] rfl rfl (fun _ => (w_free rfl)) (fun _ => ⟨g_dep 27 (by kernel_rfl) (at_n rfl rfl (at_dep rfl rfl rfl)), trivial⟩) (fun s w hw => rn_loadA (vs := [_, _, _, _, _, _, _, _, _]) Try.isAgg84 Try.sizeOf84 rfl ((CellsAt.own (j := 0) (m := 9) (hw.at_ 1 rfl) rfl))) (at_top rfl)) ?_
   refine bly_cons 30 rfl (isNew W.heap.size S (oneX S)) (sy_call fst_take (fun s => [isV _]) rfl rfl goes_63 (fun _ => w_free rfl) (fun s => ⟨p_tmp (g_dep 28 (by kernel_rfl) (at_n rfl rfl (at_dep rfl rfl rfl))), trivial⟩) (fun vs s0 w' hk hw hlo hh => by have e := holds_isV (us := [_]) hh; subst e; exact wret_gN hlo (ringOne_is S sf f0 w' (hs.below hw.below) hok)) (at_top rfl)) ?_
   refine bly_cons 31 rfl (isRuleN W.heap.size S (zt + (i : Int)) (yt + (i : Int)) (zt + (i : Int) + 1) [yt + (i : Int) + 1, ws.getD (ws.length - 2 - i) 0] (oneX S)) (syPs [(4, 106, isV _), (7, 109, isV _), (11, 113, isV _), (24, 126, isRow W.heap.size 2 3 [.int .i64 (yt + (i : Int) + 1), .int .i64 (ws.getD (ws.length - 2 - i) 0)]), (29, 131, isNew W.heap.size S (oneX S))] rfl rfl ⟨⟨by kernel_rfl, at_dep rfl rfl rfl⟩, ⟨by kernel_rfl, at_dep rfl rfl rfl⟩, ⟨by kernel_rfl, at_dep rfl rfl rfl⟩, ⟨by kernel_rfl, at_dep rfl rfl rfl⟩, ⟨by kernel_rfl, at_dep rfl rfl rfl⟩, trivial⟩ (bld_rule9 (fun _ _ h => row_cl9 h)) (at_top rfl)) ?_
   refine bly_nil ?_
   intro s7 W7 Ks7 hall7 hsz7 hKs7 hS' hcov7 hfx7 hno7
   clear hS; have hS := hS'.castO (O' := (_ :: _ :: Ot)) rfl; clear hS'
   refine castL (L' := [AwS _ _ (isV _), AwS _ _ (isV _), AwS _ _ (isV _), AwS _ _ (isV _), AwS _ _ (isV _), AwS _ _ (isV _), AwS _ _ (isV _), AwS _ _ (isV _), AwS _ _ (isV _), AwS _ _ (isV _), AwS _ _ (isV _), AwS _ _ (isV _), AwS _ _ (isV _), AwS _ _ (isV _), AwS _ _ (isV _), AwS _ _ (isV _), AwS _ _ (isV _), AwS _ _ (isV _), AwS _ _ (isV _), AwS _ _ (isV _), AwS _ _ (isV _), AwS _ _ (isV _), AwS _ _ (isV _), AwS _ _ (isV _), AwS _ _ (isRow W.heap.size 2 3 _), AwS _ _ (isV _), AwS _ _ (isV _), AwS _ _ (isV _), AwS _ _ (isV _), AwS _ _ (isNew W.heap.size S (oneX S)), AwS _ _ (isRuleN W.heap.size S (zt + (i : Int)) (yt + (i : Int)) (zt + (i : Int) + 1) [yt + (i : Int) + 1, ws.getD (ws.length - 2 - i) 0] (oneX S))]) rfl ?_
   refine fin_sV ?_
   refine fin_sV ?_
   refine fin_sV ?_
   refine fin_sV ?_
   refine fin_sV ?_
   refine fin_sV ?_
   refine fin_sV ?_
   refine fin_sV ?_
   refine fin_sV ?_
   refine fin_sV ?_
   refine fin_sV ?_
   refine fin_sV ?_
   refine fin_sV ?_
   refine fin_sV ?_
   refine fin_sV ?_
   refine fin_sV ?_
   refine fin_sV ?_
   refine fin_sV ?_
   refine fin_sV ?_
   refine fin_sV ?_
   refine fin_sV ?_
   refine fin_sV ?_
   refine fin_sV ?_
   refine fin_sV ?_
   refine fin_p ?_; intro _ _
   refine fin_sV ?_
   refine fin_sV ?_
   refine fin_sV ?_
   refine fin_sV ?_
   refine fin_p ?_; intro _ _
   refine fin_p ?_; rintro vR hR9; have hcovC := @hcov7; obtain ⟨aR, cR, fR, rfl, hwR, hxR⟩ := hR9.here
   refine fin_nil ?_
   have HR : Held w0 (_ ++ Kk) (fun W2 => RHeld w0.heap.size S W2 ⟨num, false, zt + (i : Int), yt + (i : Int), zt + (i : Int) + 1, aR, cR, [yt + (i : Int) + 1, ws.getD (ws.length - 2 - i) 0], fR, oneX S⟩) := fun h2 hk => (RHeld.agree (r := ⟨num, false, zt + (i : Int), yt + (i : Int), zt + (i : Int) + 1, aR, cR, [yt + (i : Int) + 1, ws.getD (ws.length - 2 - i) 0], fR, oneX S⟩) ⟨hwR, hxR⟩ (sameX_agree9 (hcovC h2 (fun q hq => hk q (List.mem_append_left _ hq))) (fun b h1 hx => by have h3 := xb_lt9 hS7 hx; omega))).mono hszN
   refine op_callX (vs := [_, _, _, _]) goes_60 rfl (shPut_is sf f0 sq (zt + ((rwl - 2 : Nat) : Int)) (yt + ((rwl - 2 : Nat) : Int)) u1 u2 u3 (n + ns.length) (xs1 ++ ns.flatMap ten9) (xs2 ++ ns.map (fun r => Value.int .i64 r.num)) (xs3 ++ ns.map (fun r => Value.bool r.first)) B _ _ w0 num false (zt + (i : Int)) (yt + (i : Int)) (zt + (i : Int) + 1) aR ([yt + (i : Int) + 1, ws.getD (ws.length - 2 - i) 0]).length cR fR _ (hS.perm (List.Perm.swap _ _ _)) (by omega)) rfl ?_
   rintro e W9 ⟨w1, w2, w3, rfl, hS9⟩
   refine ⟨_, rfl, ?_⟩
   clear hS; have hS := hS9.perm (List.Perm.swap _ _ _); clear hS9
   refine endF ?_
   refine XF.blkN ?_
   refine XF.thenN ?_
   refine regF ?_
   refine op_add rfl rfl (IntWalk.i64_in _ (by omega)) rfl ?_
   refine op_move rfl rfl ?_
   refine endF ?_
   exact XF.round ((rwl - 3) - (i + 1)) [(0, _), (1, _), (5, _), (6, _), (7, _), (8, _), (98, _), (99, _)] (by omega) ⟨rfl, rfl, rfl, rfl, rfl, rfl, rfl, rfl, trivial⟩ ⟨i + 1, w1, w2, w3, _, ns ++ [⟨num, false, zt + (i : Int), yt + (i : Int), zt + (i : Int) + 1, aR, cR, [yt + (i : Int) + 1, ws.getD (ws.length - 2 - i) 0], fR, oneX S⟩], by omega, rfl, rfl, by rw [List.map_append, hns, List.range_succ, List.map_append]; rfl, fun q hq => List.mem_append_right _ (hsub q hq), fun h2 hk r hr => by
     rcases List.mem_append.1 hr with hr | hr
     ·exact HN h2 (fun q hq => hk q (List.mem_append_right _ hq)) r hr
     ·simp at hr; subst hr; exact HR h2 hk, hS.castG (by simp [Nat.add_assoc])⟩
  ·have hc100 := of_decide_eq_false hc; clear hc
   obtain rfl : i = rwl - 3 := by omega
   have hnl : ns.length = rwl - 3 + 1 := by have := congrArg List.length hns; simpa using this
   have k13a : w0.cell? ⟨wb, wo, none⟩ = some (.int .i64 (ws.getD 0 0)) := hcell 0 (by omega)
   have k13b : w0.cell? ⟨wb, wo + 1, none⟩ = some (.int .i64 (ws.getD 1 0)) := hcell 1 (by omega)
   refine exitF ?_
   refine XF.thenX ?_
   refine XF.thenX ?_
   refine XF.blkX ?_
   refine XF.thenN ?_
   have hS7 := hS
   have hszN := hS.below.size
   refine regY (al := []) (G := fun _ => [⟨u1, n + ns.length, xs1 ++ ns.flatMap ten9, 47, 10⟩, ⟨u2, n + ns.length, xs2 ++ ns.map (fun r => Value.int .i64 r.num), 3, 1⟩, ⟨u3, n + ns.length, xs3 ++ ns.map (fun r => Value.bool r.first), 4, 1⟩]) (E := []) (k := 27) (ds := [162]) followsM rfl hS rfl rfl (by kernel_rfl) (by kernel_rfl) rfl (by decide) rfl ?_
   refine bly_cons 1 rfl (isV _) (syV fst_take [(0, _)] rfl rfl (fun _ => (w_free rfl)) (fun _ => ⟨g_fr (by kernel_rfl) rfl, trivial⟩) (fun s w hw => rn_move rfl) (at_top rfl)) ?_
   refine bly_cons 2 rfl (isV _) (syV fst_take [(1, _)] rfl rfl (fun _ => (w_free rfl)) (fun _ => ⟨g_fr (by kernel_rfl) rfl, trivial⟩) (fun s w hw => rn_move rfl) (at_top rfl)) ?_
   refine bly_cons 3 rfl (isV _) (syV fst_take [(7, _)] rfl rfl (fun _ => (w_free rfl)) (fun _ => ⟨g_fr (by kernel_rfl) rfl, trivial⟩) (fun s w hw => rn_move rfl) (at_top rfl)) ?_
   refine bly_cons 4 rfl (isV _) (syV fst_take [(6, _)] rfl rfl (fun _ => (w_free rfl)) (fun _ => ⟨g_fr (by kernel_rfl) rfl, trivial⟩) (fun s w hw => rn_move rfl) (at_top rfl)) ?_
   refine bly_cons 5 rfl (isV _) (syV fst_take [(137, _), (138, _)] rfl rfl (fun _ => (w_free rfl)) (fun _ => ⟨g_dep 2 (by kernel_rfl) (at_n rfl rfl (at_dep rfl rfl rfl)), g_dep 3 (by kernel_rfl) (at_n rfl rfl (at_dep rfl rfl rfl)), trivial⟩) (fun s w hw => rn_add rfl rfl (IntWalk.i64_in _ (by omega))) (at_top rfl)) ?_
   refine bly_cons 6 rfl (isV _) (syV fst_take [(139, _)] rfl rfl (fun _ => (w_free rfl)) (fun _ => ⟨g_dep 4 (by kernel_rfl) (at_n rfl rfl (at_dep rfl rfl rfl)), trivial⟩) (fun s w hw => rn_sub rfl rfl (IntWalk.i64_in _ (by omega))) (at_top rfl)) ?_
   refine bly_cons 7 rfl (isV _) (syV fst_take [(8, _)] rfl rfl (fun _ => (w_free rfl)) (fun _ => ⟨g_fr (by kernel_rfl) rfl, trivial⟩) (fun s w hw => rn_move rfl) (at_top rfl)) ?_
   refine bly_cons 8 rfl (isV _) (syV fst_take [(6, _)] rfl rfl (fun _ => (w_free rfl)) (fun _ => ⟨g_fr (by kernel_rfl) rfl, trivial⟩) (fun s w hw => rn_move rfl) (at_top rfl)) ?_
   refine bly_cons 9 rfl (isV _) (syV fst_take [(141, _), (142, _)] rfl rfl (fun _ => (w_free rfl)) (fun _ => ⟨g_dep 6 (by kernel_rfl) (at_n rfl rfl (at_dep rfl rfl rfl)), g_dep 7 (by kernel_rfl) (at_n rfl rfl (at_dep rfl rfl rfl)), trivial⟩) (fun s w hw => rn_add rfl rfl (IntWalk.i64_in _ (by omega))) (at_top rfl)) ?_
   refine bly_cons 10 rfl (isV _) (syV fst_take [(143, _)] rfl rfl (fun _ => (w_free rfl)) (fun _ => ⟨g_dep 8 (by kernel_rfl) (at_n rfl rfl (at_dep rfl rfl rfl)), trivial⟩) (fun s w hw => rn_sub rfl rfl (IntWalk.i64_in _ (by omega))) (at_top rfl)) ?_
   refine bly_cons 11 rfl (isV _) (syV fst_take [(5, _)] rfl rfl (fun _ => (w_free rfl)) (fun _ => ⟨g_fr (by kernel_rfl) rfl, trivial⟩) (fun s w hw => rn_field (o' := 2) fa_47_2 rfl rfl) (at_top rfl)) ?_
   refine bly_cons 12 rfl (isV _) (syV fst_take [(145, _)] rfl rfl (fun _ => (w_free rfl)) (fun _ => ⟨g_dep 10 (by kernel_rfl) (at_n rfl rfl (at_dep rfl rfl rfl)), trivial⟩) (fun s w hw => rn_load Try.isAgg3 rfl ((cell_own (hw.at_ 0 rfl) rfl))) (at_top rfl)) ?_
   refine bly_cons 13 rfl (isV _) (syV fst_take [(5, _)] rfl rfl (fun _ => (w_free rfl)) (fun _ => ⟨g_fr (by kernel_rfl) rfl, trivial⟩) (fun s w hw => rn_field (o' := 3) fa_47_3 rfl rfl) (at_top rfl)) ?_
   refine bly_cons 14 rfl (isV _) (syV fst_take [(147, _)] rfl rfl (fun _ => (w_free rfl)) (fun _ => ⟨g_dep 12 (by kernel_rfl) (at_n rfl rfl (at_dep rfl rfl rfl)), trivial⟩) (fun s w hw => rn_load Try.isAgg29 rfl ((cell_own (hw.at_ 0 rfl) rfl))) (at_top rfl)) ?_
   refine bly_cons 15 rfl (isV _) (syV fst_take [(148, _)] rfl rfl (fun _ => (w_free rfl)) (fun _ => ⟨g_dep 13 (by kernel_rfl) (at_n rfl rfl (at_dep rfl rfl rfl)), trivial⟩) (fun s w hw => rn_indexA (j := 0) Try.underlying29 Try.sizeOf3 rfl rfl rfl (by omega) (Nat.add_zero _)) (at_top rfl)) ?_
   refine bly_cons 16 rfl (isV _) (syV fst_take [(149, _)] rfl rfl (fun _ => (w_free rfl)) (fun _ => ⟨g_dep 14 (by kernel_rfl) (at_n rfl rfl (at_dep rfl rfl rfl)), trivial⟩) (fun s w hw => rn_load Try.isAgg3 rfl (hw.agree.cell (Nat.zero_le _) (k13a))) (at_top rfl)) ?_
   refine bly_cons 17 rfl (isV _) (syV fst_take [(5, _)] rfl rfl (fun _ => (w_free rfl)) (fun _ => ⟨g_fr (by kernel_rfl) rfl, trivial⟩) (fun s w hw => rn_field (o' := 3) fa_47_3 rfl rfl) (at_top rfl)) ?_
   refine bly_cons 18 rfl (isV _) (syV fst_take [(151, _)] rfl rfl (fun _ => (w_free rfl)) (fun _ => ⟨g_dep 16 (by kernel_rfl) (at_n rfl rfl (at_dep rfl rfl rfl)), trivial⟩) (fun s w hw => rn_load Try.isAgg29 rfl ((cell_own (hw.at_ 0 rfl) rfl))) (at_top rfl)) ?_
   refine bly_cons 19 rfl (isV _) (syV fst_take [(152, _)] rfl rfl (fun _ => (w_free rfl)) (fun _ => ⟨g_dep 17 (by kernel_rfl) (at_n rfl rfl (at_dep rfl rfl rfl)), trivial⟩) (fun s w hw => rn_indexA (j := 1) Try.underlying29 Try.sizeOf3 rfl rfl rfl (by omega) rfl) (at_top rfl)) ?_
   refine bly_cons 20 rfl (isV _) (syV fst_take [(153, _)] rfl rfl (fun _ => (w_free rfl)) (fun _ => ⟨g_dep 18 (by kernel_rfl) (at_n rfl rfl (at_dep rfl rfl rfl)), trivial⟩) (fun s w hw => rn_load Try.isAgg3 rfl (hw.agree.cell (Nat.zero_le _) (k13b))) (at_top rfl)) ?_
   refine bly_cons 21 rfl (isRow W.heap.size 2 3 _) (sy_rowV fst_take (us := [.int .i64 _, .int .i64 _]) rfl rfl (fun _ => (w_free rfl)) Try.underlying29 Try.sizeOf3 Try.zeroValue3 rfl rfl (fun _ => ⟨p_tmp (g_dep 15 (by kernel_rfl) (at_n rfl rfl (at_dep rfl rfl rfl))), p_tmp (g_dep 19 (by kernel_rfl) (at_n rfl rfl (at_dep rfl rfl rfl))), trivial⟩) (bs_29_2 _ _) (at_top rfl)) ?_
   refine bly_cons 22 rfl (isV _) (syV fst_take [(0, _)] rfl rfl (fun _ => (w_free rfl)) (fun _ => ⟨g_fr (by kernel_rfl) rfl, trivial⟩) (fun s w hw => rn_move rfl) (at_top rfl)) ?_
   refine bly_cons 23 rfl (isV _) (syV fst_take [(156, _)] rfl rfl (fun _ => (w_free rfl)) (fun _ => ⟨g_dep 21 (by kernel_rfl) (at_n rfl rfl (at_dep rfl rfl rfl)), trivial⟩) (fun s w hw => rn_nilCheck rfl) (at_top rfl)) ?_
   refine bly_cons 24 rfl (isV _) (syV fst_take [(157, _)] rfl rfl (fun _ => (w_free rfl)) (fun _ => ⟨g_dep 22 (by kernel_rfl) (at_n rfl rfl (at_dep rfl rfl rfl)), trivial⟩) (fun s w hw => rn_field (o' := 0) fa_87_0 rfl rfl) (at_top rfl)) ?_
   refine bly_cons 25 rfl (isV _) (syV fst_take [(158, _)] rfl rfl (fun _ => (w_free rfl)) (fun _ => ⟨g_dep 23 (by kernel_rfl) (at_n rfl rfl (at_dep rfl rfl rfl)), trivial⟩) (fun s w hw => rn_loadA (vs := [_, _, _, _, _, _, _, _, _]) Try.isAgg84 Try.sizeOf84 rfl ((CellsAt.own (j := 0) (m := 9) (hw.at_ 1 rfl) rfl))) (at_top rfl)) ?_
   refine bly_cons 26 rfl (isNew W.heap.size S (oneX S)) (sy_call fst_take (fun s => [isV _]) rfl rfl goes_63 (fun _ => w_free rfl) (fun s => ⟨p_tmp (g_dep 24 (by kernel_rfl) (at_n rfl rfl (at_dep rfl rfl rfl))), trivial⟩) (fun vs s0 w' hk hw hlo hh => by have e := holds_isV (us := [_]) hh; subst e; exact wret_gN hlo (ringOne_is S sf f0 w' (hs.below hw.below) hok)) (at_top rfl)) ?_
   refine bly_cons 27 rfl (isRuleN W.heap.size S (zt + (rwl : Int) - 3) (yt + (rwl : Int) - 3) (rq) [ws.getD 0 0, ws.getD 1 0] (oneX S)) (syPs [(5, 140, isV _), (9, 144, isV _), (11, 146, isV _), (20, 155, isRow W.heap.size 2 3 [.int .i64 (ws.getD 0 0), .int .i64 (ws.getD 1 0)]), (25, 160, isNew W.heap.size S (oneX S))] rfl rfl ⟨⟨by kernel_rfl, at_dep rfl rfl rfl⟩, ⟨by kernel_rfl, at_dep rfl rfl rfl⟩, ⟨by kernel_rfl, at_dep rfl rfl rfl⟩, ⟨by kernel_rfl, at_dep rfl rfl rfl⟩, ⟨by kernel_rfl, at_dep rfl rfl rfl⟩, trivial⟩ (bld_rule9 (fun _ _ h => row_cl9 h)) (at_top rfl)) ?_
   refine bly_nil ?_
   intro s8 W8 Ks8 hall8 hsz8 hKs8 hS' hcov8 hfx8 hno8
   clear hS; have hS := hS'.castO (O' := (_ :: _ :: Ot)) rfl; clear hS'
   refine castL (L' := [AwS _ _ (isV _), AwS _ _ (isV _), AwS _ _ (isV _), AwS _ _ (isV _), AwS _ _ (isV _), AwS _ _ (isV _), AwS _ _ (isV _), AwS _ _ (isV _), AwS _ _ (isV _), AwS _ _ (isV _), AwS _ _ (isV _), AwS _ _ (isV _), AwS _ _ (isV _), AwS _ _ (isV _), AwS _ _ (isV _), AwS _ _ (isV _), AwS _ _ (isV _), AwS _ _ (isV _), AwS _ _ (isV _), AwS _ _ (isV _), AwS _ _ (isRow W.heap.size 2 3 _), AwS _ _ (isV _), AwS _ _ (isV _), AwS _ _ (isV _), AwS _ _ (isV _), AwS _ _ (isNew W.heap.size S (oneX S)), AwS _ _ (isRuleN W.heap.size S (zt + (rwl : Int) - 3) (yt + (rwl : Int) - 3) (rq) [ws.getD 0 0, ws.getD 1 0] (oneX S))]) rfl ?_
   refine fin_sV ?_
   refine fin_sV ?_
   refine fin_sV ?_
   refine fin_sV ?_
   refine fin_sV ?_
   refine fin_sV ?_
   refine fin_sV ?_
   refine fin_sV ?_
   refine fin_sV ?_
   refine fin_sV ?_
   refine fin_sV ?_
   refine fin_sV ?_
   refine fin_sV ?_
   refine fin_sV ?_
   refine fin_sV ?_
   refine fin_sV ?_
   refine fin_sV ?_
   refine fin_sV ?_
   refine fin_sV ?_
   refine fin_sV ?_
   refine fin_p ?_; intro _ _
   refine fin_sV ?_
   refine fin_sV ?_
   refine fin_sV ?_
   refine fin_sV ?_
   refine fin_p ?_; intro _ _
   refine fin_p ?_; rintro vR hR9; have hcovC := @hcov8; obtain ⟨aR, cR, fR, rfl, hwR, hxR⟩ := hR9.here
   refine fin_nil ?_
   have HR : Held w0 (_ ++ Kk) (fun W2 => RHeld w0.heap.size S W2 ⟨num, false, zt + (rwl : Int) - 3, yt + (rwl : Int) - 3, rq, aR, cR, [ws.getD 0 0, ws.getD 1 0], fR, oneX S⟩) := fun h2 hk => (RHeld.agree (r := ⟨num, false, zt + (rwl : Int) - 3, yt + (rwl : Int) - 3, rq, aR, cR, [ws.getD 0 0, ws.getD 1 0], fR, oneX S⟩) ⟨hwR, hxR⟩ (sameX_agree9 (hcovC h2 (fun q hq => hk q (List.mem_append_left _ hq))) (fun b h1 hx => by have h3 := xb_lt9 hS7 hx; omega))).mono hszN
   refine op_callX (vs := [_, _, _, _]) goes_60 rfl (shPut_is sf f0 sq (zt + ((rwl - 2 : Nat) : Int)) (yt + ((rwl - 2 : Nat) : Int)) u1 u2 u3 (n + ns.length) (xs1 ++ ns.flatMap ten9) (xs2 ++ ns.map (fun r => Value.int .i64 r.num)) (xs3 ++ ns.map (fun r => Value.bool r.first)) B _ _ w0 num false (zt + (rwl : Int) - 3) (yt + (rwl : Int) - 3) (rq) aR ([ws.getD 0 0, ws.getD 1 0]).length cR fR _ (hS.perm (List.Perm.swap _ _ _)) (by omega)) rfl ?_
   rintro e W9 ⟨w1, w2, w3, rfl, hS9⟩
   refine ⟨_, rfl, ?_⟩
   clear hS; have hS := hS9.perm (List.Perm.swap _ _ _); clear hS9
   refine endF ?_
   refine XF.resN (res0 Try.results33) ?_
   refine ⟨w1, w2, w3, _, ns ++ [⟨num, false, zt + (rwl : Int) - 3, yt + (rwl : Int) - 3, rq, aR, cR, [ws.getD 0 0, ws.getD 1 0], fR, oneX S⟩], rfl, ?_, fun q hq => List.mem_append_right _ (hsub q hq), fun h2 hk r hr => ?_, hS.tail.castG (by simp [Nat.add_assoc])⟩
   ·rw [List.map_append, hns]
    unfold partsF
    rw [if_neg (by omega), ← hlen]
    simp only [List.map_cons, List.map_nil, List.cons_append]
    rw [show zt + ((ws.length - 3 : Nat) : Int) = zt + (ws.length : Int) - 3 by omega, show yt + ((ws.length - 3 : Nat) : Int) = yt + (ws.length : Int) - 3 by omega]
   ·rcases List.mem_append.1 hr with hr | hr
    ·exact HN h2 (fun q hq => hk q (List.mem_append_right _ hq)) r hr
    ·simp at hr; subst hr; exact HR h2 hk
end Go.Proofs.Ytpkcaabbcoiiiaa
namespace Go.Proofs.Ytpkcaabbcoiiiaa
open Go Go.RowKit
abbrev z8 : List Value := [.int .i64 0, .int .i64 0, .slice none 0 0, .int .i64 0, .int .i64 0, .slice none 0 0, .slice none 0 0, .slice none 0 0]
def tooMany (p : PV) : Bool := decide (4096 < p.st + (moreF p.rs : Int)) || (decide (4096 < p.sy + (moreF p.rs : Int)) || decide (16384 < (p.rl : Int) + (moreF p.rs : Int)))
def SpFar (lo : Nat) (S : PS) (s2 : SF) (W : World) : Prop := ∀ W3, Agree lo W W3 → SIs W3 S s2
structure ShortOk (p : PV) (S : PS) (px : RV → PX) (w w' : World) (s2 : SF) (v1 v2 v3 : Value) (ns : List R9) : Prop where
 pds : PdsOk w S px p
 few : tooMany p = false
 pl : ns.map R9.pl = shortF (oneX S) px p.rs 0 p.st p.sy
 space : SpFar w.heap.size S s2 w'
 rules : ∀ r ∈ ns, RHeld w.heap.size S w' r
 r1 : w'.ownsRow w.heap.size 47 10 v1 ns.length (ns.flatMap ten9)
 r2 : w'.ownsRow w.heap.size 3 1 v2 ns.length (ns.map (fun r => Value.int .i64 r.num))
 r3 : w'.ownsRow w.heap.size 4 1 v3 ns.length (ns.map (fun r => Value.bool r.first))
abbrev shortV (p : PV) (s2 : SF) (v1 v2 v3 : Value) : List Value := [.int .i64 s2.tag, .int .i64 s2.dim, .slice s2.a s2.len s2.cap, .int .i64 (p.st + (moreF p.rs : Int)), .int .i64 (p.sy + (moreF p.rs : Int)), v1, v2, v3]
def ShortRet (S : PS) (px : RV → PX) (p : PV) (w : World) (e : Ending) (w' : World) : Prop := Below w.heap.size w w' ∧ ((pdsE p ≠ 0 ∧ e = .returned (.tuple #[.agg z8.toArray, .int .i64 (pdsE p)])) ∨ (pdsE p = 0 ∧ tooMany p = true ∧ e = .returned (.tuple #[.agg z8.toArray, .int .i64 3])) ∨ (pdsE p = 0 ∧ ∃ s2 v1 v2 v3 ns, ShortOk p S px w w' s2 v1 v2 v3 ns ∧ e = .returned (.tuple #[.agg (shortV p s2 v1 v2 v3).toArray, .int .i64 0])))
theorem shortRet_bad {S : PS} {px : RV → PX} {p : PV} {w w' : World} (h : pdsE p ≠ 0) (hb : Below w.heap.size w w') : ShortRet S px p w (.returned (.tuple #[.agg z8.toArray, .int .i64 (pdsE p)])) w' := ⟨hb, .inl ⟨h, rfl⟩⟩
theorem shortRet_many {S : PS} {px : RV → PX} {p : PV} {w w' : World} (h : pdsE p = 0) (h2 : tooMany p = true) (hb : Below w.heap.size w w') : ShortRet S px p w (.returned (.tuple #[.agg z8.toArray, .int .i64 3])) w' := ⟨hb, .inr (.inl ⟨h, h2, rfl⟩)⟩
theorem shortRet_ok {p : PV} {S : PS} {px : RV → PX} {w w' : World} {s2 : SF} {v1 v2 v3 : Value} {ns : List R9} (h : ShortOk p S px w w' s2 v1 v2 v3 ns) (hb : Below w.heap.size w w') : ShortRet S px p w (.returned (.tuple #[.agg (shortV p s2 v1 v2 v3).toArray, .int .i64 0])) w' := ⟨hb, .inr (.inr ⟨h.pds.chk, s2, v1, v2, v3, ns, h, rfl⟩)⟩
def isSpN (lo : Nat) (S : PS) : Asr := fun v w => ∃ s2 : SF, v = s2.val ∧ ∀ W2, Agree lo w W2 → SIs W2 S s2
theorem copySp_is (S : PS) (sf : SF) (w : World) (hs : SIs w S sf) {lo : Nat} (hlo : lo ≤ w.heap.size) : Calls Try.prog 32 #[sf.val] w (GivesN (isSpN lo S) w) := by
 cases S with
 | one t n =>
  obtain ⟨a, c, rfl⟩ := hs
  refine (copySpace1 t n a c w).mono fun e w' ⟨he, hb⟩ => ⟨_, he, fun w3 hg => ⟨⟨t, n, none, 0, 0⟩, rfl, fun W2 h2 => ⟨none, 0, rfl⟩⟩, hb⟩
 | two t n u m =>
  obtain ⟨b, off, c, a1, c1, a2, c2, rfl, h1, h2⟩ := hs
  refine (copySpace2 5 0 (some ⟨b, off, none⟩) 2 c [⟨t, n, a1, 0, c1⟩, ⟨u, m, a2, 0, c2⟩] w (fun i q hq => ?_) rfl (fun q hq => ?_) (Nat.le_refl _)).mono ?_
  ·match i, hq with
   | 0, hq => cases hq; exact ⟨b, off, rfl, by rw [Nat.zero_mul, Nat.add_zero]; exact h1⟩
   | 1, hq => cases hq; exact ⟨b, off, rfl, by rw [Nat.one_mul]; exact h2⟩
   | i + 2, hq => simp at hq
  ·simp at hq; rcases hq with rfl | rfl <;> rfl
  ·rintro e w' ⟨v, he, hr, hb⟩
   refine ⟨_, he, fun w3 hg => ?_, hb⟩
   obtain ⟨b9, c9, rfl, _⟩ := ownsRow_at hr (by omega)
   refine ⟨⟨5, 0, some ⟨b9, 0, none⟩, 2, c9⟩, rfl, fun W2 h3 => ?_⟩
   have h4 := ownsRow_agree (ownsRow_base (ownsRow_agree hr hg) hlo) h3
   have hc : ∀ (j : Nat) x, ([SF.mk t n a1 0 c1, ⟨u, m, a2, 0, c2⟩].flatMap bare3)[j]? = some x → W2.cell? ⟨b9, j, none⟩ = some x := fun j x hj => ownsRow_blk h4 hj
   exact ⟨b9, 0, c9, none, 0, none, 0, rfl, ⟨hc 0 _ rfl, hc 1 _ rfl, hc 2 _ rfl⟩, ⟨hc 3 _ rfl, hc 4 _ rfl, hc 5 _ rfl⟩⟩
theorem moreF_bound {p : PV} {w : World} {S : PS} {px : RV → PX} (h : PdsOk w S px p) (hl : p.rs.length = p.rl) : moreF p.rs ≤ 67108864 := by
 have h1 := moreF_le (rs := p.rs) (m := 4096) h.w4
 have h2 := h.rl
 have h3 : p.rs.length * 4096 ≤ 16384 * 4096 := Nat.mul_le_mul_right _ (by omega)
 omega
theorem tooMany_of {p : PV} (h : 4096 < p.st + (moreF p.rs : Int) ∨ 4096 < p.sy + (moreF p.rs : Int) ∨ 16384 < (p.rl : Int) + (moreF p.rs : Int)) : tooMany p = true := by
 unfold tooMany
 simp only [Bool.or_eq_true, decide_eq_true_eq]; omega
theorem tooMany_no {p : PV} (h1 : ¬ 4096 < p.st + (moreF p.rs : Int)) (h2 : ¬ 4096 < p.sy + (moreF p.rs : Int)) (h3 : ¬ 16384 < (p.rl : Int) + (moreF p.rs : Int)) : tooMany p = false := by
 unfold tooMany
 simp only [Bool.or_eq_false_iff, decide_eq_false_iff_not]; omega
theorem shortF_len {one : PX} {px : RV → PX} : ∀ {rs : List RV} {i : Nat} {z y : Int}, (∀ r ∈ rs, r.ws.length = r.wl) → (shortF one px rs i z y).length = rs.length + moreF rs
 | [], _, _, _, _ => rfl
 | r :: rs, i, z, y, h => by
  simp only [shortF, List.length_append, List.length_cons, partsF_len, moreF_cons]
  rw [shortF_len (fun x hx => h x (List.mem_cons_of_mem _ hx)), h r List.mem_cons_self]
  omega
end Go.Proofs.Ytpkcaabbcoiiiaa
namespace Go.Proofs.Ytpkcaabbcoiiiaa
open Go Go.RowKit
def BRow (w : World) (a : Option Addr) (fs : List Bool) : Prop := ∀ (i : Nat) f, fs[i]? = some f → ∃ b off, a = some ⟨b, off, none⟩ ∧ w.cell? ⟨b, off + i * 1, none⟩ = some (.bool f)
def NRow (w : World) (a : Option Addr) (ns : List R9) : Prop := ∀ (i : Nat) r, ns[i]? = some r → ∃ b off, a = some ⟨b, off, none⟩ ∧ CellsAt w b (off + i * 10) (ten9 r)
theorem BRow.below {w w' : World} {a : Option Addr} {fs : List Bool} (h : BRow w a fs) (hb : Below w.heap.size w w') : BRow w' a fs := fun i f hi => by
 obtain ⟨b, off, e, h1⟩ := h i f hi
 exact ⟨b, off, e, (hb.cell (World.block_lt_of_cell? _ _ h1)).trans h1⟩
theorem NRow.below {w w' : World} {a : Option Addr} {ns : List R9} (h : NRow w a ns) (hb : Below w.heap.size w w') : NRow w' a ns := fun i r hi => by
 obtain ⟨b, off, e, h1⟩ := h i r hi
 exact ⟨b, off, e, h1.agree (below_agree hb 0) (Nat.zero_le _)⟩
theorem rowN_lim8 {lo : Nat} {W : World} {a : Option Addr} {c : Nat} {xs : List Int} (h : RowN lo W a c xs) : xs.length ≤ maxLen := by
 rcases h.2 with ⟨e1, e2⟩ | ⟨g, cap, cur, e1, _, _, hn, hm, _⟩
 ·omega
 ·omega
structure ROk (S : PS) (W : World) (r : R9) : Prop where
 w : Row W r.wa r.ws
 l : r.ws.length ≤ 9223372036854775807
 x : XIs W S r.f r.x
theorem ROk.below {S : PS} {w w' : World} {r : R9} (h : ROk S w r) (hb : Below w.heap.size w w') : ROk S w' r := ⟨h.w.below hb, h.l, h.x.below hb⟩
theorem RHeld.ok {lo : Nat} {S : PS} {W : World} {r : R9} (h : RHeld lo S W r) : ROk S W r := ⟨h.w.row, by have h9 := rowN_lim8 h.w; simp only [maxLen] at h9; omega, h.x.is⟩
def Spc : Option PS → World → SF → Prop
 | none, _, f => f = ⟨0, 0, none, 0, 0⟩
 | some S, w, f => S.ok ∧ SIs w S f
theorem Spc.below {o : Option PS} {w w' : World} {f : SF} (h : Spc o w f) (hb : Below w.heap.size w w') : Spc o w' f := by
 cases o with
 | none => exact h
 | some S => exact ⟨h.1, h.2.below hb⟩
structure ShO (o : Option PS) (pl : List PR) (W : World) (sf : SF) (n : Nat) (a1 a2 a3 : Option Addr) (ns : List R9) : Prop where
 r1 : NRow W a1 ns
 r2 : Row W a2 (ns.map R9.num)
 r3 : BRow W a3 (ns.map R9.first)
 ok : ∀ S, o = some S → ∀ r ∈ ns, ROk S W r
 no : o = none → ns = []
 pl : ns.map R9.pl = pl
 sp : Spc o W sf
 len : ns.length = n
 max : n ≤ 1000000
theorem ShO.below {o : Option PS} {pl : List PR} {w w' : World} {sf : SF} {n : Nat} {a1 a2 a3 : Option Addr} {ns : List R9} (h : ShO o pl w sf n a1 a2 a3 ns) (hb : Below w.heap.size w w') : ShO o pl w' sf n a1 a2 a3 ns := ⟨h.r1.below hb, h.r2.below hb, h.r3.below hb, fun S e r hr => (h.ok S e r hr).below hb, h.no, h.pl, h.sp.below hb, h.len, h.max⟩
end Go.Proofs.Ytpkcaabbcoiiiaa
namespace Go.Proofs.Ytpkcaabbcoiiiaa
open Go Go.RowKit
section
variable {P : Program} {ops : Array Oper} {Q : Exit → Act → World → Prop} {n : Nat} {l : Fr} {W : World} {L : List Asr} {i : Nat}
variable {d : Nat} {op : Op} {ty : TypeId} {pos : String} {aft_ : Array Edge}
end
section
variable {ops : Array Oper} {Q : Exit → Act → World → Prop} {n : Nat} {l : Fr} {W : World} {L : List Asr} {i : Nat} {d : Nat} {ty : TypeId} {pos : String} {aft_ : Array Edge}
end
def curF (one : PX) (p g : Int) (x : PX) (z y : Int) : Nat → Int × Int × PX
 | 0 => (p, g, x)
 | k + 1 => (z + (k : Int), y + (k : Int), one)
def headsF (one : PX) (num p g : Int) (ws : List Int) (x : PX) (z y : Int) (k : Nat) : List PR :=
 (List.range k).map (fun j => (num, decide (j = 0), (curF one p g x z y j).1, (curF one p g x z y j).2.1, z + (j : Int), [y + (j : Int), ws.getD (ws.length - 1 - j) 0], (curF one p g x z y j).2.2))
theorem headsF_succ (one : PX) (num p g : Int) (ws : List Int) (x : PX) (z y : Int) (k : Nat) : headsF one num p g ws x z y (k + 1) = headsF one num p g ws x z y k ++ [(num, decide (k = 0), (curF one p g x z y k).1, (curF one p g x z y k).2.1, z + (k : Int), [y + (k : Int), ws.getD (ws.length - 1 - k) 0], (curF one p g x z y k).2.2)] := by
 unfold headsF
 rw [List.range_succ, List.map_append]; rfl
theorem take_two9 : ∀ (ws : List Int), 2 ≤ ws.length → ws.take 2 = [ws.getD 0 0, ws.getD 1 0]
 | [], h => by simp at h
 | [_], h => by simp at h
 | a :: b :: _, _ => rfl
theorem parts_heads (one : PX) (num p g q : Int) (ws : List Int) (x : PX) (z y : Int) :
  partsF one num p g q ws x z y = headsF one num p g ws x z y (ws.length - 2) ++ [(num, decide (ws.length - 2 = 0), (curF one p g x z y (ws.length - 2)).1, (curF one p g x z y (ws.length - 2)).2.1, q, ws.take (ws.length - (ws.length - 2)), (curF one p g x z y (ws.length - 2)).2.2)] := by
 unfold partsF
 by_cases h : ws.length ≤ 2
 ·have e : ws.length - 2 = 0 := by omega
  rw [if_pos h, e, Nat.sub_zero, List.take_length]
  rfl
 ·rw [if_neg h]
  obtain ⟨m, hm⟩ : ∃ m, ws.length = m + 3 := ⟨ws.length - 3, by omega⟩
  have e1 : ws.length - 2 = m + 1 := by omega
  have e2 : ws.length - 3 = m := by omega
  have e3 : ws.length - (m + 1) = 2 := by omega
  rw [e1, e2, e3, take_two9 ws (by omega)]
  unfold headsF
  rw [List.range_succ_eq_map, List.map_cons, List.map_map, List.cons_append]
  have e4 : (List.range m).map (fun i : Nat => ((num, false, z + (i : Int), y + (i : Int), z + (i : Int) + 1, [y + (i : Int) + 1, ws.getD (m + 1 - i) 0], one) : PR)) = (List.range m).map ((fun j : Nat => ((num, decide (j = 0), (curF one p g x z y j).1, (curF one p g x z y j).2.1, z + (j : Int), [y + (j : Int), ws.getD (ws.length - 1 - j) 0], (curF one p g x z y j).2.2) : PR)) ∘ Nat.succ) := by
   refine List.map_congr_left fun i hi => ?_
   have h9 : ws.length - 1 - (i + 1) = m + 1 - i := by omega
   simp only [Function.comp_apply, Nat.succ_eq_add_one, h9, curF, Int.natCast_add, Int.add_assoc]
   simp
  rw [e4]
  simp [curF]
end Go.Proofs.Ytpkcaabbcoiiiaa
namespace Go.Proofs.Ytpkcaabbcoiiiaa
open Go Go.RowKit
theorem row_ten8 {W : World} {lo b n c i : Nat} {ns : List R9} {r : R9} (h : W.ownsRow lo 47 10 (.slice (some ⟨b, 0, none⟩) n c) n (ns.flatMap ten9)) (hi : ns[i]? = some r) : CellsAt W b (i * 10) (ten9 r) := by
 have key : ∀ (l : List R9) (i : Nat), l[i]? = some r → ((l.flatMap ten9).drop (i * 10)).take 10 = ten9 r := by
  intro l
  induction l with
  | nil => intro i h; simp at h
  | cons z l ih =>
   intro i h
   cases i with
   | zero => simp at h; subst h; rfl
   | succ i =>
    have e : (i + 1) * 10 = 10 + i * 10 := by omega
    rw [List.flatMap_cons, e, ← List.drop_drop]
    exact ih i (by simpa using h)
 have e5 := key ns i hi
 refine CellsAt.of fun j v hj => ownsRow_blk h ?_
 rw [← e5, List.getElem?_take] at hj
 split at hj
 ·rw [List.getElem?_drop] at hj; exact hj
 ·cases hj
theorem own_sl9 {w : World} {lo n size : Nat} {e : TypeId} {v : Value} {xs : List Value} (h : w.ownsRow lo e size v n xs) : ∃ a c, v = .slice a n c := by
 rcases h.2 with ⟨h1, h2⟩ | ⟨g, c, _, h1, _⟩
 ·subst h2; exact ⟨none, 0, h1⟩
 ·exact ⟨_, c, h1⟩
theorem nrow_own {w : World} {lo n c : Nat} {a : Option Addr} {ns : List R9} (h : w.ownsRow lo 47 10 (.slice a n c) n (ns.flatMap ten9)) (hn : ns.length = n) : NRow w a ns := fun i r hi => by
 have hl : i < ns.length := (List.getElem?_eq_some_iff.1 hi).1
 obtain ⟨b, c9, e, _⟩ := ownsRow_at h (by omega)
 injection e with e1 e2 e3
 subst e1; subst e3
 exact ⟨b, 0, rfl, by rw [Nat.zero_add]; exact row_ten8 h hi⟩
theorem row_own8 {w : World} {lo n c : Nat} {a : Option Addr} {ns : List R9} (h : w.ownsRow lo 3 1 (.slice a n c) n (ns.map (fun r => Value.int .i64 r.num))) (hn : ns.length = n) : Row w a (ns.map R9.num) := by
 have h2 : RowN lo w a c (ns.map R9.num) := by
  show w.ownsRow lo 3 1 (.slice a (ns.map R9.num).length c) (ns.map R9.num).length ((ns.map R9.num).map (Value.int .i64))
  rw [List.length_map, hn, List.map_map]; exact h
 exact h2.row
theorem brow_own {w : World} {lo n c : Nat} {a : Option Addr} {ns : List R9} (h : w.ownsRow lo 4 1 (.slice a n c) n (ns.map (fun r => Value.bool r.first))) (hn : ns.length = n) : BRow w a (ns.map R9.first) := fun i f hi => by
 have hl : i < (ns.map R9.first).length := (List.getElem?_eq_some_iff.1 hi).1
 rw [List.length_map] at hl
 obtain ⟨b, c9, e, _⟩ := ownsRow_at h (by omega)
 injection e with e1 e2 e3
 subst e1; subst e3
 refine ⟨b, 0, rfl, ?_⟩
 rw [Nat.zero_add, Nat.mul_one]
 rw [List.getElem?_map] at hi
 obtain ⟨r, hr, e⟩ := Option.map_eq_some_iff.1 hi
 exact ownsRow_blk h (by rw [List.getElem?_map, hr, ← e]; rfl)
theorem row_take9 {w : World} {a : Option Addr} {zs : List Int} (h : Row w a zs) (n : Nat) : Row w a (zs.take n) := by
 rcases h with h | ⟨b, off, e, hc⟩
 ·exact .inl (by rw [h]; simp)
 ·refine .inr ⟨b, off, e, fun i hi => ?_⟩
  rw [List.length_take] at hi
  have h1 := hc i (by omega)
  rw [h1]
  have h2 : (zs.take n)[i]? = zs[i]? := by rw [List.getElem?_take, if_pos (by omega)]
  rw [List.getD_eq_getElem?_getD, List.getD_eq_getElem?_getD, h2]
def shortD (S : PS) (px : RV → PX) (p : PV) : Option PS × List PR × Int × Int × Int :=
 if pdsE p ≠ 0 then (none, [], 0, 0, pdsE p) else if tooMany p = true then (none, [], 0, 0, 3) else (some S, shortF (oneX S) px p.rs 0 p.st p.sy, p.st + (moreF p.rs : Int), p.sy + (moreF p.rs : Int), 0)
def ShOutX (D : Option PS × List PR × Int × Int × Int) (w : World) (e : Ending) (w' : World) : Prop :=
 ∃ (sf : SF) (n : Nat) (a1 a2 a3 : Option Addr) (c1 c2 c3 : Nat) (ns : List R9), e = .returned (.tuple #[.agg #[.int .i64 sf.tag, .int .i64 sf.dim, .slice sf.a sf.len sf.cap, .int .i64 D.2.2.1, .int .i64 D.2.2.2.1, .slice a1 n c1, .slice a2 n c2, .slice a3 n c3], .int .i64 D.2.2.2.2]) ∧ ShO D.1 D.2.1 w' sf n a1 a2 a3 ns ∧ Below w.heap.size w w'
theorem shO_none {w : World} : ShO none [] w ⟨0, 0, none, 0, 0⟩ 0 none none none [] where
 r1 := fun i r hi => by simp at hi
 r2 := .inl rfl
 r3 := fun i f hi => by simp at hi
 ok := fun S h => by cases h
 no := fun _ => rfl
 pl := rfl
 sp := rfl
 len := rfl
 max := by omega
theorem shOut_bad {S : PS} {px : RV → PX} {p : PV} {w w' : World} (h : pdsE p ≠ 0) (hb : Below w.heap.size w w') : ShOutX (shortD S px p) w (.returned (.tuple #[.agg z8.toArray, .int .i64 (pdsE p)])) w' := by
 have e : shortD S px p = (none, [], 0, 0, pdsE p) := if_pos h
 rw [e]
 exact ⟨⟨0, 0, none, 0, 0⟩, 0, none, none, none, 0, 0, 0, [], rfl, shO_none, hb⟩
theorem shOut_many {S : PS} {px : RV → PX} {p : PV} {w w' : World} (h : pdsE p = 0) (h2 : tooMany p = true) (hb : Below w.heap.size w w') : ShOutX (shortD S px p) w (.returned (.tuple #[.agg z8.toArray, .int .i64 3])) w' := by
 have e : shortD S px p = (none, [], 0, 0, 3) := by unfold shortD; rw [if_neg (fun h9 => h9 h), if_pos h2]
 rw [e]
 exact ⟨⟨0, 0, none, 0, 0⟩, 0, none, none, none, 0, 0, 0, [], rfl, shO_none, hb⟩
theorem shOut_ok {S : PS} {px : RV → PX} {p : PV} {w w' : World} {sf : SF} {v1 v2 v3 : Value} {ns : List R9} {lo : Nat} (h : pdsE p = 0) (h2 : tooMany p = false) (hsp : S.ok ∧ SIs w' S sf) (hpl : ns.map R9.pl = shortF (oneX S) px p.rs 0 p.st p.sy) (hok : ∀ r ∈ ns, ROk S w' r) (hmax : ns.length ≤ 1000000)
  (r1 : w'.ownsRow lo 47 10 v1 ns.length (ns.flatMap ten9)) (r2 : w'.ownsRow lo 3 1 v2 ns.length (ns.map (fun r => Value.int .i64 r.num))) (r3 : w'.ownsRow lo 4 1 v3 ns.length (ns.map (fun r => Value.bool r.first))) (hb : Below w.heap.size w w') :
  ShOutX (shortD S px p) w (.returned (.tuple #[.agg (shortV p sf v1 v2 v3).toArray, .int .i64 0])) w' := by
 have e : shortD S px p = (some S, shortF (oneX S) px p.rs 0 p.st p.sy, p.st + (moreF p.rs : Int), p.sy + (moreF p.rs : Int), 0) := by unfold shortD; rw [if_neg (fun h9 => h9 h), if_neg (by rw [h2]; decide)]
 rw [e]
 obtain ⟨a1, c1, rfl⟩ := own_sl9 r1
 obtain ⟨a2, c2, rfl⟩ := own_sl9 r2
 obtain ⟨a3, c3, rfl⟩ := own_sl9 r3
 exact ⟨sf, ns.length, a1, a2, a3, c1, c2, c3, ns, rfl, ⟨nrow_own r1 rfl, row_own8 r2 rfl, brow_own r3 rfl, fun S9 e9 r hr => (by cases e9; exact hok r hr), fun h9 => (by cases h9), hpl, hsp, rfl, hmax⟩, hb⟩
theorem shortF_len9 {p : PV} {S : PS} {px : RV → PX} {w : World} {ds d : Nat} (hp : PvIn w ds d p) (h : tooMany p = false) {ns : List R9} (hpl : ns.map R9.pl = shortF (oneX S) px p.rs 0 p.st p.sy) : ns.length ≤ 16384 := by
 have h1 := congrArg List.length hpl
 rw [List.length_map, shortF_len (fun r hr => (hp.rin r hr).len)] at h1
 have h2 := hp.len
 unfold tooMany at h
 simp only [Bool.or_eq_false_iff, decide_eq_false_iff_not] at h
 omega
end Go.Proofs.Ytpkcaabbcoiiiaa
namespace Go.Proofs.Ytpkcaabbcoiiiaa
open Go Go.RowKit
theorem sameL_eq (p : Int) (a1 a2 : Option Addr) (n c1 c2 : Nat) (ws : List Int) (w : World) (hrow : Row w a1 ws) (hrov : Row w a2 ws) (hlen : ws.length = n) (hmx : n ≤ 9223372036854775807) :
  Calls Try.prog 13 #[.agg #[.int .i64 p, .slice a1 n c1], .agg #[.int .i64 p, .slice a2 n c2]] w (fun e w' => e = .returned (.bool (true)) ∧ Below w.heap.size w w') := by
 refine enterF (args := [.agg #[.int .i64 p, .slice a1 n c1], .agg #[.int .i64 p, .slice a2 n c2]]) Try.func13 rfl Try.ntmps13 rfl ?_
 have hS := St.start w
 refine seqF (regF ?_)
 refine op_box (cs := [_, _]) hS rfl rfl rfl ?_
 clear hS; intro B1 W1 hS
 refine op_box (cs := [_, _]) hS rfl rfl rfl ?_
 clear hS; intro B2 W2 hS
 refine op_assign rfl rfl ?_
 refine endF (XF.thenN ?_)
 refine seqF ?_
 refine seqF (regF ?_)
 refine op_field (o' := 0) fa_49_0 rfl rfl rfl ?_
 refine op_load Try.isAgg3 rfl (cell_own (hS.at_ 1 rfl) rfl) rfl ?_
 refine op_field (o' := 0) fa_49_0 rfl rfl rfl ?_
 refine op_load Try.isAgg3 rfl (cell_own (hS.at_ 0 rfl) rfl) rfl ?_
 refine op_neq rfl rfl rfl ?_
 refine op_move rfl rfl ?_
 refine op_cases (d := 11) rfl (fun hc => absurd (of_decide_eq_true hc) (by exact fun h => h rfl)) (fun hc => ?_)
 have hc := of_decide_eq_false hc
 refine op_wantedF (d := 11) rfl rfl ?_
 refine op_field (o' := 1) fa_49_1 rfl rfl rfl ?_
 refine op_wantedF (d := 11) rfl rfl ?_
 refine op_load Try.isAgg29 rfl (cell_own (hS.at_ 1 rfl) rfl) rfl ?_
 refine op_wantedF (d := 11) rfl rfl ?_
 refine op_len Try.underlying29 rfl rfl ?_
 refine op_wantedF (d := 11) rfl rfl ?_
 refine op_field (o' := 1) fa_49_1 rfl rfl rfl ?_
 refine op_wantedF (d := 11) rfl rfl ?_
 refine op_load Try.isAgg29 rfl (cell_own (hS.at_ 0 rfl) rfl) rfl ?_
 refine op_wantedF (d := 11) rfl rfl ?_
 refine op_len Try.underlying29 rfl rfl ?_
 refine op_wantedF (d := 11) rfl rfl ?_
 refine op_neq rfl rfl rfl ?_
 refine op_pickF rfl rfl rfl ?_
 refine endF (XF.thenN ?_)
 refine condF rfl (fun hc => absurd (of_decide_eq_true hc) (by exact fun h => h rfl)) (fun hc => ?_)
 have hc := of_decide_eq_false hc
 refine skipF ?_
 refine XF.thenN ?_
 refine seqF ?_
 refine seqF (regF ?_)
 refine op_assign rfl rfl ?_
 refine endF (XF.thenN ?_)
 refine blockF ?_
 refine loopF (fun m l W => ∃ i : Nat, i ≤ n ∧ m = n - i ∧ l = [(2, .pointer (some ⟨B1, 0, none⟩)), (3, .pointer (some ⟨B2, 0, none⟩)), (5, .int .i64 (i : Int))] ∧ St w [(B2, [.int .i64 p, .slice a2 n c2], 49), (B1, [.int .i64 p, .slice a1 n c1], 49)] [] [] W) (n - 0) ([(2, _), (3, _), (5, _)]) ⟨rfl, rfl, rfl, trivial⟩ (⟨0, Nat.zero_le _, rfl, rfl, hS.clear⟩) ?_
 clear hS
 rintro m l W ⟨i, hi, rfl, rfl, hS⟩
 refine seqF ?_
 refine seqF (regF ?_)
 refine op_move rfl rfl ?_
 refine op_field (o' := 1) fa_49_1 rfl rfl rfl ?_
 refine op_load Try.isAgg29 rfl (cell_own (hS.at_ 1 rfl) rfl) rfl ?_
 refine op_len Try.underlying29 rfl rfl ?_
 refine op_lss rfl rfl rfl ?_
 refine endF (XF.thenN ?_)
 refine condF rfl (fun hc => ?_) (fun hc => ?_)
 ·have hc24 := of_decide_eq_true hc; clear hc
  have hk : i < n := by omega
  obtain ⟨b1, o1, y, rfl, hy, hyc⟩ := hrow.at1 (show i < ws.length by omega)
  obtain ⟨b2, o2, z, rfl, hz, hzc⟩ := hrov.at1 (show i < ws.length by omega)
  obtain rfl : y = z := Option.some.inj (hy.symm.trans hz)
  have k1 := hS.old hyc
  have k2 := hS.old hzc
  refine skipF ?_
  refine XF.thenN ?_
  refine seqF ?_
  refine blockF ?_
  refine seqF ?_
  refine regB (m := 11) followsM hS (by kernel_rfl) (by kernel_rfl) rfl ?_
  refine bl_cons 1 rfl (isV _) (stab_isV _) (rgV (li := [(2, _)]) rfl (w_free rfl) ⟨g_fr (by kernel_rfl) rfl, trivial⟩ (fun w hw => rn_field (o' := 1) fa_49_1 rfl rfl) (at_top rfl)) ?_
  refine bl_cons 2 rfl (isV _) (stab_isV _) (rgV (li := [(27, _)]) rfl (w_free rfl) ⟨g_dep 0 (by kernel_rfl) (at_dep rfl rfl rfl), trivial⟩ (fun w hw => rn_load Try.isAgg29 rfl ((below_agree hw 0).cell (Nat.zero_le _) (cell_own (hS.at_ 1 rfl) rfl))) (at_top rfl)) ?_
  refine bl_cons 3 rfl (isV _) (stab_isV _) (rgV (li := [(5, _)]) rfl (w_free rfl) ⟨g_fr (by kernel_rfl) rfl, trivial⟩ (fun w hw => rn_move rfl) (at_top rfl)) ?_
  refine bl_cons 4 rfl (isV _) (stab_isV _) (rgV (li := [(28, _), (29, _)]) rfl (w_free rfl) ⟨g_dep 1 (by kernel_rfl) (at_dep rfl rfl rfl), g_dep 2 (by kernel_rfl) (at_dep rfl rfl rfl), trivial⟩ (fun w hw => rn_indexA  Try.underlying29 Try.sizeOf3 rfl rfl rfl (by omega) rfl) (at_top rfl)) ?_
  refine bl_cons 5 rfl (isV _) (stab_isV _) (rgV (li := [(30, _)]) rfl (w_free rfl) ⟨g_dep 3 (by kernel_rfl) (at_dep rfl rfl rfl), trivial⟩ (fun w hw => rn_load Try.isAgg3 rfl ((below_agree hw 0).cell (Nat.zero_le _) (k1))) (at_top rfl)) ?_
  refine bl_cons 6 rfl (isV _) (stab_isV _) (rgV (li := [(3, _)]) rfl (w_free rfl) ⟨g_fr (by kernel_rfl) rfl, trivial⟩ (fun w hw => rn_field (o' := 1) fa_49_1 rfl rfl) (at_top rfl)) ?_
  refine bl_cons 7 rfl (isV _) (stab_isV _) (rgV (li := [(32, _)]) rfl (w_free rfl) ⟨g_dep 5 (by kernel_rfl) (at_dep rfl rfl rfl), trivial⟩ (fun w hw => rn_load Try.isAgg29 rfl ((below_agree hw 0).cell (Nat.zero_le _) (cell_own (hS.at_ 0 rfl) rfl))) (at_top rfl)) ?_
  refine bl_cons 8 rfl (isV _) (stab_isV _) (rgV (li := [(5, _)]) rfl (w_free rfl) ⟨g_fr (by kernel_rfl) rfl, trivial⟩ (fun w hw => rn_move rfl) (at_top rfl)) ?_
  refine bl_cons 9 rfl (isV _) (stab_isV _) (rgV (li := [(33, _), (34, _)]) rfl (w_free rfl) ⟨g_dep 6 (by kernel_rfl) (at_dep rfl rfl rfl), g_dep 7 (by kernel_rfl) (at_dep rfl rfl rfl), trivial⟩ (fun w hw => rn_indexA  Try.underlying29 Try.sizeOf3 rfl rfl rfl (by omega) rfl) (at_top rfl)) ?_
  refine bl_cons 10 rfl (isV _) (stab_isV _) (rgV (li := [(35, _)]) rfl (w_free rfl) ⟨g_dep 8 (by kernel_rfl) (at_dep rfl rfl rfl), trivial⟩ (fun w hw => rn_load Try.isAgg3 rfl ((below_agree hw 0).cell (Nat.zero_le _) (k2))) (at_top rfl)) ?_
  refine bl_cons 11 rfl (isV _) (stab_isV _) (rgV (li := [(31, _), (36, _)]) rfl (w_free rfl) ⟨g_dep 4 (by kernel_rfl) (at_dep rfl rfl rfl), g_dep 9 (by kernel_rfl) (at_dep rfl rfl rfl), trivial⟩ (fun w hw => rn_neq rfl rfl) (at_top rfl)) ?_
  refine bl_nil ?_
  intro W3 hbR hS'
  clear hS; have hS := hS'; clear hS'
  refine fin_v ?_
  refine fin_v ?_
  refine fin_v ?_
  refine fin_v ?_
  refine fin_v ?_
  refine fin_v ?_
  refine fin_v ?_
  refine fin_v ?_
  refine fin_v ?_
  refine fin_v ?_
  refine fin_v ?_
  refine fin_nil ?_
  refine XF.thenN ?_
  refine condF rfl (fun hc => absurd hc (by simp)) (fun hc => ?_)
  skip
  refine skipF ?_
  refine XF.blkN ?_
  refine XF.thenN ?_
  refine regF ?_
  refine op_move rfl rfl ?_
  refine op_add rfl rfl (IntWalk.i64_in _ (by omega)) rfl ?_
  refine op_assign rfl rfl ?_
  refine endF ?_
  exact XF.round (n - (i + 1)) [(2, _), (3, _), (5, _)] (by omega) ⟨rfl, rfl, rfl, trivial⟩ ⟨i + 1, by omega, rfl, rfl, hS.clear⟩
 ·have hc24 := of_decide_eq_false hc; clear hc
  refine exitF ?_
  refine XF.thenX ?_
  refine XF.thenX ?_
  refine XF.blkX ?_
  refine XF.thenN ?_
  refine seqF (regF ?_)
  refine op_assign rfl rfl ?_
  refine endF (XF.thenN ?_)
  refine retF ?_
  refine XF.res (res1 Try.results13 rfl) ?_
  exact ⟨rfl, hS.below⟩
end Go.Proofs.Ytpkcaabbcoiiiaa
