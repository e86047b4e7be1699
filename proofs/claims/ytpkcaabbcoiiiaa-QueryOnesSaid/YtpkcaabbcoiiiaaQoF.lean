import Derived.Orders
import Derived.Below
import Derived.Deep.RegionHeld
import Derived.WalkKit
import Derived.KernelRfl
import Derived.Laws.Rows
import Derived.Laws.AppendOwn
import Derived.Laws.Strings
import Derived.Laws.Small
import Derived.Lib.Hide
import Derived.IntWalk
import Derived.Laws.Tables
import Derived.Laws.Concat
import Derived.Laws.MakeOwn
import Derived.Test.YtpkcaabbcoiiiaaProg
import Derived.Lib.TrailingZeros
import Derived.Test.YtpkcaabbcoiiiaaRows
import Derived.Lib.LaidTab
import Derived.Lib.ItoaNum
import Derived.Stop.LaidErr
import Derived.WalkSmall
import Derived.LaidMore
import Derived.Shelf.Spec.TrailingZeros
import Derived.Laws.BitsAllLaws
import Derived.Laws.Bits64
import Derived.Deep.QuietTactic
import Derived.BigQuiet
import Derived.RegionTactic
import Derived.BigRegion
import Derived.Deep.RegionHeld3
import Derived.ChangeAlike
import Derived.RangeFuncNested
import Derived.RangeFuncBound
import Derived.RangeFuncCalls
import Derived.RangeFuncLeaves
import Derived.Shelf.Abstract
import Derived.Shelf.RegionOpen
import Derived.OwnWalkIn
import Derived.TacticsInMore
import Derived.LoopNIn
import Derived.LoopIn
import Derived.Laws.Bits128
import Derived.Deep.AppendLies
import Derived.Maps.AppendAt
import Derived.Sort.Grow
import Derived.Ground.Names2Prog
import Derived.Shelf.Slices.Clone
import Derived.Lib.OthersKept
import Derived.Laws.IdiomStrings
import Derived.StillTailTactics
import Derived.Deep.RegionLaw
import Derived.Deep.DeepCutAuto
import Derived.Deep.CutRange
import Derived.Deep.RegionWith
import Derived.Laws.Bits64b
import Derived.Deep.DrawnRows
import Derived.Lib.SliceRun
import Derived.Laws.OwnMore
import Derived.OwnWalk
import Derived.WalkSpells
import Derived.Lib.Join
import Derived.Lib.OwnBridge
import Derived.WideKeyEntry
import Derived.DeepKeys4
import Derived.Lib.AppendZeros
import Derived.Lib.ItoaLen
import Derived.Lib.UnsafeStr
import Derived.Lib.AppendIntMem
import Derived.Deep.Slices
import Derived.Deep.Fields
import Derived.ChangeSame
import Derived.Lib.SmallJoins
import Derived.ChangeSlices
import Derived.ProofKit
import Derived.Test.YtpkcaabbcoiiiaaQoA
import Derived.Test.YtpkcaabbcoiiiaaQoB
import Derived.Test.YtpkcaabbcoiiiaaQoC
import Derived.Test.YtpkcaabbcoiiiaaQoD
import Derived.Test.YtpkcaabbcoiiiaaQoE
set_option maxRecDepth 100000
set_option maxHeartbeats 4000000
set_option linter.unusedVariables false
set_option linter.unusedVariables false
set_option linter.unusedSimpArgs false
set_option linter.unusedSectionVars false
set_option linter.unnecessarySimpa false
namespace Go.Proofs.Ytpkcaabbcoiiiaa
open Go Go.RowKit
theorem goes_39 : goesIn Try.prog 39 = true := by kernel_rfl
theorem goes_42 : goesIn Try.prog 42 = true := by kernel_rfl
theorem queryA_c (ds2 d2 : Nat) (p : PV) (S T : PS) (q : Bool) (ds d : Nat) (s : SV) (st sy : Int) (fa : Option Addr) (fl fc : Nat) (fs : List Int) (ta : Option Addr) (tl tc : Nat) (ts : List TV) (w : World) (hs : SIn w ds s) (hfrow : Row w fa fs) (hflen : fs.length = fl) (htrow : TRow w ta ts) (htlen : ts.length = tl) (htin : ∀ t ∈ ts, WIn w d t.x) (hfm : fl ≤ 9223372036854775807) (htm : tl ≤ 9223372036854775807) (hp : PvIn w ds2 d2 p) (hSS : pdsE p = 0 → SIs w S p.s.f) (hTT : spaceE s = 0 → SIs w T s.f) (hq : q = true ↔ S = T) :
  Calls Try.prog 15 #[p.val, .agg #[.int .i64 s.f.tag, .int .i64 s.f.dim, .slice s.f.a s.f.len s.f.cap, .int .i64 st, .int .i64 sy, .slice fa fl fc, .slice ta tl tc]] w (fun e w' => e = .returned (.int .i64 (queryE p ⟨s, st, sy, fa, fl, fc, fs, ta, tl, tc, ts⟩ q)) ∧ Below w.heap.size w w') := by
 refine enterF (args := [p.val, .agg #[.int .i64 s.f.tag, .int .i64 s.f.dim, .slice s.f.a s.f.len s.f.cap, .int .i64 st, .int .i64 sy, .slice fa fl fc, .slice ta tl tc]]) Try.func15 rfl Try.ntmps15 rfl ?_
 have hS := St.start w
 refine seqF (regF ?_)
 refine op_box (cs := [_, _, _, _, _, _]) hS rfl rfl rfl ?_
 clear hS; intro B1 W1 hS
 refine op_box (cs := [_, _, _, _, _, _, _]) hS rfl rfl rfl ?_
 clear hS; intro B2 W2 hS
 refine op_assign rfl rfl ?_
 refine endF (XF.thenN ?_)
 refine seqF ?_
 refine seqF (regF ?_)
 refine op_loadA (vs := [_, _, _, _, _, _]) Try.isAgg28 Try.sizeOf28 rfl (CellsAt.own (j := 0) (m := 6) (hS.at_ 1 rfl) rfl) rfl ?_
 refine op_call (vs := [_]) hS goes_30 rfl (pdsA_is ds2 d2 p _ (hp.below hS.below)) rfl ?_
 rintro e W3 ⟨rfl, hb⟩
 refine ⟨_, rfl, hb, fun hS' => ?_⟩
 clear hS; have hS := hS'; clear hS' hb
 refine op_assign rfl rfl ?_
 refine endF (XF.thenN ?_)
 refine seqF (regF ?_)
 refine op_move rfl rfl ?_
 refine op_neq rfl rfl rfl ?_
 refine endF (XF.thenN ?_)
 refine condF rfl (fun hc => ?_) (fun hc => ?_)
 ·have hc12 := of_decide_eq_true hc; clear hc
  refine seqF (regF ?_)
  refine op_move rfl rfl ?_
  refine op_assign rfl rfl ?_
  refine endF (XF.thenN ?_)
  refine retF ?_
  refine XF.thenR ?_
  refine XF.res (res1 Try.results15 rfl) ?_
  exact ⟨rint (by unfold queryE; rw [if_pos hc12]), hS.below⟩
 ·have hc12 := of_decide_eq_false hc; clear hc
  have h0 : ¬ pdsE p ≠ 0 := hc12
  have hp0 : pdsE p = 0 := by omega
  refine skipF ?_
  refine XF.thenN ?_
  refine seqF ?_
  refine seqF (regF ?_)
  refine op_loadA (vs := [_, _, _, _, _, _, _]) Try.isAgg60 Try.sizeOf60 rfl (CellsAt.own (j := 0) (m := 7) (hS.at_ 0 rfl) rfl) rfl ?_
  refine op_call (vs := [_]) hS goes_39 rfl (autoA_is ds d ⟨s, st, sy, fa, fl, fc, fs, ta, tl, tc, ts⟩ _ (AIn.below ⟨hs, hfrow, hflen, htrow, htlen, htin, hfm, htm⟩ hS.below)) rfl ?_
  rintro e W4 ⟨rfl, hb⟩
  refine ⟨_, rfl, hb, fun hS' => ?_⟩
  clear hS; have hS := hS'; clear hS' hb
  refine op_assign rfl rfl ?_
  refine endF (XF.thenN ?_)
  refine seqF (regF ?_)
  refine op_move rfl rfl ?_
  refine op_neq rfl rfl rfl ?_
  refine endF (XF.thenN ?_)
  refine condF rfl (fun hc => ?_) (fun hc => ?_)
  ·have hc17 := of_decide_eq_true hc; clear hc
   refine seqF (regF ?_)
   refine op_move rfl rfl ?_
   refine op_assign rfl rfl ?_
   refine endF (XF.thenN ?_)
   refine retF ?_
   refine XF.thenR ?_
   refine XF.res (res1 Try.results15 rfl) ?_
   exact ⟨rint (by unfold queryE; rw [if_neg h0, if_pos hc17]), hS.below⟩
  ·have hc17 := of_decide_eq_false hc; clear hc
   have h1 : ¬ autoE ⟨s, st, sy, fa, fl, fc, fs, ta, tl, tc, ts⟩ ≠ 0 := hc17
   have hse : spaceE s = 0 := by
    have h9 : autoE ⟨s, st, sy, fa, fl, fc, fs, ta, tl, tc, ts⟩ = 0 := by omega
    unfold autoE at h9
    by_cases h8 : spaceE s ≠ 0
    ·rw [if_pos h8] at h9; exact absurd h9 h8
    ·omega
   refine skipF ?_
   refine XF.thenN ?_
   refine seqF ?_
   refine seqF (regF ?_)
   refine op_field (o' := 0) fa_60_0 rfl rfl rfl ?_
   refine op_loadA (vs := [_, _, _]) Try.isAgg25 Try.sizeOf25 rfl (CellsAt.own (j := 0) (m := 3) (hS.at_ 0 rfl) rfl) rfl ?_
   refine op_field (o' := 0) fa_28_0 rfl rfl rfl ?_
   refine op_loadA (vs := [_, _, _]) Try.isAgg25 Try.sizeOf25 rfl (CellsAt.own (j := 0) (m := 3) (hS.at_ 1 rfl) rfl) rfl ?_
   refine op_call (vs := [_, _]) hS goes_40 rfl (sameSpA9 ((hTT hse).below hS.below) ((hSS hp0).below hS.below) q (hq.trans ⟨Eq.symm, Eq.symm⟩)) rfl ?_
   rintro e W5 ⟨rfl, hb⟩
   refine ⟨_, rfl, hb, fun hS' => ?_⟩
   clear hS; have hS := hS'; clear hS' hb
   refine op_not rfl rfl ?_
   refine op_move rfl rfl ?_
   refine op_cases (d := 25) rfl (fun hc => ?_) (fun hc => ?_)
   ·have hg25 := hc; clear hc
    have e1 : q = false := by simpa using hg25
    iterate 5 refine op_notF (d := 25) rfl rfl rfl rfl ?_
    refine op_pickT rfl rfl rfl ?_
    refine op_move rfl rfl ?_
    iterate 5 refine op_notF (d := 32) rfl rfl rfl rfl ?_
    refine op_pickT rfl rfl rfl ?_
    refine endF (XF.thenN ?_)
    refine condT rfl ?_
    refine seqF (regF ?_)
    refine op_assign rfl rfl ?_
    refine endF (XF.thenN ?_)
    refine retF ?_
    refine XF.thenR ?_
    refine XF.res (res1 Try.results15 rfl) ?_
    exact ⟨rint (by unfold queryE; rw [if_neg h0, if_neg h1, if_pos (Or.inl e1)]), hS.below⟩
   ·have hg25 := hc; clear hc
    have e1 : q = true := by simpa using hg25
    refine op_wantedF (d := 25) rfl rfl ?_
    refine op_field (o' := 4) fa_60_2 rfl rfl rfl ?_
    refine op_wantedF (d := 25) rfl rfl ?_
    refine op_load Try.isAgg3 rfl (cell_own (hS.at_ 0 rfl) rfl) rfl ?_
    refine op_wantedF (d := 25) rfl rfl ?_
    refine op_field (o' := 4) fa_28_2 rfl rfl rfl ?_
    refine op_wantedF (d := 25) rfl rfl ?_
    refine op_load Try.isAgg3 rfl (cell_own (hS.at_ 1 rfl) rfl) rfl ?_
    refine op_wantedF (d := 25) rfl rfl ?_
    refine op_neq rfl rfl rfl ?_
    refine op_pickF rfl rfl rfl ?_
    refine op_move rfl rfl ?_
    refine op_cases (d := 32) rfl (fun hc => ?_) (fun hc => ?_)
    ·have hg32 := of_decide_eq_true hc; clear hc
     iterate 5 refine op_notF (d := 32) rfl rfl rfl rfl ?_
     refine op_pickT rfl rfl rfl ?_
     refine endF (XF.thenN ?_)
     refine condT rfl ?_
     refine seqF (regF ?_)
     refine op_assign rfl rfl ?_
     refine endF (XF.thenN ?_)
     refine retF ?_
     refine XF.thenR ?_
     refine XF.res (res1 Try.results15 rfl) ?_
     exact ⟨rint (by unfold queryE; rw [if_neg h0, if_neg h1, if_pos (Or.inr (Or.inl hg32))]), hS.below⟩
    ·have hg32 := of_decide_eq_false hc; clear hc
     refine op_wantedF (d := 32) rfl rfl ?_
     refine op_field (o' := 3) fa_60_1 rfl rfl rfl ?_
     refine op_wantedF (d := 32) rfl rfl ?_
     refine op_load Try.isAgg3 rfl (cell_own (hS.at_ 0 rfl) rfl) rfl ?_
     refine op_wantedF (d := 32) rfl rfl ?_
     refine op_field (o' := 3) fa_28_1 rfl rfl rfl ?_
     refine op_wantedF (d := 32) rfl rfl ?_
     refine op_load Try.isAgg3 rfl (cell_own (hS.at_ 1 rfl) rfl) rfl ?_
     refine op_wantedF (d := 32) rfl rfl ?_
     refine op_lss rfl rfl rfl ?_
     refine op_pickF rfl rfl rfl ?_
     refine endF (XF.thenN ?_)
     refine condF rfl (fun hc => ?_) (fun hc => ?_)
     ·have hc38 := of_decide_eq_true hc; clear hc
      refine seqF (regF ?_)
      refine op_assign rfl rfl ?_
      refine endF (XF.thenN ?_)
      refine retF ?_
      refine XF.thenR ?_
      refine XF.res (res1 Try.results15 rfl) ?_
      exact ⟨rint (by unfold queryE; rw [if_neg h0, if_neg h1, if_pos (Or.inr (Or.inr hc38))]), hS.below⟩
     ·have hc38 := of_decide_eq_false hc; clear hc
      have h3 : ¬ (q = false ∨ sy ≠ p.sy ∨ st < p.st) := by rw [e1]; simp; omega
      refine skipF ?_
      refine XF.thenN ?_
      refine seqF ?_
      refine seqF (regF ?_)
      refine op_field (o' := 6) fa_60_4 rfl rfl rfl ?_
      refine op_load Try.isAgg58 rfl (cell_own (hS.at_ 0 rfl) rfl) rfl ?_
      refine op_len Try.underlying58 rfl rfl ?_
      refine op_move rfl rfl ?_
      refine endF (XF.thenN ?_)
      refine blockF ?_
      refine loopF (fun m l W => ∃ i : Nat, i ≤ tl ∧ m = tl - i ∧ l = [(2, .pointer (some ⟨B1, 0, none⟩)), (3, .pointer (some ⟨B2, 0, none⟩)), (40, .slice ta tl tc), (41, .int .i64 (tl : Int)), (42, .int .i64 (i : Int))] ∧ (ts.take i).all (qtrB p.st) = true ∧ St w [(B2, [.int .i64 s.f.tag, .int .i64 s.f.dim, .slice s.f.a s.f.len s.f.cap, .int .i64 st, .int .i64 sy, .slice fa fl fc, .slice ta tl tc], 60), (B1, p.six, 28)] [] [] W) (tl - 0) ([(2, _), (3, _), (40, _), (41, _), (42, _)]) ⟨rfl, rfl, rfl, rfl, rfl, trivial⟩ (⟨0, Nat.zero_le _, rfl, rfl, rfl, hS.clear⟩) ?_
      clear hS
      rintro m l W ⟨i, hi, rfl, rfl, hall, hS⟩
      refine seqF (regF ?_)
      refine op_lss rfl rfl rfl ?_
      refine endF (XF.thenN ?_)
      refine seqF ?_
      refine condF rfl (fun hc => ?_) (fun hc => ?_)
      ·have hc43 := of_decide_eq_true hc; clear hc
       have hk : i < tl := by omega
       obtain ⟨r, hr⟩ : ∃ r, ts[i]? = some r := ⟨ts[i]'(by omega), by simp [show i < ts.length by omega]⟩
       obtain ⟨b, off, rfl, hcs⟩ := htrow.at_ hr
       have k1 := CellsAt.agree hS.agree (Nat.zero_le _) hcs
       have hri := htin r (List.mem_of_getElem? hr)
       refine skipF ?_
       refine XF.thenN ?_
       refine seqF ?_
       refine blockF ?_
       refine seqF (regF ?_)
       refine op_indexA  Try.underlying58 Try.sizeOf100 rfl rfl rfl (by omega) rfl rfl ?_
       refine op_loadA (vs := [_, _, _, _, _, _, _, _, _]) Try.isAgg100 Try.sizeOf100 rfl (k1) rfl ?_
       refine op_alloc (cs := [_, _, _, _, _, _, _, _, _]) hS Try.zeroValue100 rfl rfl ?_
       clear hS; intro B6 W6 hS
       refine op_storeA (i := 0) (vs := [_, _, _, _, _, _, _, _, _]) (cs' := [_, _, _, _, _, _, _, _, _]) (O' := [_, _, _]) hS Try.sizeOf100 rfl rfl rfl rfl rfl rfl rfl ?_
       clear hS; intro W7 hS
       refine endF (XF.thenN ?_)
       refine seqF (regF ?_)
       refine op_field (o' := 1) fa_100_1 rfl rfl rfl ?_
       refine op_load Try.isAgg3 rfl (cell_own (hS.at_ 0 rfl) rfl) rfl ?_
       refine op_lss rfl rfl rfl ?_
       refine op_move rfl rfl ?_
       refine op_cases (d := 49) rfl (fun hc => ?_) (fun hc => ?_)
       ·have hg49 := of_decide_eq_true hc; clear hc
        iterate 5 refine op_notF (d := 49) rfl rfl rfl rfl ?_
        refine op_pickT rfl rfl rfl ?_
        refine endF (XF.thenN ?_)
        refine condT rfl ?_
        refine seqF (regF ?_)
        refine op_assign rfl rfl ?_
        refine endF (XF.thenN ?_)
        refine retF ?_
        refine XF.blkR ?_
        iterate 2 refine XF.thenR ?_
        refine XF.blkR ?_
        refine XF.thenR ?_
        refine XF.res (res1 Try.results15 rfl) ?_
        exact ⟨rint (by unfold queryE; rw [if_neg h0, if_neg h1, if_neg h3, if_neg (by rw [all_false_at hr (by simp [qtrB]; omega)]; decide)]), hS.below⟩
       ·have hg49 := of_decide_eq_false hc; clear hc
        refine op_wantedF (d := 49) rfl rfl ?_
        refine op_field (o' := 2) fa_100_2 rfl rfl rfl ?_
        refine op_wantedF (d := 49) rfl rfl ?_
        refine op_load Try.isAgg3 rfl (cell_own (hS.at_ 0 rfl) rfl) rfl ?_
        refine op_wantedF (d := 49) rfl rfl ?_
        refine op_field (o' := 3) fa_28_1 rfl rfl rfl ?_
        refine op_wantedF (d := 49) rfl rfl ?_
        refine op_load Try.isAgg3 rfl (cell_own (hS.at_ 2 rfl) rfl) rfl ?_
        refine op_wantedF (d := 49) rfl rfl ?_
        refine op_lss rfl rfl rfl ?_
        refine op_pickF rfl rfl rfl ?_
        refine endF (XF.thenN ?_)
        refine condF rfl (fun hc => ?_) (fun hc => ?_)
        ·have hc55 := of_decide_eq_true hc; clear hc
         refine seqF (regF ?_)
         refine op_assign rfl rfl ?_
         refine endF (XF.thenN ?_)
         refine retF ?_
         refine XF.blkR ?_
         iterate 2 refine XF.thenR ?_
         refine XF.blkR ?_
         refine XF.thenR ?_
         refine XF.res (res1 Try.results15 rfl) ?_
         exact ⟨rint (by unfold queryE; rw [if_neg h0, if_neg h1, if_neg h3, if_neg (by rw [all_false_at hr (by simp [qtrB]; omega)]; decide)]), hS.below⟩
        ·have hc55 := of_decide_eq_false hc; clear hc
         refine skipF ?_
         refine XF.blkN ?_
         refine XF.thenN ?_
         refine regF ?_
         refine op_add rfl rfl (IntWalk.i64_in _ (by omega)) rfl ?_
         refine op_move rfl rfl ?_
         refine endF ?_
         exact XF.round (tl - (i + 1)) [(2, _), (3, _), (40, _), (41, _), (42, _)] (by omega) ⟨rfl, rfl, rfl, rfl, rfl, trivial⟩ ⟨i + 1, by omega, rfl, rfl, all_take_at hr hall (by simp [qtrB]; omega), hS.tail.clear⟩
      ·have hc43 := of_decide_eq_false hc; clear hc
       rw [List.take_of_length_le (by omega)] at hall
       refine exitF ?_
       iterate 2 refine XF.thenX ?_
       refine XF.blkX ?_
       refine XF.thenN ?_
       refine seqF (regF ?_)
       refine op_assign rfl rfl ?_
       refine endF (XF.thenN ?_)
       refine retF ?_
       refine XF.res (res1 Try.results15 rfl) ?_
       exact ⟨rint (by unfold queryE; rw [if_neg h0, if_neg h1, if_neg h3, if_pos hall]), hS.below⟩
theorem queryR_c (ds2 d2 : Nat) (p : PV) (S T : PS) (q : Bool) (ds d : Nat) (s : SV) (st sy : Int) (fa : Option Addr) (fl fc : Nat) (fs : List Int) (ta : Option Addr) (tl tc : Nat) (ts : List TV) (w : World) (hs : SIn w ds s) (hfrow : Row w fa fs) (hflen : fs.length = fl) (htrow : TRow w ta ts) (htlen : ts.length = tl) (htin : ∀ t ∈ ts, WIn w d t.x) (hfm : fl ≤ 9223372036854775807) (htm : tl ≤ 9223372036854775807) (hp : PvIn w ds2 d2 p) (hSS : pdsE p = 0 → SIs w S p.s.f) (hTT : spaceE s = 0 → SIs w T s.f) (hq : q = true ↔ S = T) :
  Calls Try.prog 16 #[p.val, .agg #[.int .i64 s.f.tag, .int .i64 s.f.dim, .slice s.f.a s.f.len s.f.cap, .int .i64 st, .int .i64 sy, .slice fa fl fc, .slice ta tl tc]] w (fun e w' => e = .returned (.int .i64 (queryE p ⟨s, st, sy, fa, fl, fc, fs, ta, tl, tc, ts⟩ q)) ∧ Below w.heap.size w w') := by
 refine enterF (args := [p.val, .agg #[.int .i64 s.f.tag, .int .i64 s.f.dim, .slice s.f.a s.f.len s.f.cap, .int .i64 st, .int .i64 sy, .slice fa fl fc, .slice ta tl tc]]) Try.func16 rfl Try.ntmps16 rfl ?_
 have hS := St.start w
 refine seqF (regF ?_)
 refine op_box (cs := [_, _, _, _, _, _]) hS rfl rfl rfl ?_
 clear hS; intro B1 W1 hS
 refine op_box (cs := [_, _, _, _, _, _, _]) hS rfl rfl rfl ?_
 clear hS; intro B2 W2 hS
 refine op_assign rfl rfl ?_
 refine endF (XF.thenN ?_)
 refine seqF (regF ?_)
 refine op_loadA (vs := [_, _, _, _, _, _]) Try.isAgg28 Try.sizeOf28 rfl (CellsAt.own (j := 0) (m := 6) (hS.at_ 1 rfl) rfl) rfl ?_
 refine op_call (vs := [_]) hS goes_41 rfl (pdsR_is ds2 d2 p _ (hp.below hS.below)) rfl ?_
 rintro e W3 ⟨rfl, hb⟩
 refine ⟨_, rfl, hb, fun hS' => ?_⟩
 clear hS; have hS := hS'; clear hS' hb
 refine op_assign rfl rfl ?_
 refine endF (XF.thenN ?_)
 refine seqF ?_
 refine seqF (regF ?_)
 refine op_move rfl rfl ?_
 refine op_neq rfl rfl rfl ?_
 refine endF (XF.thenN ?_)
 refine condF rfl (fun hc => ?_) (fun hc => ?_)
 ·have hc11 := of_decide_eq_true hc; clear hc
  refine seqF (regF ?_)
  refine op_move rfl rfl ?_
  refine op_assign rfl rfl ?_
  refine endF (XF.thenN ?_)
  refine retF ?_
  refine XF.thenR ?_
  refine XF.res (res1 Try.results16 rfl) ?_
  exact ⟨rint (by unfold queryE; rw [if_pos hc11]), hS.below⟩
 ·have hc11 := of_decide_eq_false hc; clear hc
  have h0 : ¬ pdsE p ≠ 0 := hc11
  have hp0 : pdsE p = 0 := by omega
  refine skipF ?_
  refine XF.thenN ?_
  refine seqF (regF ?_)
  refine op_loadA (vs := [_, _, _, _, _, _, _]) Try.isAgg60 Try.sizeOf60 rfl (CellsAt.own (j := 0) (m := 7) (hS.at_ 0 rfl) rfl) rfl ?_
  refine op_call (vs := [_]) hS goes_42 rfl (autoR_is ds d ⟨s, st, sy, fa, fl, fc, fs, ta, tl, tc, ts⟩ _ (AIn.below ⟨hs, hfrow, hflen, htrow, htlen, htin, hfm, htm⟩ hS.below)) rfl ?_
  rintro e W4 ⟨rfl, hb⟩
  refine ⟨_, rfl, hb, fun hS' => ?_⟩
  clear hS; have hS := hS'; clear hS' hb
  refine op_assign rfl rfl ?_
  refine endF (XF.thenN ?_)
  refine seqF ?_
  refine seqF (regF ?_)
  refine op_move rfl rfl ?_
  refine op_neq rfl rfl rfl ?_
  refine endF (XF.thenN ?_)
  refine condF rfl (fun hc => ?_) (fun hc => ?_)
  ·have hc16 := of_decide_eq_true hc; clear hc
   refine seqF (regF ?_)
   refine op_move rfl rfl ?_
   refine op_assign rfl rfl ?_
   refine endF (XF.thenN ?_)
   refine retF ?_
   refine XF.thenR ?_
   refine XF.res (res1 Try.results16 rfl) ?_
   exact ⟨rint (by unfold queryE; rw [if_neg h0, if_pos hc16]), hS.below⟩
  ·have hc16 := of_decide_eq_false hc; clear hc
   have h1 : ¬ autoE ⟨s, st, sy, fa, fl, fc, fs, ta, tl, tc, ts⟩ ≠ 0 := hc16
   have hse : spaceE s = 0 := by
    have h9 : autoE ⟨s, st, sy, fa, fl, fc, fs, ta, tl, tc, ts⟩ = 0 := by omega
    unfold autoE at h9
    by_cases h8 : spaceE s ≠ 0
    ·rw [if_pos h8] at h9; exact absurd h9 h8
    ·omega
   refine skipF ?_
   refine XF.thenN ?_
   refine seqF ?_
   refine seqF (regF ?_)
   refine op_field (o' := 0) fa_28_0 rfl rfl rfl ?_
   refine op_loadA (vs := [_, _, _]) Try.isAgg25 Try.sizeOf25 rfl (CellsAt.own (j := 0) (m := 3) (hS.at_ 1 rfl) rfl) rfl ?_
   refine op_field (o' := 0) fa_60_0 rfl rfl rfl ?_
   refine op_loadA (vs := [_, _, _]) Try.isAgg25 Try.sizeOf25 rfl (CellsAt.own (j := 0) (m := 3) (hS.at_ 0 rfl) rfl) rfl ?_
   refine op_call (vs := [_, _]) hS goes_43 rfl (sameSpR9 ((hSS hp0).below hS.below) ((hTT hse).below hS.below) q hq) rfl ?_
   rintro e W5 ⟨rfl, hb⟩
   refine ⟨_, rfl, hb, fun hS' => ?_⟩
   clear hS; have hS := hS'; clear hS' hb
   refine op_not rfl rfl ?_
   refine op_move rfl rfl ?_
   refine op_cases (d := 24) rfl (fun hc => ?_) (fun hc => ?_)
   ·have hg24 := hc; clear hc
    have e1 : q = false := by simpa using hg24
    iterate 5 refine op_notF (d := 24) rfl rfl rfl rfl ?_
    refine op_pickT rfl rfl rfl ?_
    refine op_move rfl rfl ?_
    iterate 5 refine op_notF (d := 31) rfl rfl rfl rfl ?_
    refine op_pickT rfl rfl rfl ?_
    refine endF (XF.thenN ?_)
    refine condT rfl ?_
    refine seqF (regF ?_)
    refine op_assign rfl rfl ?_
    refine endF (XF.thenN ?_)
    refine retF ?_
    refine XF.thenR ?_
    refine XF.res (res1 Try.results16 rfl) ?_
    exact ⟨rint (by unfold queryE; rw [if_neg h0, if_neg h1, if_pos (Or.inl e1)]), hS.below⟩
   ·have hg24 := hc; clear hc
    have e1 : q = true := by simpa using hg24
    refine op_wantedF (d := 24) rfl rfl ?_
    refine op_field (o' := 4) fa_60_2 rfl rfl rfl ?_
    refine op_wantedF (d := 24) rfl rfl ?_
    refine op_load Try.isAgg3 rfl (cell_own (hS.at_ 0 rfl) rfl) rfl ?_
    refine op_wantedF (d := 24) rfl rfl ?_
    refine op_field (o' := 4) fa_28_2 rfl rfl rfl ?_
    refine op_wantedF (d := 24) rfl rfl ?_
    refine op_load Try.isAgg3 rfl (cell_own (hS.at_ 1 rfl) rfl) rfl ?_
    refine op_wantedF (d := 24) rfl rfl ?_
    refine op_neq rfl rfl rfl ?_
    refine op_pickF rfl rfl rfl ?_
    refine op_move rfl rfl ?_
    refine op_cases (d := 31) rfl (fun hc => ?_) (fun hc => ?_)
    ·have hg31 := of_decide_eq_true hc; clear hc
     iterate 5 refine op_notF (d := 31) rfl rfl rfl rfl ?_
     refine op_pickT rfl rfl rfl ?_
     refine endF (XF.thenN ?_)
     refine condT rfl ?_
     refine seqF (regF ?_)
     refine op_assign rfl rfl ?_
     refine endF (XF.thenN ?_)
     refine retF ?_
     refine XF.thenR ?_
     refine XF.res (res1 Try.results16 rfl) ?_
     exact ⟨rint (by unfold queryE; rw [if_neg h0, if_neg h1, if_pos (Or.inr (Or.inl hg31))]), hS.below⟩
    ·have hg31 := of_decide_eq_false hc; clear hc
     refine op_wantedF (d := 31) rfl rfl ?_
     refine op_field (o' := 3) fa_60_1 rfl rfl rfl ?_
     refine op_wantedF (d := 31) rfl rfl ?_
     refine op_load Try.isAgg3 rfl (cell_own (hS.at_ 0 rfl) rfl) rfl ?_
     refine op_wantedF (d := 31) rfl rfl ?_
     refine op_field (o' := 3) fa_28_1 rfl rfl rfl ?_
     refine op_wantedF (d := 31) rfl rfl ?_
     refine op_load Try.isAgg3 rfl (cell_own (hS.at_ 1 rfl) rfl) rfl ?_
     refine op_wantedF (d := 31) rfl rfl ?_
     refine op_lss rfl rfl rfl ?_
     refine op_pickF rfl rfl rfl ?_
     refine endF (XF.thenN ?_)
     refine condF rfl (fun hc => ?_) (fun hc => ?_)
     ·have hc37 := of_decide_eq_true hc; clear hc
      refine seqF (regF ?_)
      refine op_assign rfl rfl ?_
      refine endF (XF.thenN ?_)
      refine retF ?_
      refine XF.thenR ?_
      refine XF.res (res1 Try.results16 rfl) ?_
      exact ⟨rint (by unfold queryE; rw [if_neg h0, if_neg h1, if_pos (Or.inr (Or.inr hc37))]), hS.below⟩
     ·have hc37 := of_decide_eq_false hc; clear hc
      have h3 : ¬ (q = false ∨ sy ≠ p.sy ∨ st < p.st) := by rw [e1]; simp; omega
      refine skipF ?_
      refine XF.thenN ?_
      refine seqF ?_
      refine seqF (regF ?_)
      refine op_assign rfl rfl ?_
      refine endF (XF.thenN ?_)
      refine blockF ?_
      refine loopF (fun m l W => ∃ i : Nat, i ≤ tl ∧ m = tl - i ∧ l = [(2, .pointer (some ⟨B1, 0, none⟩)), (3, .pointer (some ⟨B2, 0, none⟩)), (7, .int .i64 (i : Int))] ∧ (ts.take i).all (qtrB p.st) = true ∧ St w [(B2, [.int .i64 s.f.tag, .int .i64 s.f.dim, .slice s.f.a s.f.len s.f.cap, .int .i64 st, .int .i64 sy, .slice fa fl fc, .slice ta tl tc], 60), (B1, p.six, 28)] [] [] W) (tl - 0) ([(2, _), (3, _), (7, _)]) ⟨rfl, rfl, rfl, trivial⟩ (⟨0, Nat.zero_le _, rfl, rfl, rfl, hS.clear⟩) ?_
      clear hS
      rintro m l W ⟨i, hi, rfl, rfl, hall, hS⟩
      refine seqF ?_
      refine seqF (regF ?_)
      refine op_move rfl rfl ?_
      refine op_field (o' := 6) fa_60_4 rfl rfl rfl ?_
      refine op_load Try.isAgg58 rfl (cell_own (hS.at_ 0 rfl) rfl) rfl ?_
      refine op_len Try.underlying58 rfl rfl ?_
      refine op_lss rfl rfl rfl ?_
      refine endF (XF.thenN ?_)
      refine condF rfl (fun hc => ?_) (fun hc => ?_)
      ·have hc42 := of_decide_eq_true hc; clear hc
       have hk : i < tl := by omega
       obtain ⟨r, hr⟩ : ∃ r, ts[i]? = some r := ⟨ts[i]'(by omega), by simp [show i < ts.length by omega]⟩
       obtain ⟨b, off, rfl, hcs⟩ := htrow.at_ hr
       have k1 := CellsAt.agree hS.agree (Nat.zero_le _) hcs
       have hri := htin r (List.mem_of_getElem? hr)
       refine skipF ?_
       refine XF.thenN ?_
       refine seqF ?_
       refine blockF ?_
       refine seqF ?_
       by_cases hg0 : r.g < 0
       ·skip
        refine regB (m := 18) followsM hS (by kernel_rfl) (by kernel_rfl) rfl ?_
        refine bl_cons 1 rfl (isV _) (stab_isV _) (rgV (li := [(3, _)]) rfl (w_free rfl) ⟨g_fr (by kernel_rfl) rfl, trivial⟩ (fun w hw => rn_field (o' := 6) fa_60_4 rfl rfl) (at_top rfl)) ?_
        refine bl_cons 2 rfl (isV _) (stab_isV _) (rgV (li := [(45, _)]) rfl (w_free rfl) ⟨g_dep 0 (by kernel_rfl) (at_dep rfl rfl rfl), trivial⟩ (fun w hw => rn_load Try.isAgg58 rfl ((below_agree hw 0).cell (Nat.zero_le _) (cell_own (hS.at_ 0 rfl) rfl))) (at_top rfl)) ?_
        refine bl_cons 3 rfl (isV _) (stab_isV _) (rgV (li := [(7, _)]) rfl (w_free rfl) ⟨g_fr (by kernel_rfl) rfl, trivial⟩ (fun w hw => rn_move rfl) (at_top rfl)) ?_
        refine bl_cons 4 rfl (isV _) (stab_isV _) (rgV (li := [(46, _), (47, _)]) rfl (w_free rfl) ⟨g_dep 1 (by kernel_rfl) (at_dep rfl rfl rfl), g_dep 2 (by kernel_rfl) (at_dep rfl rfl rfl), trivial⟩ (fun w hw => rn_indexA  Try.underlying58 Try.sizeOf100 rfl rfl rfl (by omega) rfl) (at_top rfl)) ?_
        refine bl_cons 5 rfl (isV _) (stab_isV _) (rgV (li := [(48, _)]) rfl (w_free rfl) ⟨g_dep 3 (by kernel_rfl) (at_dep rfl rfl rfl), trivial⟩ (fun w hw => rn_field fa_100_1 rfl rfl) (at_top rfl)) ?_
        refine bl_cons 6 rfl (isV _) (stab_isV _) (rgV (li := [(49, _)]) rfl (w_free rfl) ⟨g_dep 4 (by kernel_rfl) (at_dep rfl rfl rfl), trivial⟩ (fun w hw => rn_load Try.isAgg3 rfl ((below_agree hw 0).cell (Nat.zero_le _) (k1.2.1))) (at_top rfl)) ?_
        refine bl_cons 7 rfl (isV (.bool true)) (stab_isV _) (rgVe (li := [(50, _)]) rfl (w_free rfl) ⟨g_dep 5 (by kernel_rfl) (at_dep rfl rfl rfl), trivial⟩ (fun w hw => rn_lss rfl rfl) (by rw [decide_eq_true hg0]) (at_top rfl)) ?_
        refine bl_cons 8 rfl (isV _) (stab_isV _) (rgV (li := [(51, _)]) rfl (w_free rfl) ⟨g_dep 6 (by kernel_rfl) (at_dep rfl rfl rfl), trivial⟩ (fun w hw => rn_move rfl) (at_top rfl)) ?_
        refine bl_cons 9 rfl (isV undef) (stab_isV _) (rg_no rfl (w_no 52 rfl (by kernel_rfl) (by kernel_rfl) (at_dep rfl rfl rfl) rfl) (at_top rfl)) ?_
        refine bl_cons 10 rfl (isV undef) (stab_isV _) (rg_no rfl (w_no 52 rfl (by kernel_rfl) (by kernel_rfl) (at_dep rfl rfl rfl) rfl) (at_top rfl)) ?_
        refine bl_cons 11 rfl (isV undef) (stab_isV _) (rg_no rfl (w_no 52 rfl (by kernel_rfl) (by kernel_rfl) (at_dep rfl rfl rfl) rfl) (at_top rfl)) ?_
        refine bl_cons 12 rfl (isV undef) (stab_isV _) (rg_no rfl (w_no 52 rfl (by kernel_rfl) (by kernel_rfl) (at_dep rfl rfl rfl) rfl) (at_top rfl)) ?_
        refine bl_cons 13 rfl (isV undef) (stab_isV _) (rg_no rfl (w_no 52 rfl (by kernel_rfl) (by kernel_rfl) (at_dep rfl rfl rfl) rfl) (at_top rfl)) ?_
        refine bl_cons 14 rfl (isV undef) (stab_isV _) (rg_no rfl (w_no 52 rfl (by kernel_rfl) (by kernel_rfl) (at_dep rfl rfl rfl) rfl) (at_top rfl)) ?_
        refine bl_cons 15 rfl (isV undef) (stab_isV _) (rg_no rfl (w_no 52 rfl (by kernel_rfl) (by kernel_rfl) (at_dep rfl rfl rfl) rfl) (at_top rfl)) ?_
        refine bl_cons 16 rfl (isV undef) (stab_isV _) (rg_no rfl (w_no 52 rfl (by kernel_rfl) (by kernel_rfl) (at_dep rfl rfl rfl) rfl) (at_top rfl)) ?_
        refine bl_cons 17 rfl (isV undef) (stab_isV _) (rg_no rfl (w_no 52 rfl (by kernel_rfl) (by kernel_rfl) (at_dep rfl rfl rfl) rfl) (at_top rfl)) ?_
        refine bl_cons 18 rfl (isV _) (stab_isV _) (rgV (li := [(52, _)]) rfl (w_free rfl) ⟨g_dep 7 (by kernel_rfl) (at_dep rfl rfl rfl), trivial⟩ (fun w hw => rn_pickT rfl rfl) (at_top rfl)) ?_
        refine bl_nil ?_
        intro W6 hbR hS'
        clear hS; have hS := hS'; clear hS'
        iterate 18 refine fin_v ?_
        refine fin_nil ?_
        refine XF.thenN ?_
        refine condT rfl ?_
        refine seqF (regF ?_)
        refine op_assign rfl rfl ?_
        refine endF (XF.thenN ?_)
        refine retF ?_
        refine XF.blkR ?_
        iterate 2 refine XF.thenR ?_
        refine XF.blkR ?_
        refine XF.thenR ?_
        refine XF.res (res1 Try.results16 rfl) ?_
        exact ⟨rint (by unfold queryE; rw [if_neg h0, if_neg h1, if_neg h3, if_neg (by rw [all_false_at hr (by simp [qtrB]; omega)]; decide)]), hS.below⟩
       ·skip
        refine regB (m := 18) followsM hS (by kernel_rfl) (by kernel_rfl) rfl ?_
        refine bl_cons 1 rfl (isV _) (stab_isV _) (rgV (li := [(3, _)]) rfl (w_free rfl) ⟨g_fr (by kernel_rfl) rfl, trivial⟩ (fun w hw => rn_field (o' := 6) fa_60_4 rfl rfl) (at_top rfl)) ?_
        refine bl_cons 2 rfl (isV _) (stab_isV _) (rgV (li := [(45, _)]) rfl (w_free rfl) ⟨g_dep 0 (by kernel_rfl) (at_dep rfl rfl rfl), trivial⟩ (fun w hw => rn_load Try.isAgg58 rfl ((below_agree hw 0).cell (Nat.zero_le _) (cell_own (hS.at_ 0 rfl) rfl))) (at_top rfl)) ?_
        refine bl_cons 3 rfl (isV _) (stab_isV _) (rgV (li := [(7, _)]) rfl (w_free rfl) ⟨g_fr (by kernel_rfl) rfl, trivial⟩ (fun w hw => rn_move rfl) (at_top rfl)) ?_
        refine bl_cons 4 rfl (isV _) (stab_isV _) (rgV (li := [(46, _), (47, _)]) rfl (w_free rfl) ⟨g_dep 1 (by kernel_rfl) (at_dep rfl rfl rfl), g_dep 2 (by kernel_rfl) (at_dep rfl rfl rfl), trivial⟩ (fun w hw => rn_indexA  Try.underlying58 Try.sizeOf100 rfl rfl rfl (by omega) rfl) (at_top rfl)) ?_
        refine bl_cons 5 rfl (isV _) (stab_isV _) (rgV (li := [(48, _)]) rfl (w_free rfl) ⟨g_dep 3 (by kernel_rfl) (at_dep rfl rfl rfl), trivial⟩ (fun w hw => rn_field fa_100_1 rfl rfl) (at_top rfl)) ?_
        refine bl_cons 6 rfl (isV _) (stab_isV _) (rgV (li := [(49, _)]) rfl (w_free rfl) ⟨g_dep 4 (by kernel_rfl) (at_dep rfl rfl rfl), trivial⟩ (fun w hw => rn_load Try.isAgg3 rfl ((below_agree hw 0).cell (Nat.zero_le _) (k1.2.1))) (at_top rfl)) ?_
        refine bl_cons 7 rfl (isV (.bool false)) (stab_isV _) (rgVe (li := [(50, _)]) rfl (w_free rfl) ⟨g_dep 5 (by kernel_rfl) (at_dep rfl rfl rfl), trivial⟩ (fun w hw => rn_lss rfl rfl) (by rw [decide_eq_false hg0]) (at_top rfl)) ?_
        refine bl_cons 8 rfl (isV _) (stab_isV _) (rgV (li := [(51, _)]) rfl (w_free rfl) ⟨g_dep 6 (by kernel_rfl) (at_dep rfl rfl rfl), trivial⟩ (fun w hw => rn_move rfl) (at_top rfl)) ?_
        refine bl_cons 9 rfl (isV _) (stab_isV _) (rgV (li := [(3, _)]) rfl (w_yes 52 rfl (by kernel_rfl) (by kernel_rfl) (at_dep rfl rfl rfl)) ⟨g_fr (by kernel_rfl) rfl, trivial⟩ (fun w hw => rn_field (o' := 6) fa_60_4 rfl rfl) (at_top rfl)) ?_
        refine bl_cons 10 rfl (isV _) (stab_isV _) (rgV (li := [(53, _)]) rfl (w_yes 52 rfl (by kernel_rfl) (by kernel_rfl) (at_dep rfl rfl rfl)) ⟨g_dep 8 (by kernel_rfl) (at_dep rfl rfl rfl), trivial⟩ (fun w hw => rn_load Try.isAgg58 rfl ((below_agree hw 0).cell (Nat.zero_le _) (cell_own (hS.at_ 0 rfl) rfl))) (at_top rfl)) ?_
        refine bl_cons 11 rfl (isV _) (stab_isV _) (rgV (li := [(7, _)]) rfl (w_yes 52 rfl (by kernel_rfl) (by kernel_rfl) (at_dep rfl rfl rfl)) ⟨g_fr (by kernel_rfl) rfl, trivial⟩ (fun w hw => rn_move rfl) (at_top rfl)) ?_
        refine bl_cons 12 rfl (isV _) (stab_isV _) (rgV (li := [(54, _), (55, _)]) rfl (w_yes 52 rfl (by kernel_rfl) (by kernel_rfl) (at_dep rfl rfl rfl)) ⟨g_dep 9 (by kernel_rfl) (at_dep rfl rfl rfl), g_dep 10 (by kernel_rfl) (at_dep rfl rfl rfl), trivial⟩ (fun w hw => rn_indexA  Try.underlying58 Try.sizeOf100 rfl rfl rfl (by omega) rfl) (at_top rfl)) ?_
        refine bl_cons 13 rfl (isV _) (stab_isV _) (rgV (li := [(56, _)]) rfl (w_yes 52 rfl (by kernel_rfl) (by kernel_rfl) (at_dep rfl rfl rfl)) ⟨g_dep 11 (by kernel_rfl) (at_dep rfl rfl rfl), trivial⟩ (fun w hw => rn_field fa_100_2 rfl rfl) (at_top rfl)) ?_
        refine bl_cons 14 rfl (isV _) (stab_isV _) (rgV (li := [(57, _)]) rfl (w_yes 52 rfl (by kernel_rfl) (by kernel_rfl) (at_dep rfl rfl rfl)) ⟨g_dep 12 (by kernel_rfl) (at_dep rfl rfl rfl), trivial⟩ (fun w hw => rn_load Try.isAgg3 rfl ((below_agree hw 0).cell (Nat.zero_le _) (k1.2.2.1))) (at_top rfl)) ?_
        refine bl_cons 15 rfl (isV _) (stab_isV _) (rgV (li := [(2, _)]) rfl (w_yes 52 rfl (by kernel_rfl) (by kernel_rfl) (at_dep rfl rfl rfl)) ⟨g_fr (by kernel_rfl) rfl, trivial⟩ (fun w hw => rn_field (o' := 3) fa_28_1 rfl rfl) (at_top rfl)) ?_
        refine bl_cons 16 rfl (isV _) (stab_isV _) (rgV (li := [(59, _)]) rfl (w_yes 52 rfl (by kernel_rfl) (by kernel_rfl) (at_dep rfl rfl rfl)) ⟨g_dep 14 (by kernel_rfl) (at_dep rfl rfl rfl), trivial⟩ (fun w hw => rn_load Try.isAgg3 rfl ((below_agree hw 0).cell (Nat.zero_le _) (cell_own (hS.at_ 1 rfl) rfl))) (at_top rfl)) ?_
        refine bl_cons 17 rfl (isV _) (stab_isV _) (rgV (li := [(58, _), (60, _)]) rfl (w_yes 52 rfl (by kernel_rfl) (by kernel_rfl) (at_dep rfl rfl rfl)) ⟨g_dep 13 (by kernel_rfl) (at_dep rfl rfl rfl), g_dep 15 (by kernel_rfl) (at_dep rfl rfl rfl), trivial⟩ (fun w hw => rn_lss rfl rfl) (at_top rfl)) ?_
        refine bl_cons 18 rfl (isV _) (stab_isV _) (rgV (li := [(52, _), (61, _)]) rfl (w_free rfl) ⟨g_dep 7 (by kernel_rfl) (at_dep rfl rfl rfl), g_dep 16 (by kernel_rfl) (at_dep rfl rfl rfl), trivial⟩ (fun w hw => rn_pickF rfl rfl) (at_top rfl)) ?_
        refine bl_nil ?_
        intro W7 hbR hS'
        clear hS; have hS := hS'; clear hS'
        iterate 18 refine fin_v ?_
        refine fin_nil ?_
        refine XF.thenN ?_
        refine condF rfl (fun hc => ?_) (fun hc => ?_)
        ·have hc62 := hc; clear hc
         have hlt := of_decide_eq_true hc62
         refine seqF (regF ?_)
         refine op_assign rfl rfl ?_
         refine endF (XF.thenN ?_)
         refine retF ?_
         refine XF.blkR ?_
         iterate 2 refine XF.thenR ?_
         refine XF.blkR ?_
         refine XF.thenR ?_
         refine XF.res (res1 Try.results16 rfl) ?_
         exact ⟨rint (by unfold queryE; rw [if_neg h0, if_neg h1, if_neg h3, if_neg (by rw [all_false_at hr (by simp [qtrB]; omega)]; decide)]), hS.below⟩
        ·have hc62 := hc; clear hc
         have hlt := of_decide_eq_false hc62
         refine skipF ?_
         refine XF.blkN ?_
         refine XF.thenN ?_
         refine regF ?_
         refine op_move rfl rfl ?_
         refine op_add rfl rfl (IntWalk.i64_in _ (by omega)) rfl ?_
         refine op_assign rfl rfl ?_
         refine endF ?_
         exact XF.round (tl - (i + 1)) [(2, _), (3, _), (7, _)] (by omega) ⟨rfl, rfl, rfl, trivial⟩ ⟨i + 1, by omega, rfl, rfl, all_take_at hr hall (by simp [qtrB]; omega), hS.clear⟩
      ·have hc42 := of_decide_eq_false hc; clear hc
       rw [List.take_of_length_le (by omega)] at hall
       refine exitF ?_
       iterate 2 refine XF.thenX ?_
       refine XF.blkX ?_
       refine XF.thenN ?_
       refine seqF (regF ?_)
       refine op_assign rfl rfl ?_
       refine endF (XF.thenN ?_)
       refine retF ?_
       refine XF.res (res1 Try.results16 rfl) ?_
       exact ⟨rint (by unfold queryE; rw [if_neg h0, if_neg h1, if_neg h3, if_pos hall]), hS.below⟩
theorem queryR_is (ds2 d2 ds d : Nat) (p : PV) (S T : PS) (q : Bool) (a : AV) (w : World) (hp : PvIn w ds2 d2 p) (h : AIn w ds d a) (hSS : pdsE p = 0 → SIs w S p.s.f) (hTT : spaceE a.s = 0 → SIs w T a.s.f) (hq : q = true ↔ S = T) : Calls Try.prog 16 #[p.val, a.val] w (fun e w' => e = .returned (.int .i64 (queryE p a q)) ∧ Below w.heap.size w w') := queryR_c ds2 d2 p S T q ds d _ _ _ _ _ _ _ _ _ _ _ w h.s h.frow h.flen h.trow h.tlen h.tin h.fmax h.tmax hp hSS hTT hq
end Go.Proofs.Ytpkcaabbcoiiiaa
namespace Go.Proofs.Ytpkcaabbcoiiiaa
open Go Go.RowKit
def GivesA (lo : Nat) (p : Asr) (w : World) : Ending → World → Prop := fun e w' => ∃ v, e = .returned v ∧ (∀ w2, Agree lo w' w2 → p v w2) ∧ Below w.heap.size w w'
section
variable {P : Program} {n : Nat} {Q : Exit → Act → World → Prop} {l : Fr} {w0 W : World} {ops : Array Oper} {os : List Oper} {K : List (Nat × World)} {L : List Asr} {i : Nat}
variable {ca : Nat → Option Value → List Value} {ta : Nat → TypeId} {Os : Option Value → Own} {Gs : Option Value → Grows} {lo ef jy : Nat} {s : Sg}
variable {d : Nat} {op : Op} {ty : TypeId} {pos : String} {aft_ : Array Edge} {v : Value} {gd : Option (Nat × Bool)}
theorem sg_callA {f : FuncId} {xs : List Operand} {ts : Array TypeId} (ps : List Asr) (hX : ∀ ev b, lo ≤ b → ¬ XB (Os ev) (Gs ev) b) (hie : Nat.beq i ef = false) (hij : earlyJ ops ef jy i = true) (hi : ops[i]? = some ⟨some d, .call { callee := .value (.func f), args := xs.toArray, argTypes := ts }, ty, pos, aft_, gd⟩) (hNo : NoAsr [] ef L) (hgo : goesIn P f = true)
  (hw : Wants ops L i ⟨some d, .call { callee := .value (.func f), args := xs.toArray, argTypes := ts }, ty, pos, aft_, gd⟩) (hp : AllP n ops l L i xs ps)
  {p : Asr} (hc : ∀ vs ev w, (earlyE ops ef i = true → ev = none) → St w0 (Os ev) (Gs ev) K w → lo ≤ w.heap.size → Holds ps vs w → Calls P f vs.toArray w (GivesA lo p w)) (hI : atI L i = p) : SG P n ops Q l w0 K lo [] ef jy ca ta Os Gs L i := fun t0 h0 s LB a w hF hG hV hs hcl hr hD => by
 have hnil : s.bs = [] := by
  cases hb : s.bs with
  | nil => rfl
  | cons q r => have := hV.2.1 q (by rw [hb]; exact List.mem_cons_self); cases this
 have hD' := deps_has h0 hF hD (fun j d _ hj => hNo j hj)
 have hS : St w0 (Os s.ev) (Gs s.ev) K w := St.drops _ hG.1
 have h1 := hc (xs.map a.eval) s.ev w (fun he => ev_none hV hs hcl hr.1 he) hS hG.2.1 (allP_holds h0 hF hD' hp)
 rw [show (xs.map a.eval).toArray = xs.toArray.map a.eval by simp] at h1
 unfold wpOp
 simp only [hi, hw.yes hD', if_true]
 refine .inl ?_
 unfold Oper.wp
 rw [run_call P a.eval w f xs.toArray ts _ rfl rfl hgo, Oper.upon_enter]
 refine h1.mono ?_
 rintro e w' ⟨v, rfl, hv, hb⟩
 have hA : AwS lo (XB (OE ca ta Os s) (Gs s.ev)) (atI L i) v w' := by
  rw [hI]
  intro w2 h2
  refine hv w2 ⟨h2.2.1, fun b h3 h4 => h2.2.2 b h3 h4 (fun hx => hX s.ev b h3 ?_)⟩
  unfold OE at hx
  rw [hnil] at hx
  exact hx
 have hie' : i ≠ ef := fun e => by rw [e, Nat.beq_refl] at hie; cases hie
 refine ⟨s, v, by simp, vg_other hV (List.not_mem_nil) hie', ⟨hG.1.grow hb, Nat.le_trans hG.2.1 hb.size, hG.2.2⟩, Tr.refl hb, fun _ _ => ⟨(fun h => absurd h List.not_mem_nil), (fun e => absurd e hie'), (fun h y hy => by rw [ev_none hV hs hcl hr.1 (earlyJ_of hij h)] at hy; cases hy), fun _ _ => hA⟩⟩
end
theorem osY_lt {O : Own} {j jx B lo : Nat} {cs : List Value} {U : TypeId} (h : ∀ p ∈ O, p.1 < lo) (hB : B < lo) : ∀ (ev : Option Value) b, lo ≤ b → ¬ XB (osY O j jx B cs U ev) (gsNo [] ev) b := by
 intro ev b h1 hx
 cases ev with
 | none =>
  rcases hx with ⟨p, hp, rfl⟩ | ⟨g, hg, _⟩
  ·exact absurd (h p hp) (Nat.not_lt_of_le h1)
  ·cases hg
 | some y => exact xb_lt (hi := b + 1) h hB b h1 (Nat.lt_succ_self b) hx
theorem splice_mid : ∀ (A old new B : List Value), old.length = new.length → splice (A ++ old ++ B) A.length new = A ++ new ++ B
 | A, [], [], B, _ => by simp [splice]
 | A, [], _ :: _, B, h => by simp at h
 | A, _ :: _, [], B, h => by simp at h
 | A, o :: old, v :: new, B, h => by
  have h9 := splice_mid (A ++ [v]) old new B (by simpa using h)
  simp only [splice]
  have e : (A ++ o :: old ++ B).set A.length v = (A ++ [v]) ++ old ++ B := by simp [List.set_append]
  rw [e]
  simpa using h9
theorem sixes_len (fs : List WF) : (fs.flatMap WF.six).length = fs.length * 6 := by
 induction fs with
 | nil => rfl
 | cons f r ih => rw [List.flatMap_cons, List.length_append, ih]; simp only [List.length_cons, List.length_nil]; omega
theorem sixes_split {fs : List WF} {i : Nat} {f : WF} (h : fs[i]? = some f) : fs.flatMap WF.six = (fs.take i).flatMap WF.six ++ f.six ++ (fs.drop (i + 1)).flatMap WF.six := by
 have hl := (List.getElem?_eq_some_iff.1 h).1
 have e : fs = fs.take i ++ f :: fs.drop (i + 1) := by
  have h1 := (List.take_append_drop i fs).symm
  rw [List.drop_eq_getElem_cons hl, (List.getElem?_eq_some_iff.1 h).2] at h1
  exact h1
 have e2 := congrArg (fun l => List.flatMap WF.six l) e
 simp only [List.flatMap_append, List.flatMap_cons] at e2
 rw [List.append_assoc]
 exact e2
theorem take_len6 {fs : List WF} {i : Nat} (h : i < fs.length) : ((fs.take i).flatMap WF.six).length = 0 + i * 6 := by
 rw [sixes_len, List.length_take]; omega
theorem six_take {fs : List WF} {cs : List Value} {i : Nat} {f : WF} (h : fs[i]? = some f) : ((fs.flatMap WF.six ++ cs).drop (0 + i * 6)).take 6 = f.six := by
 rw [sixes_split h, ← take_len6 (List.getElem?_eq_some_iff.1 h).1, List.append_assoc, List.append_assoc, List.drop_left]
 rfl
theorem six_splice {fs : List WF} {cs : List Value} {i : Nat} {f g : WF} (h : fs[i]? = some f) : splice (fs.flatMap WF.six ++ cs) (0 + i * 6) g.six = (fs.set i g).flatMap WF.six ++ cs := by
 have hl := (List.getElem?_eq_some_iff.1 h).1
 have h2 : (fs.set i g)[i]? = some g := by rw [List.getElem?_set_self hl]
 rw [sixes_split h, sixes_split h2, ← take_len6 hl, List.append_assoc _ _ cs, splice_mid _ f.six g.six _ rfl]
 rw [List.take_set_of_le (Nat.le_refl _), List.drop_set_of_lt (Nat.lt_succ_self _)]
 simp [List.append_assoc]
theorem frow_own {W : World} {b : Nat} {fs : List WF} {cs : List Value} {T : TypeId} (h : W.heap[b]? = some (.cells (fs.flatMap WF.six ++ cs).toArray T (0, 0))) : FRow W (some ⟨b, 0, none⟩) fs := .inr ⟨b, 0, rfl, fun i f hi => w6_atL (CellsAt.own (j := 0 + i * 6) (m := 6) h (six_take hi))⟩
theorem frow_grow {W : World} {lo n c : Nat} {a : Option Addr} {fs : List WF} {T : TypeId} (h : W.ownsRow lo T 6 (.slice a n c) n (fs.flatMap WF.six)) : FRow W a fs := by
 rcases ownsRow_cells h with ⟨_, h2⟩ | ⟨b, rfl, _, hc⟩
 ·have h3 := h.1
  rw [sixes_len, h2] at h3
  exact .inl (List.eq_nil_of_length_eq_zero (by omega))
 ·refine .inr ⟨b, 0, rfl, fun i f hi => w6_atL (CellsAt.of fun j v hj => hc _ _ ?_)⟩
  have e := six_take (cs := []) hi
  rw [List.append_nil] at e
  have hj6 : j < 6 := (List.getElem?_eq_some_iff.1 hj).1
  rw [← e, List.getElem?_take, if_pos hj6, List.getElem?_drop] at hj
  exact hj
theorem St.rowOwn {w0 W : World} {O : Own} {K : List (Nat × World)} {a : Option Addr} {n c : Nat} {xs : List Value} {T : TypeId} {sz : Nat} (h : St w0 O [⟨.slice a n c, n, xs, T, sz⟩] K W) (hn : 0 < n) : ∃ (b : Nat) (cs : List Value), a = some ⟨b, 0, none⟩ ∧ St w0 ((b, xs ++ cs, T) :: O) [] K W := by
 obtain ⟨hrow, hap⟩ := h.rows _ List.mem_cons_self
 dsimp only at hrow hap
 rcases hrow.2 with ⟨_, e2⟩ | ⟨g, cap, cur, e1, hg, hh, hn2, hm, hs, ht⟩
 ·omega
 ·injection e1 with e1 _ _
  subst e1
  obtain ⟨ho, hq⟩ := hap g rfl
  refine ⟨g, cur.toList.drop (n * sz), rfl, h.below, fun p hp => ?_, List.Pairwise.cons (fun p hp e => ho p hp e.symm) h.dist, fun q hq' => ⟨(h.kept q hq').1, fun p hp => ?_⟩, (fun g hg => by cases hg), List.Pairwise.nil⟩
  ·rcases List.mem_cons.1 hp with rfl | hp
   ·refine ⟨hg, ?_⟩
    dsimp only
    rw [← ht, List.take_append_drop, Array.toArray_toList]
    exact hh
   ·exact h.own p hp
  ·rcases List.mem_cons.1 hp with rfl | hp
   ·exact hq q hq'
   ·exact (h.kept q hq').2 p hp
def extB (S : PS) (b : Bool) (x y : PX) : PX := if b then extX S y x else extX S x y
def finI (fs : List Int) (n : Int) : Bool := fs.any (fun y => decide (y = n))
def endsF (S : PS) (fs : List Int) (n : Nat) : List PX := (List.range n).map (fun (s : Nat) => if finI fs (s : Int) then oneX S else zeroX S)
theorem endsF_succ (S : PS) (fs : List Int) (n : Nat) : endsF S fs (n + 1) = endsF S fs n ++ [if finI fs (n : Int) then oneX S else zeroX S] := by
 unfold endsF; rw [List.range_succ, List.map_append]; rfl
def stepF (S : PS) (back : Bool) (sy : Int) (l acc : List PX) (f g t : Int) (z : PX) : List PX :=
 if g = sy then acc.set f.toNat (combX S (acc.getD f.toNat (zeroX S)) (extB S back z (l.getD t.toNat (zeroX S)))) else acc
def restF (S : PS) (back : Bool) (sy : Int) (l : List PX) (py : TV → PX) (n : Nat) (ts : List TV) : List PX := ts.foldl (fun acc t => stepF S back sy l acc t.f t.g t.t (py t)) (List.replicate n (zeroX S))
theorem stepF_len {S : PS} {back : Bool} {sy : Int} {l acc : List PX} {f g t : Int} {z : PX} : (stepF S back sy l acc f g t z).length = acc.length := by
 unfold stepF; split <;> simp
theorem foldF_len {S : PS} {back : Bool} {sy : Int} {l : List PX} {py : TV → PX} : ∀ (ts : List TV) (acc : List PX), (ts.foldl (fun acc t => stepF S back sy l acc t.f t.g t.t (py t)) acc).length = acc.length
 | [], _ => rfl
 | t :: ts, acc => by rw [List.foldl_cons, foldF_len ts, stepF_len]
theorem restF_len {S : PS} {back : Bool} {sy : Int} {l : List PX} {py : TV → PX} {n : Nat} {ts : List TV} : (restF S back sy l py n ts).length = n := by
 unfold restF; rw [foldF_len, List.length_replicate]
theorem restF_take {S : PS} {back : Bool} {sy : Int} {l : List PX} {py : TV → PX} {n : Nat} {ts : List TV} {i : Nat} {t : TV} (h : ts[i]? = some t) : restF S back sy l py n (ts.take (i + 1)) = stepF S back sy l (restF S back sy l py n (ts.take i)) t.f t.g t.t (py t) := by
 unfold restF
 rw [List.take_add_one, h, List.foldl_append]; rfl
theorem xlf_app {M : World → Prop} {S : PS} {fs : List WF} {xs : List PX} {f : WF} {x : PX} (h : XLF M S fs xs) (hx : FarX M S f x) : XLF M S (fs ++ [f]) (xs ++ [x]) := ⟨by rw [List.length_append, List.length_append, h.1]; rfl, fun i g y hg hy => by
 rcases Nat.lt_or_ge i fs.length with h1 | h1
 ·rw [List.getElem?_append_left h1] at hg
  rw [List.getElem?_append_left (by rw [← h.1]; exact h1)] at hy
  exact h.2 i g y hg hy
 ·rw [List.getElem?_append_right h1] at hg
  rw [List.getElem?_append_right (by rw [← h.1]; exact h1), ← h.1] at hy
  cases hk : i - fs.length with
  | zero => rw [hk] at hg hy; cases hg; cases hy; exact hx
  | succ k => rw [hk] at hg; simp at hg⟩
theorem xlf_set {M : World → Prop} {S : PS} {fs : List WF} {xs : List PX} {f : WF} {x : PX} {k : Nat} (h : XLF M S fs xs) (hx : FarX M S f x) : XLF M S (fs.set k f) (xs.set k x) := ⟨by rw [List.length_set, List.length_set, h.1], fun i g y hg hy => by
 rcases Nat.decEq i k with h1 | rfl
 ·rw [List.getElem?_set_ne (Ne.symm h1)] at hg hy
  exact h.2 i g y hg hy
 ·have hl : i < fs.length := by
   rcases Nat.lt_or_ge i fs.length with h2 | h2
   ·exact h2
   ·rw [List.getElem?_eq_none (by simpa using h2)] at hg; cases hg
  rw [List.getElem?_set_self hl] at hg
  rw [List.getElem?_set_self (by rw [← h.1]; exact hl)] at hy
  cases hg; cases hy; exact hx⟩
theorem FarX.keepM {M : World → Prop} {K1 K2 : List (Nat × World)} {S : PS} {f : WF} {x : PX} (h : FarX (MK M K1) S f x) (hk : ∀ q ∈ K1, q ∈ K2) : FarX (MK M K2) S f x := h.mono fun W hW => ⟨hW.1, fun q hq => hW.2 q (hk q hq)⟩
theorem xlf_keep {M : World → Prop} {K1 K2 : List (Nat × World)} {S : PS} {fs : List WF} {xs : List PX} (h : XLF (MK M K1) S fs xs) (hk : ∀ q ∈ K1, q ∈ K2) : XLF (MK M K2) S fs xs := ⟨h.1, fun i f x hf hx => (h.2 i f x hf hx).keepM hk⟩
theorem xlf_mono {M M' : World → Prop} {S : PS} {fs : List WF} {xs : List PX} (h : XLF M S fs xs) (hm : ∀ W, M' W → M W) : XLF M' S fs xs := ⟨h.1, fun i f x hf hx => (h.2 i f x hf hx).mono hm⟩
abbrev MZ (w : World) (M : World → Prop) : World → Prop := fun W => M W ∧ w.heap.size ≤ W.heap.size
theorem keepsB_MZ {w : World} {M : World → Prop} (h : KeepsB M) : KeepsB (MZ w M) := fun W W' hW hb => ⟨h _ _ hW.1 hb, Nat.le_trans hW.2 hb.size⟩
theorem xlf_out {M : World → Prop} {w W : World} {O : Own} {G : Grows} {K : List (Nat × World)} {S : PS} {fs : List WF} {xs : List PX} (hS : St w O G K W) (hlo : ∀ q ∈ K, w.heap.size ≤ q.1) (h : XLF (MK (MZ w M) K) S fs xs) : XLF (fun W2 => M W2 ∧ Agree w.heap.size W W2) S fs xs :=
 xlf_mono h fun W2 hW => ⟨⟨hW.1, Nat.le_trans hS.below.size hW.2.1⟩, fun q hq => (hS.kept q hq).1.trans (agree_lo hW.2 (hlo q hq))⟩
theorem frow_ownF {w W : World} {O : Own} {G : Grows} {K : List (Nat × World)} {b : Nat} {fs : List WF} {cs : List Value} {T : TypeId} (hS : St w ((b, fs.flatMap WF.six ++ cs, T) :: O) G K W) : ∀ W2, Agree w.heap.size W W2 → FRow W2 (some ⟨b, 0, none⟩) fs := fun W2 hg => by
 have h := hS.own _ List.mem_cons_self
 exact frow_own ((hg.2 b h.1 (lt_of_heap h.2)).trans h.2)
def oldW (w W : World) : World := { w with heap := w.heap ++ W.heap.extract w.heap.size W.heap.size }
theorem oldW_size {w W : World} (h : w.heap.size ≤ W.heap.size) : (oldW w W).heap.size = W.heap.size := by
 unfold oldW; simp only [Array.size_append, Array.size_extract]; omega
theorem oldW_old {w W : World} {k : Nat} (hk : k < w.heap.size) : (oldW w W).heap[k]? = w.heap[k]? := by
 unfold oldW; simp only [Array.getElem?_append_left hk]
theorem oldW_new {w W : World} (h : w.heap.size ≤ W.heap.size) {k : Nat} (hk : w.heap.size ≤ k) : (oldW w W).heap[k]? = W.heap[k]? := by
 unfold oldW
 simp only [Array.getElem?_append_right hk]
 rw [Array.getElem?_extract]
 rcases Nat.lt_or_ge k W.heap.size with h1 | h1
 ·rw [if_pos (by omega), show w.heap.size + (k - w.heap.size) = k by omega]
 ·rw [if_neg (by omega), Array.getElem?_eq_none (by omega)]
theorem oldW_below {w W : World} (h : w.heap.size ≤ W.heap.size) : Below w.heap.size w (oldW w W) where
 os := rfl
 tape := rfl
 output := rfl
 size := by rw [oldW_size h]; exact h
 block := fun k hk => oldW_old hk
theorem far_afterM {M : World → Prop} {w0 W' : World} {Ks Kk : List (Nat × World)} {lo : Nat} {X : Nat → Prop} {S : PS} {f : WF} {z : PX} (hcov : ∀ {O2 : Own} {G2 : Grows} {K2 : List (Nat × World)} {W2 : World}, St w0 O2 G2 K2 W2 → (∀ q ∈ Ks, q ∈ K2) → SameX lo X W' W2) (hX : ∀ b, lo ≤ b → b < W'.heap.size → ¬ X b) (hlo : w0.heap.size ≤ lo) (hKs : ∀ q ∈ Ks, lo ≤ q.1) (h : FarX (fun W => MK (MZ w0 M) Kk W ∧ Agree lo W' W) S f z) : FarX (MK (MZ w0 M) (Ks ++ Kk)) S f z :=
 h.mono fun W hW => by
  have hsz : w0.heap.size ≤ W.heap.size := hW.1.2
  have hst : St w0 [] [] Ks (oldW w0 W) := ⟨oldW_below hsz, (fun p h => by cases h), List.Pairwise.nil, (fun q hq => ⟨⟨by rw [oldW_size hsz]; exact (hW.2 q (List.mem_append_left _ hq)).1, fun k h1 h2 => by rw [oldW_new hsz (Nat.le_trans hlo (Nat.le_trans (hKs q hq) h1))]; exact (hW.2 q (List.mem_append_left _ hq)).2 k h1 h2⟩, fun p hp => by cases hp⟩), (fun q h => by cases h), List.Pairwise.nil⟩
  have hs := hcov hst (fun q hq => hq)
  refine ⟨⟨hW.1, fun q hq => hW.2 q (List.mem_append_right _ hq)⟩, by have h9 := hs.2.1; rw [oldW_size hsz] at h9; exact h9, fun b h1 h2 => ?_⟩
  have h9 := hs.2.2 b h1 h2 (hX b h1 h2)
  rw [oldW_new hsz (Nat.le_trans hlo h1)] at h9
  exact h9
def isWRowF (M : World → Prop) (lo : Nat) (S : PS) (xs : List PX) : Asr := fun v w => ∃ a c fs, v = .slice a xs.length c ∧ (∀ W2, Agree lo w W2 → FRow W2 a fs) ∧ XLF (fun W => M W ∧ Agree lo w W) S fs xs
theorem stab_isWRowF {M : World → Prop} {lo : Nat} {S : PS} {xs : List PX} : Stab (isWRowF M lo S xs) := fun v w w' ⟨a, c, fs, h1, h2, h3⟩ hb => ⟨a, c, fs, h1, fun W2 hg => h2 W2 ((below_agree hb lo).trans hg), xlf_mono h3 fun W hW => ⟨hW.1, (below_agree hb lo).trans hW.2⟩⟩
end Go.Proofs.Ytpkcaabbcoiiiaa
namespace Go.Proofs.Ytpkcaabbcoiiiaa
open Go Go.RowKit
theorem goes_23 : goesIn Try.prog 23 = true := by kernel_rfl
theorem goes_25 : goesIn Try.prog 25 = true := by kernel_rfl
theorem goes_77 : goesIn Try.prog 77 = true := by kernel_rfl
theorem zero10_is (S : PS) (sf : SF) (w : World) (hs : SIs w S sf) (hok : S.ok) :
  Calls Try.prog 25 #[sf.val] w (WRet S (zeroX S) w) := by
 refine enterF (args := [sf.val]) Try.func25 rfl Try.ntmps25 rfl ?_
 have hS := St.start w
 refine seqF (regF ?_)
 refine op_box (cs := [_, _, _]) hS rfl rfl rfl ?_
 clear hS; intro B1 W1 hS
 refine op_alloc (cs := [_, _, _, _, _, _]) hS Try.zeroValue45 rfl rfl ?_
 clear hS; intro B2 W2 hS
 refine endF (XF.thenN ?_)
 refine seqF (regF ?_)
 refine op_loadA (vs := [_, _, _]) Try.isAgg25 Try.sizeOf25 rfl (CellsAt.own (j := 0) (m := 3) (hS.at_ 1 rfl) rfl) rfl ?_
 have hsz := hS.below.size
 refine op_call (vs := [_]) hS goes_52 rfl (ZeroR_plain S sf _ (hs.below hS.below) hok) rfl ?_
 rintro e W3 ⟨f, rfl, hn, hb⟩
 refine ⟨_, rfl, hb, fun hS' => ?_⟩
 clear hS; have hS := hS'; clear hS'
 refine op_move rfl rfl ?_
 iterate 2 refine op_extract rfl rfl rfl ?_
 refine op_alloc (cs := [_, _, _, _, _, _]) hS Try.zeroValue45 rfl rfl ?_
 clear hS; intro B4 W4 hS
 refine op_storeA (i := 0) (vs := [_, _, _, _, _, _]) (cs' := [_, _, _, _, _, _]) (O' := [_, _, _]) hS Try.sizeOf45 rfl rfl rfl rfl rfl rfl rfl ?_
 clear hS; intro W5 hS
 refine op_assign rfl rfl ?_
 refine endF (XF.thenN ?_)
 refine seqF (regF ?_)
 refine op_loadA (vs := [_, _, _, _, _, _]) Try.isAgg45 Try.sizeOf45 rfl (CellsAt.own (j := 0) (m := 6) (hS.at_ 0 rfl) rfl) rfl ?_
 refine op_storeA (i := 1) (vs := [_, _, _, _, _, _]) (cs' := [_, _, _, _, _, _]) (O' := [_, _, _]) hS Try.sizeOf45 rfl rfl rfl rfl rfl rfl rfl ?_
 clear hS; intro W6 hS
 refine endF (XF.thenN ?_)
 refine retF ?_
 refine XF.res (resC1 (vs := [_, _, _, _, _, _]) Try.results25 Try.isAgg45 Try.sizeOf45 rfl (CellsAt.own (j := 0) (m := 6) (hS.at_ 1 rfl) rfl)) ?_
 exact ⟨f, rfl, (hn.agree (hS.since 0 rfl)).mono hsz, hS.below⟩
theorem one10_is (S : PS) (sf : SF) (w : World) (hs : SIs w S sf) (hok : S.ok) :
  Calls Try.prog 23 #[sf.val] w (WRet S (oneX S) w) := by
 refine enterF (args := [sf.val]) Try.func23 rfl Try.ntmps23 rfl ?_
 have hS := St.start w
 refine seqF (regF ?_)
 refine op_box (cs := [_, _, _]) hS rfl rfl rfl ?_
 clear hS; intro B1 W1 hS
 refine op_alloc (cs := [_, _, _, _, _, _]) hS Try.zeroValue45 rfl rfl ?_
 clear hS; intro B2 W2 hS
 refine endF (XF.thenN ?_)
 refine seqF (regF ?_)
 refine op_loadA (vs := [_, _, _]) Try.isAgg25 Try.sizeOf25 rfl (CellsAt.own (j := 0) (m := 3) (hS.at_ 1 rfl) rfl) rfl ?_
 have hsz := hS.below.size
 refine op_call (vs := [_]) hS goes_11 rfl (OneR_ok S sf _ (hs.below hS.below) hok) rfl ?_
 rintro e W3 ⟨f, rfl, hn, hb⟩
 refine ⟨_, rfl, hb, fun hS' => ?_⟩
 clear hS; have hS := hS'; clear hS'
 refine op_move rfl rfl ?_
 iterate 2 refine op_extract rfl rfl rfl ?_
 refine op_alloc (cs := [_, _, _, _, _, _]) hS Try.zeroValue45 rfl rfl ?_
 clear hS; intro B4 W4 hS
 refine op_storeA (i := 0) (vs := [_, _, _, _, _, _]) (cs' := [_, _, _, _, _, _]) (O' := [_, _, _]) hS Try.sizeOf45 rfl rfl rfl rfl rfl rfl rfl ?_
 clear hS; intro W5 hS
 refine op_assign rfl rfl ?_
 refine endF (XF.thenN ?_)
 refine seqF (regF ?_)
 refine op_loadA (vs := [_, _, _, _, _, _]) Try.isAgg45 Try.sizeOf45 rfl (CellsAt.own (j := 0) (m := 6) (hS.at_ 0 rfl) rfl) rfl ?_
 refine op_storeA (i := 1) (vs := [_, _, _, _, _, _]) (cs' := [_, _, _, _, _, _]) (O' := [_, _, _]) hS Try.sizeOf45 rfl rfl rfl rfl rfl rfl rfl ?_
 clear hS; intro W6 hS
 refine endF (XF.thenN ?_)
 refine retF ?_
 refine XF.res (resC1 (vs := [_, _, _, _, _, _]) Try.results23 Try.isAgg45 Try.sizeOf45 rfl (CellsAt.own (j := 0) (m := 6) (hS.at_ 1 rfl) rfl)) ?_
 exact ⟨f, rfl, (hn.agree (hS.since 0 rfl)).mono hsz, hS.below⟩
theorem ext10_is (S : PS) (sf : SF) (bk : Bool) (f g : WF) (x y : PX) (w : World) (hs : SIs w S sf) (hok : S.ok) (hx : XIs w S f x) (hy : XIs w S g y) :
  Calls Try.prog 76 #[sf.val, .bool bk, f.val, g.val] w (WRet S (extB S bk x y) w) := by
 refine enterF (args := [sf.val, .bool bk, f.val, g.val]) Try.func76 rfl Try.ntmps76 rfl ?_
 have hS := St.start w
 refine seqF (regF ?_)
 refine op_box (cs := [_, _, _]) hS rfl rfl rfl ?_
 clear hS; intro B1 W1 hS
 refine op_box (cs := [_, _, _, _, _, _]) hS rfl rfl rfl ?_
 clear hS; intro B2 W2 hS
 refine op_box (cs := [_, _, _, _, _, _]) hS rfl rfl rfl ?_
 clear hS; intro B3 W3 hS
 refine op_alloc (cs := [_, _, _, _, _, _]) hS Try.zeroValue45 rfl rfl ?_
 clear hS; intro B4 W4 hS
 refine endF (XF.thenN ?_)
 refine seqF ?_
 refine seqF (regF ?_)
 refine op_move rfl rfl ?_
 refine endF (XF.thenN ?_)
 refine condF rfl (fun hc => ?_) (fun hc => ?_)
 ·have hc9 := hc; clear hc
  refine seqF (regF ?_)
  refine op_loadA (vs := [_, _, _]) Try.isAgg25 Try.sizeOf25 rfl (CellsAt.own (j := 0) (m := 3) (hS.at_ 3 rfl) rfl) rfl ?_
  refine op_loadA (vs := [_, _, _, _, _, _]) Try.isAgg45 Try.sizeOf45 rfl (CellsAt.own (j := 0) (m := 6) (hS.at_ 1 rfl) rfl) rfl ?_
  refine op_loadA (vs := [_, _, _, _, _, _]) Try.isAgg45 Try.sizeOf45 rfl (CellsAt.own (j := 0) (m := 6) (hS.at_ 2 rfl) rfl) rfl ?_
  have hsz := hS.below.size
  refine op_call (vs := [_, _, _]) hS goes_37 rfl (thenR_ok (hs.below hS.below) hok (hy.below hS.below) (hx.below hS.below)) rfl ?_
  rintro e W5 ⟨h9, rfl, hn, hb⟩
  refine ⟨_, rfl, hb, fun hS' => ?_⟩
  clear hS; have hS := hS'; clear hS'
  refine op_storeA (i := 0) (vs := [_, _, _, _, _, _]) (cs' := [_, _, _, _, _, _]) (O' := [_, _, _, _]) hS Try.sizeOf45 rfl rfl rfl rfl rfl rfl rfl ?_
  clear hS; intro W6 hS
  refine endF (XF.thenN ?_)
  refine retF ?_
  refine XF.thenR ?_
  refine XF.res (resC1 (vs := [_, _, _, _, _, _]) Try.results76 Try.isAgg45 Try.sizeOf45 rfl (CellsAt.own (j := 0) (m := 6) (hS.at_ 0 rfl) rfl)) ?_
  have e9 : bk = true := hc9
  subst e9
  exact ⟨h9, rfl, (hn.agree (hS.since 0 rfl)).mono hsz, hS.below⟩
 ·have hc9 := hc; clear hc
  refine skipF ?_
  refine XF.thenN ?_
  refine seqF (regF ?_)
  refine op_loadA (vs := [_, _, _]) Try.isAgg25 Try.sizeOf25 rfl (CellsAt.own (j := 0) (m := 3) (hS.at_ 3 rfl) rfl) rfl ?_
  refine op_loadA (vs := [_, _, _, _, _, _]) Try.isAgg45 Try.sizeOf45 rfl (CellsAt.own (j := 0) (m := 6) (hS.at_ 2 rfl) rfl) rfl ?_
  refine op_loadA (vs := [_, _, _, _, _, _]) Try.isAgg45 Try.sizeOf45 rfl (CellsAt.own (j := 0) (m := 6) (hS.at_ 1 rfl) rfl) rfl ?_
  have hsz := hS.below.size
  refine op_call (vs := [_, _, _]) hS goes_37 rfl (thenR_ok (hs.below hS.below) hok (hx.below hS.below) (hy.below hS.below)) rfl ?_
  rintro e W7 ⟨h9, rfl, hn, hb⟩
  refine ⟨_, rfl, hb, fun hS' => ?_⟩
  clear hS; have hS := hS'; clear hS'
  refine op_storeA (i := 0) (vs := [_, _, _, _, _, _]) (cs' := [_, _, _, _, _, _]) (O' := [_, _, _, _]) hS Try.sizeOf45 rfl rfl rfl rfl rfl rfl rfl ?_
  clear hS; intro W8 hS
  refine endF (XF.thenN ?_)
  refine retF ?_
  refine XF.res (resC1 (vs := [_, _, _, _, _, _]) Try.results76 Try.isAgg45 Try.sizeOf45 rfl (CellsAt.own (j := 0) (m := 6) (hS.at_ 0 rfl) rfl)) ?_
  have e9 : bk = false := hc9
  subst e9
  exact ⟨h9, rfl, (hn.agree (hS.since 0 rfl)).mono hsz, hS.below⟩
theorem final10_c (ds d : Nat) (s : SV) (st sy : Int) (fa : Option Addr) (fl fc : Nat) (fs : List Int) (ta : Option Addr) (tl tc : Nat) (ts : List TV) (w : World) (hs : SIn w ds s) (hfrow : Row w fa fs) (hflen : fs.length = fl) (htrow : TRow w ta ts) (htlen : ts.length = tl) (htin : ∀ t ∈ ts, WIn w d t.x) (hfm : fl ≤ 9223372036854775807) (htm : tl ≤ 9223372036854775807) (n : Int) :
  Calls Try.prog 77 #[.agg #[.int .i64 s.f.tag, .int .i64 s.f.dim, .slice s.f.a s.f.len s.f.cap, .int .i64 st, .int .i64 sy, .slice fa fl fc, .slice ta tl tc], .int .i64 n] w (fun e w' => e = .returned (.bool (finI fs n)) ∧ Below w.heap.size w w') := by
 refine enterF (args := [.agg #[.int .i64 s.f.tag, .int .i64 s.f.dim, .slice s.f.a s.f.len s.f.cap, .int .i64 st, .int .i64 sy, .slice fa fl fc, .slice ta tl tc], .int .i64 n]) Try.func77 rfl Try.ntmps77 rfl ?_
 have hS := St.start w
 refine seqF (regF ?_)
 refine op_box (cs := [_, _, _, _, _, _, _]) hS rfl rfl rfl ?_
 clear hS; intro B1 W1 hS
 refine op_assign rfl rfl ?_
 refine endF (XF.thenN ?_)
 refine seqF ?_
 refine seqF (regF ?_)
 refine op_assign rfl rfl ?_
 refine endF (XF.thenN ?_)
 refine blockF ?_
 refine loopF (fun m l W => ∃ i : Nat, i ≤ fl ∧ m = fl - i ∧ l = [(1, .int .i64 n), (2, .pointer (some ⟨B1, 0, none⟩)), (5, .int .i64 (i : Int))] ∧ finI (fs.take i) n = false ∧ St w [(B1, [.int .i64 s.f.tag, .int .i64 s.f.dim, .slice s.f.a s.f.len s.f.cap, .int .i64 st, .int .i64 sy, .slice fa fl fc, .slice ta tl tc], 60)] [] [] W) (fl - 0) ([(1, _), (2, _), (5, _)]) ⟨rfl, rfl, rfl, trivial⟩ (⟨0, Nat.zero_le _, rfl, rfl, rfl, hS.clear⟩) ?_
 clear hS
 rintro m l W ⟨i, hi, rfl, rfl, hall, hS⟩
 refine seqF ?_
 refine seqF (regF ?_)
 refine op_move rfl rfl ?_
 refine op_field (o' := 5) fa_60_3 rfl rfl rfl ?_
 refine op_load Try.isAgg29 rfl (cell_own (hS.at_ 0 rfl) rfl) rfl ?_
 refine op_len Try.underlying29 rfl rfl ?_
 refine op_lss rfl rfl rfl ?_
 refine endF (XF.thenN ?_)
 refine condF rfl (fun hc => ?_) (fun hc => ?_)
 ·have hc10 := of_decide_eq_true hc; clear hc
  have hk : i < fl := by omega
  obtain ⟨b, off, y, rfl, hy, hyc⟩ := hfrow.at1 (show i < fs.length by omega)
  have k1 := hS.old hyc
  refine skipF ?_
  refine XF.thenN ?_
  refine seqF ?_
  refine blockF ?_
  refine seqF (regF ?_)
  refine op_field (o' := 5) fa_60_3 rfl rfl rfl ?_
  refine op_load Try.isAgg29 rfl (cell_own (hS.at_ 0 rfl) rfl) rfl ?_
  refine op_move rfl rfl ?_
  refine op_indexA  Try.underlying29 Try.sizeOf3 rfl rfl rfl (by omega) rfl rfl ?_
  refine op_load Try.isAgg3 rfl (k1) rfl ?_
  refine op_move rfl rfl ?_
  refine op_eql rfl rfl rfl ?_
  refine endF (XF.thenN ?_)
  refine condF rfl (fun hc => ?_) (fun hc => ?_)
  ·have hc19 := of_decide_eq_true hc; clear hc
   refine seqF (regF ?_)
   refine op_assign rfl rfl ?_
   refine endF (XF.thenN ?_)
   refine retF ?_
   refine XF.blkR ?_
   iterate 2 refine XF.thenR ?_
   refine XF.blkR ?_
   refine XF.thenR ?_
   refine XF.res (res1 Try.results77 rfl) ?_
   exact ⟨rbool (List.any_eq_true.2 ⟨y, List.mem_of_getElem? hy, decide_eq_true hc19⟩).symm, hS.below⟩
  ·have hc19 := of_decide_eq_false hc; clear hc
   refine skipF ?_
   refine XF.blkN ?_
   refine XF.thenN ?_
   refine regF ?_
   refine op_move rfl rfl ?_
   refine op_add rfl rfl (IntWalk.i64_in _ (by omega)) rfl ?_
   refine op_assign rfl rfl ?_
   refine endF ?_
   exact XF.round (fl - (i + 1)) [(1, _), (2, _), (5, _)] (by omega) ⟨rfl, rfl, rfl, trivial⟩ ⟨i + 1, by omega, rfl, rfl, by unfold finI at hall ⊢; rw [List.take_add_one, hy, List.any_append, hall]; simp; exact hc19, hS.clear⟩
 ·have hc10 := of_decide_eq_false hc; clear hc
  rw [List.take_of_length_le (by omega)] at hall
  refine exitF ?_
  iterate 2 refine XF.thenX ?_
  refine XF.blkX ?_
  refine XF.thenN ?_
  refine seqF (regF ?_)
  refine op_assign rfl rfl ?_
  refine endF (XF.thenN ?_)
  refine retF ?_
  refine XF.res (res1 Try.results77 rfl) ?_
  exact ⟨rbool hall.symm, hS.below⟩
theorem final10_is (ds d : Nat) (a : AV) (n : Int) (w : World) (h : AIn w ds d a) : Calls Try.prog 77 #[a.val, .int .i64 n] w (fun e w' => e = .returned (.bool (finI a.fs n)) ∧ Below w.heap.size w w') := final10_c ds d _ _ _ _ _ _ _ _ _ _ _ w h.s h.frow h.flen h.trow h.tlen h.tin h.fmax h.tmax n
theorem ends10_c (ds d : Nat) (s : SV) (n9 : Nat) (sy : Int) (fa : Option Addr) (fl fc : Nat) (fs : List Int) (ta : Option Addr) (tl tc : Nat) (ts : List TV) (w : World) (hs : SIn w ds s) (hfrow : Row w fa fs) (hflen : fs.length = fl) (htrow : TRow w ta ts) (htlen : ts.length = tl) (htin : ∀ t ∈ ts, WIn w d t.x) (hfm : fl ≤ 9223372036854775807) (htm : tl ≤ 9223372036854775807) (M : World → Prop) (hM : KeepsB M) (hMw : M w) (S : PS) (hsi : SIs w S s.f) (hok : S.ok) (h4 : n9 ≤ 4096) :
  Calls Try.prog 50 #[.agg #[.int .i64 s.f.tag, .int .i64 s.f.dim, .slice s.f.a s.f.len s.f.cap, .int .i64 (n9 : Int), .int .i64 sy, .slice fa fl fc, .slice ta tl tc]] w (fun e w' => ∃ a9 c9 fs9, e = .returned (.slice a9 (endsF S fs n9).length c9) ∧ (∀ W2, Agree w.heap.size w' W2 → FRow W2 a9 fs9) ∧ XLF (fun W2 => M W2 ∧ Agree w.heap.size w' W2) S fs9 (endsF S fs n9) ∧ Below w.heap.size w w') := by
 refine enterF (args := [.agg #[.int .i64 s.f.tag, .int .i64 s.f.dim, .slice s.f.a s.f.len s.f.cap, .int .i64 (n9 : Int), .int .i64 sy, .slice fa fl fc, .slice ta tl tc]]) Try.func50 rfl Try.ntmps50 rfl ?_
 have hS := St.start w
 refine seqF (regF ?_)
 refine op_box (cs := [_, _, _, _, _, _, _]) hS rfl rfl rfl ?_
 clear hS; intro B1 W1 hS
 refine op_assign rfl rfl ?_
 refine endF (XF.thenN ?_)
 refine seqF (regF ?_)
 refine op_assign rfl rfl ?_
 refine endF (XF.thenN ?_)
 iterate 2 refine seqF ?_
 have hS := hS.newG 45 6
 refine regF ?_
 refine op_assign rfl rfl ?_
 refine endF (XF.thenN ?_)
 refine blockF ?_
 refine loopF (fun m l W => ∃ (i : Nat) (v : Value) (fs9 : List WF) (Kk : List (Nat × World)), i ≤ n9 ∧ m = n9 - i ∧ l = [(1, .pointer (some ⟨B1, 0, none⟩)), (3, v), (4, .int .i64 (i : Int))] ∧ (∀ q ∈ Kk, w.heap.size ≤ q.1) ∧ XLF (MK (MZ w M) Kk) S fs9 (endsF S fs i) ∧ fs9.length = i ∧ St w [(B1, [.int .i64 s.f.tag, .int .i64 s.f.dim, .slice s.f.a s.f.len s.f.cap, .int .i64 (n9 : Int), .int .i64 sy, .slice fa fl fc, .slice ta tl tc], 60)] [⟨v, i, fs9.flatMap WF.six, 45, 6⟩] Kk W) (n9 - 0) ([(1, _), (3, _), (4, _)]) ⟨rfl, rfl, rfl, trivial⟩ (⟨0, _, [], _, Nat.zero_le _, rfl, rfl, (by simp), ⟨rfl, fun i f x hf hx => by simp at hf⟩, rfl, hS⟩) ?_
 clear hS
 rintro m l W ⟨i, v, fs9, Kk, hi, rfl, rfl, hKl, hfs, hfl, hS⟩
 refine seqF ?_
 refine seqF (regF ?_)
 refine op_move rfl rfl ?_
 refine op_field (o' := 3) fa_60_1 rfl rfl rfl ?_
 refine op_load Try.isAgg3 rfl (cell_own (hS.at_ 0 rfl) rfl) rfl ?_
 refine op_lss rfl rfl rfl ?_
 refine endF (XF.thenN ?_)
 refine condF rfl (fun hc => ?_) (fun hc => ?_)
 ·have hc8 := of_decide_eq_true hc; clear hc
  have hszW := hS.below.size
  refine skipF ?_
  refine XF.thenN ?_
  refine seqF ?_
  refine blockF ?_
  refine seqF (regF ?_)
  refine op_loadA (vs := [_, _, _, _, _, _, _]) Try.isAgg60 Try.sizeOf60 rfl (CellsAt.own (j := 0) (m := 7) (hS.at_ 0 rfl) rfl) rfl ?_
  refine op_move rfl rfl ?_
  refine op_call (vs := [_, _]) hS goes_77 rfl (final10_is ds d ⟨s, (n9 : Int), sy, fa, fl, fc, fs, ta, tl, tc, ts⟩ (i : Int) _ (AIn.below ⟨hs, hfrow, hflen, htrow, htlen, htin, hfm, htm⟩ hS.below)) rfl ?_
  rintro e W2 ⟨rfl, hb⟩
  refine ⟨_, rfl, hb, fun hS' => ?_⟩
  clear hS; have hS := hS'; clear hS' hb
  refine endF (XF.thenN ?_)
  refine condF rfl (fun hc => ?_) (fun hc => ?_)
  ·have hc13 := hc; clear hc
   have hfin : finI fs (i : Int) = true := hc13
   refine regF ?_
   refine op_move rfl rfl ?_
   refine op_field (o' := 0) fa_60_0 rfl rfl rfl ?_
   refine op_loadA (vs := [_, _, _]) Try.isAgg25 Try.sizeOf25 rfl (CellsAt.own (j := 0) (m := 3) (hS.at_ 0 rfl) rfl) rfl ?_
   obtain ⟨lo9, hlo9⟩ : ∃ n, n = W2.heap.size := ⟨_, rfl⟩
   have hszw9 := hS.below.size
   refine op_call (vs := [_]) hS goes_23 rfl (one10_is S s.f _ (hsi.below hS.below) hok) rfl ?_
   rintro e W3 ⟨f9, rfl, hn9, hb⟩
   refine ⟨_, rfl, hb, fun hS' => ?_⟩
   clear hS; have hS := hS'; clear hS'
   rw [← hlo9] at hn9
   have hlw9 : w.heap.size ≤ lo9 := by rw [hlo9]; exact hszw9
   have HX9 : FarX (MK (MZ w M) [(lo9, W3)]) S f9 (oneX S) := hn9.far.mono (fun W2 hg => hg.2 _ List.mem_cons_self)
   rw [← hlo9] at hS
   clear hb
   refine op_buildSlice (us := [(0, .agg (List.toArray [_, _, _, _, _, _]))]) hS Try.underlying43 Try.sizeOf45 Try.zeroValue45 rfl rfl rfl (bs_43_1 _ _ _ _ _ _) rfl ?_
   clear hS; intro B4 W4 hS
   refine op_append (i := 0) (news := [_, _, _, _, _, _]) hS Try.underlying43 inf_45 rfl rfl (by show 0 < 6; decide) rfl rfl rfl rfl rfl (CellsAt.own (j := 0) (m := 6) (hS.at_ 0 rfl) rfl) rfl rfl (by dsimp only; simp only [maxLen]; omega) (by dsimp only; show _ * 96 ≤ _; omega) rfl ?_
   clear hS; intro v5 W5 hS
   refine op_assign rfl rfl ?_
   refine endF ?_
   refine XF.blkN ?_
   refine XF.thenN ?_
   refine regF ?_
   refine op_move rfl rfl ?_
   refine op_add rfl rfl (IntWalk.i64_in _ (by omega)) rfl ?_
   refine op_assign rfl rfl ?_
   refine endF ?_
   exact XF.round (n9 - (i + 1)) [(1, _), (3, _), (4, _)] (by omega) ⟨rfl, rfl, rfl, trivial⟩ ⟨i + 1, _, fs9 ++ [f9], _, by omega, rfl, rfl, (fun q hq => by simp only [List.mem_cons] at hq; rcases hq with rfl | rfl | hq; exact hlw9; exact hszW; exact hKl q hq), by rw [endsF_succ, if_pos hfin]; exact xlf_app (xlf_keep hfs (fun q hq => by simp [hq])) (HX9.keepM (fun q hq => by simp at hq; subst hq; simp)), by rw [List.length_append, hfl]; rfl, hS.tail.castG (by simp)⟩
  ·have hc13 := hc; clear hc
   have hfin : ¬ finI fs (i : Int) = true := by rw [show finI fs (i : Int) = false from hc13]; decide
   refine regF ?_
   refine op_move rfl rfl ?_
   refine op_field (o' := 0) fa_60_0 rfl rfl rfl ?_
   refine op_loadA (vs := [_, _, _]) Try.isAgg25 Try.sizeOf25 rfl (CellsAt.own (j := 0) (m := 3) (hS.at_ 0 rfl) rfl) rfl ?_
   obtain ⟨lo9, hlo9⟩ : ∃ n, n = W2.heap.size := ⟨_, rfl⟩
   have hszw9 := hS.below.size
   refine op_call (vs := [_]) hS goes_25 rfl (zero10_is S s.f _ (hsi.below hS.below) hok) rfl ?_
   rintro e W6 ⟨f9, rfl, hn9, hb⟩
   refine ⟨_, rfl, hb, fun hS' => ?_⟩
   clear hS; have hS := hS'; clear hS'
   rw [← hlo9] at hn9
   have hlw9 : w.heap.size ≤ lo9 := by rw [hlo9]; exact hszw9
   have HX9 : FarX (MK (MZ w M) [(lo9, W6)]) S f9 (zeroX S) := hn9.far.mono (fun W2 hg => hg.2 _ List.mem_cons_self)
   rw [← hlo9] at hS
   clear hb
   refine op_buildSlice (us := [(0, .agg (List.toArray [_, _, _, _, _, _]))]) hS Try.underlying43 Try.sizeOf45 Try.zeroValue45 rfl rfl rfl (bs_43_1 _ _ _ _ _ _) rfl ?_
   clear hS; intro B7 W7 hS
   refine op_append (i := 0) (news := [_, _, _, _, _, _]) hS Try.underlying43 inf_45 rfl rfl (by show 0 < 6; decide) rfl rfl rfl rfl rfl (CellsAt.own (j := 0) (m := 6) (hS.at_ 0 rfl) rfl) rfl rfl (by dsimp only; simp only [maxLen]; omega) (by dsimp only; show _ * 96 ≤ _; omega) rfl ?_
   clear hS; intro v8 W8 hS
   refine op_assign rfl rfl ?_
   refine endF ?_
   refine XF.blkN ?_
   refine XF.thenN ?_
   refine regF ?_
   refine op_move rfl rfl ?_
   refine op_add rfl rfl (IntWalk.i64_in _ (by omega)) rfl ?_
   refine op_assign rfl rfl ?_
   refine endF ?_
   exact XF.round (n9 - (i + 1)) [(1, _), (3, _), (4, _)] (by omega) ⟨rfl, rfl, rfl, trivial⟩ ⟨i + 1, _, fs9 ++ [f9], _, by omega, rfl, rfl, (fun q hq => by simp only [List.mem_cons] at hq; rcases hq with rfl | rfl | hq; exact hlw9; exact hszW; exact hKl q hq), by rw [endsF_succ, if_neg hfin]; exact xlf_app (xlf_keep hfs (fun q hq => by simp [hq])) (HX9.keepM (fun q hq => by simp at hq; subst hq; simp)), by rw [List.length_append, hfl]; rfl, hS.tail.castG (by simp)⟩
 ·have hc8 := of_decide_eq_false hc; clear hc
  have hin : i = n9 := by omega
  subst hin
  refine exitF ?_
  iterate 2 refine XF.thenX ?_
  refine XF.blkX ?_
  refine XF.thenN ?_
  refine seqF (regF ?_)
  refine op_move rfl rfl ?_
  refine op_assign rfl rfl ?_
  refine endF (XF.thenN ?_)
  refine retF ?_
  refine XF.res (res1 Try.results50 rfl) ?_
  obtain ⟨a9, c9, rfl⟩ := hS.headSl
  have hr9 := hS.row 0 rfl
  have hle : (endsF S fs i).length = i := by simp [endsF]
  exact ⟨a9, c9, fs9, by rw [hle], fun W2 hg => frow_grow (ownsRow_agree hr9 hg), xlf_out hS hKl hfs, hS.below⟩
end Go.Proofs.Ytpkcaabbcoiiiaa
namespace Go.Proofs.Ytpkcaabbcoiiiaa
open Go Go.RowKit
def askE (a : AV) (fr ws : List Int) : Int := if autoE a ≠ 0 then autoE a else if fr.all (fun y => inQ y a.st) = true then (if ws.all (fun y => inQ y a.sy) = true then 0 else 102) else 101
theorem asked10_c (ds d : Nat) (s : SV) (st sy : Int) (fa : Option Addr) (fl fc : Nat) (fs : List Int) (ta : Option Addr) (tl tc : Nat) (ts : List TV) (w : World) (hs : SIn w ds s) (hfrow : Row w fa fs) (hflen : fs.length = fl) (htrow : TRow w ta ts) (htlen : ts.length = tl) (htin : ∀ t ∈ ts, WIn w d t.x) (hfm : fl ≤ 9223372036854775807) (htm : tl ≤ 9223372036854775807) (ra : Option Addr) (rl rc : Nat) (fr : List Int) (wa : Option Addr) (wl wc : Nat) (ws : List Int) (hra : Row w ra fr) (hrl : fr.length = rl) (hrm : rl ≤ 9223372036854775807) (hwa : Row w wa ws) (hwl : ws.length = wl) (hwm : wl ≤ 9223372036854775807) :
  Calls Try.prog 48 #[.agg #[.int .i64 s.f.tag, .int .i64 s.f.dim, .slice s.f.a s.f.len s.f.cap, .int .i64 st, .int .i64 sy, .slice fa fl fc, .slice ta tl tc], .slice ra rl rc, .slice wa wl wc] w (fun e w' => e = .returned (.int .i64 (askE ⟨s, st, sy, fa, fl, fc, fs, ta, tl, tc, ts⟩ fr ws)) ∧ Below w.heap.size w w') := by
 refine enterF (args := [.agg #[.int .i64 s.f.tag, .int .i64 s.f.dim, .slice s.f.a s.f.len s.f.cap, .int .i64 st, .int .i64 sy, .slice fa fl fc, .slice ta tl tc], .slice ra rl rc, .slice wa wl wc]) Try.func48 rfl Try.ntmps48 rfl ?_
 have hS := St.start w
 refine seqF (regF ?_)
 refine op_box (cs := [_, _, _, _, _, _, _]) hS rfl rfl rfl ?_
 clear hS; intro B1 W1 hS
 refine op_assign rfl rfl ?_
 refine endF (XF.thenN ?_)
 refine seqF (regF ?_)
 refine op_loadA (vs := [_, _, _, _, _, _, _]) Try.isAgg60 Try.sizeOf60 rfl (CellsAt.own (j := 0) (m := 7) (hS.at_ 0 rfl) rfl) rfl ?_
 refine op_call (vs := [_]) hS goes_42 rfl (autoR_is ds d ⟨s, st, sy, fa, fl, fc, fs, ta, tl, tc, ts⟩ _ (AIn.below ⟨hs, hfrow, hflen, htrow, htlen, htin, hfm, htm⟩ hS.below)) rfl ?_
 rintro e W2 ⟨rfl, hb⟩
 refine ⟨_, rfl, hb, fun hS' => ?_⟩
 clear hS; have hS := hS'; clear hS' hb
 refine op_assign rfl rfl ?_
 refine endF (XF.thenN ?_)
 refine seqF ?_
 refine seqF (regF ?_)
 refine op_move rfl rfl ?_
 refine op_neq rfl rfl rfl ?_
 refine endF (XF.thenN ?_)
 refine condF rfl (fun hc => ?_) (fun hc => ?_)
 ·have hc13 := of_decide_eq_true hc; clear hc
  refine seqF (regF ?_)
  refine op_move rfl rfl ?_
  refine op_assign rfl rfl ?_
  refine endF (XF.thenN ?_)
  refine retF ?_
  refine XF.thenR ?_
  refine XF.res (res1 Try.results48 rfl) ?_
  exact ⟨rint (by unfold askE; rw [if_pos hc13]), hS.below⟩
 ·have hc13 := of_decide_eq_false hc; clear hc
  have h0 : ¬ autoE ⟨s, st, sy, fa, fl, fc, fs, ta, tl, tc, ts⟩ ≠ 0 := hc13
  refine skipF ?_
  refine XF.thenN ?_
  refine seqF ?_
  refine seqF (regF ?_)
  refine op_assign rfl rfl ?_
  refine endF (XF.thenN ?_)
  refine blockF ?_
  refine loopF (fun m l W => ∃ i : Nat, i ≤ rl ∧ m = rl - i ∧ l = [(1, .slice ra rl rc), (2, .slice wa wl wc), (3, .pointer (some ⟨B1, 0, none⟩)), (8, .int .i64 (i : Int))] ∧ (fr.take i).all (fun y => inQ y st) = true ∧ St w [(B1, [.int .i64 s.f.tag, .int .i64 s.f.dim, .slice s.f.a s.f.len s.f.cap, .int .i64 st, .int .i64 sy, .slice fa fl fc, .slice ta tl tc], 60)] [] [] W) (rl - 0) ([(1, _), (2, _), (3, _), (8, _)]) ⟨rfl, rfl, rfl, rfl, trivial⟩ (⟨0, Nat.zero_le _, rfl, rfl, rfl, hS.clear⟩) ?_
  clear hS
  rintro m l W ⟨i, hi, rfl, rfl, hall, hS⟩
  refine seqF ?_
  refine seqF (regF ?_)
  iterate 2 refine op_move rfl rfl ?_
  refine op_len Try.underlying29 rfl rfl ?_
  refine op_lss rfl rfl rfl ?_
  refine endF (XF.thenN ?_)
  refine condF rfl (fun hc => ?_) (fun hc => ?_)
  ·have hc18 := of_decide_eq_true hc; clear hc
   have hk : i < rl := by omega
   obtain ⟨b, off, y, rfl, hy, hyc⟩ := hra.at1 (show i < fr.length by omega)
   have k1 := hS.old hyc
   refine skipF ?_
   refine XF.thenN ?_
   refine seqF ?_
   refine blockF ?_
   refine seqF ?_
   refine regB (m := 7) followsM hS (by kernel_rfl) (by kernel_rfl) rfl ?_
   refine bl_cons 1 rfl (isV _) (stab_isV _) (rgV (li := [(3, _)]) rfl (w_free rfl) ⟨g_fr (by kernel_rfl) rfl, trivial⟩ (fun w hw => rn_loadA (vs := [_, _, _, _, _, _, _]) Try.isAgg60 Try.sizeOf60 rfl (CellsAt.agree (below_agree hw 0) (Nat.zero_le _) (CellsAt.own (j := 0) (m := 7) (hS.at_ 0 rfl) rfl))) (at_top rfl)) ?_
   refine bl_cons 2 rfl (isV _) (stab_isV _) (rgV (li := [(1, _)]) rfl (w_free rfl) ⟨g_fr (by kernel_rfl) rfl, trivial⟩ (fun w hw => rn_move rfl) (at_top rfl)) ?_
   refine bl_cons 3 rfl (isV _) (stab_isV _) (rgV (li := [(8, _)]) rfl (w_free rfl) ⟨g_fr (by kernel_rfl) rfl, trivial⟩ (fun w hw => rn_move rfl) (at_top rfl)) ?_
   refine bl_cons 4 rfl (isV _) (stab_isV _) (rgV (li := [(22, _), (23, _)]) rfl (w_free rfl) ⟨g_dep 1 (by kernel_rfl) (at_dep rfl rfl rfl), g_dep 2 (by kernel_rfl) (at_dep rfl rfl rfl), trivial⟩ (fun w hw => rn_indexA  Try.underlying29 Try.sizeOf3 rfl rfl rfl (by omega) rfl) (at_top rfl)) ?_
   refine bl_cons 5 rfl (isV _) (stab_isV _) (rgV (li := [(24, _)]) rfl (w_free rfl) ⟨g_dep 3 (by kernel_rfl) (at_dep rfl rfl rfl), trivial⟩ (fun w hw => rn_load Try.isAgg3 rfl ((below_agree hw 0).cell (Nat.zero_le _) (k1))) (at_top rfl)) ?_
   refine bl_cons 6 rfl (isV (.bool (inQ y st))) (stab_isV _) (rg_call [isV _, isV _] rfl goes_73 (w_free rfl) ⟨p_tmp (g_dep 0 (by kernel_rfl) (at_dep rfl rfl rfl)), p_tmp (g_dep 4 (by kernel_rfl) (at_dep rfl rfl rfl)), trivial⟩ (fun vs w' hb hh => by have e := holds_isV (us := [_, _]) hh; subst e; exact (stR_is ⟨s, st, sy, fa, fl, fc, fs, ta, tl, tc, ts⟩ y _).mono fun e w2 h => ⟨_, h.1, rfl, h.2⟩) (at_top rfl)) ?_
   refine bl_cons 7 rfl (isV _) (stab_isV _) (rgV (li := [(26, _)]) rfl (w_free rfl) ⟨g_dep 5 (by kernel_rfl) (at_dep rfl rfl rfl), trivial⟩ (fun w hw => rn_not rfl) (at_top rfl)) ?_
   refine bl_nil ?_
   intro W3 hbR hS'
   clear hS; have hS := hS'; clear hS'
   iterate 7 refine fin_v ?_
   refine fin_nil ?_
   refine XF.thenN ?_
   refine condF rfl (fun hc => ?_) (fun hc => ?_)
   ·have hc27 := hc; clear hc
    refine seqF (regF ?_)
    refine op_assign rfl rfl ?_
    refine endF (XF.thenN ?_)
    refine retF ?_
    refine XF.blkR ?_
    iterate 2 refine XF.thenR ?_
    refine XF.blkR ?_
    refine XF.thenR ?_
    refine XF.res (res1 Try.results48 rfl) ?_
    exact ⟨rint (by unfold askE; rw [if_neg h0, if_neg (by rw [all_false_at hy (by simpa using hc27)]; decide)]), hS.below⟩
   ·have hc27 := hc; clear hc
    refine skipF ?_
    refine XF.blkN ?_
    refine XF.thenN ?_
    refine regF ?_
    refine op_move rfl rfl ?_
    refine op_add rfl rfl (IntWalk.i64_in _ (by omega)) rfl ?_
    refine op_assign rfl rfl ?_
    refine endF ?_
    exact XF.round (rl - (i + 1)) [(1, _), (2, _), (3, _), (8, _)] (by omega) ⟨rfl, rfl, rfl, rfl, trivial⟩ ⟨i + 1, by omega, rfl, rfl, all_take_at hy hall (by simpa using hc27), hS.clear⟩
  ·have hc18 := of_decide_eq_false hc; clear hc
   rw [List.take_of_length_le (by omega)] at hall
   have h1 := hall
   clear hall
   refine exitF ?_
   iterate 2 refine XF.thenX ?_
   refine XF.blkX ?_
   refine XF.thenN ?_
   refine seqF ?_
   refine seqF (regF ?_)
   refine op_assign rfl rfl ?_
   refine endF (XF.thenN ?_)
   refine blockF ?_
   refine loopF (fun m l W => ∃ i : Nat, i ≤ wl ∧ m = wl - i ∧ l = [(1, .slice ra rl rc), (2, .slice wa wl wc), (3, .pointer (some ⟨B1, 0, none⟩)), (9, .int .i64 (i : Int))] ∧ (ws.take i).all (fun y => inQ y sy) = true ∧ St w [(B1, [.int .i64 s.f.tag, .int .i64 s.f.dim, .slice s.f.a s.f.len s.f.cap, .int .i64 st, .int .i64 sy, .slice fa fl fc, .slice ta tl tc], 60)] [] [] W) (wl - 0) ([(1, _), (2, _), (3, _), (9, _)]) ⟨rfl, rfl, rfl, rfl, trivial⟩ (⟨0, Nat.zero_le _, rfl, rfl, rfl, hS.clear⟩) ?_
   clear hS
   rintro m l W ⟨i, hi, rfl, rfl, hall, hS⟩
   refine seqF ?_
   refine seqF (regF ?_)
   iterate 2 refine op_move rfl rfl ?_
   refine op_len Try.underlying29 rfl rfl ?_
   refine op_lss rfl rfl rfl ?_
   refine endF (XF.thenN ?_)
   refine condF rfl (fun hc => ?_) (fun hc => ?_)
   ·have hc31 := of_decide_eq_true hc; clear hc
    have hk : i < wl := by omega
    obtain ⟨b, off, y, rfl, hy, hyc⟩ := hwa.at1 (show i < ws.length by omega)
    have k1 := hS.old hyc
    refine skipF ?_
    refine XF.thenN ?_
    refine seqF ?_
    refine blockF ?_
    refine seqF ?_
    by_cases hy0 : y < 0
    ·have e5 : inQ y sy = false := by simp [inQ]; omega
     refine regB (m := 14) followsM hS (by kernel_rfl) (by kernel_rfl) rfl ?_
     refine bl_cons 1 rfl (isV _) (stab_isV _) (rgV (li := [(2, _)]) rfl (w_free rfl) ⟨g_fr (by kernel_rfl) rfl, trivial⟩ (fun w hw => rn_move rfl) (at_top rfl)) ?_
     refine bl_cons 2 rfl (isV _) (stab_isV _) (rgV (li := [(9, _)]) rfl (w_free rfl) ⟨g_fr (by kernel_rfl) rfl, trivial⟩ (fun w hw => rn_move rfl) (at_top rfl)) ?_
     refine bl_cons 3 rfl (isV _) (stab_isV _) (rgV (li := [(34, _), (35, _)]) rfl (w_free rfl) ⟨g_dep 0 (by kernel_rfl) (at_dep rfl rfl rfl), g_dep 1 (by kernel_rfl) (at_dep rfl rfl rfl), trivial⟩ (fun w hw => rn_indexA  Try.underlying29 Try.sizeOf3 rfl rfl rfl (by omega) rfl) (at_top rfl)) ?_
     refine bl_cons 4 rfl (isV _) (stab_isV _) (rgV (li := [(36, _)]) rfl (w_free rfl) ⟨g_dep 2 (by kernel_rfl) (at_dep rfl rfl rfl), trivial⟩ (fun w hw => rn_load Try.isAgg3 rfl ((below_agree hw 0).cell (Nat.zero_le _) (k1))) (at_top rfl)) ?_
     refine bl_cons 5 rfl (isV (.bool true)) (stab_isV _) (rgVe (li := [(37, _)]) rfl (w_free rfl) ⟨g_dep 3 (by kernel_rfl) (at_dep rfl rfl rfl), trivial⟩ (fun w hw => rn_lss rfl rfl) (by rw [decide_eq_true hy0]) (at_top rfl)) ?_
     refine bl_cons 6 rfl (isV _) (stab_isV _) (rgV (li := [(38, _)]) rfl (w_free rfl) ⟨g_dep 4 (by kernel_rfl) (at_dep rfl rfl rfl), trivial⟩ (fun w hw => rn_move rfl) (at_top rfl)) ?_
     refine bl_cons 7 rfl (isV undef) (stab_isV _) (rg_no rfl (w_no 39 rfl (by kernel_rfl) (by kernel_rfl) (at_dep rfl rfl rfl) rfl) (at_top rfl)) ?_
     refine bl_cons 8 rfl (isV undef) (stab_isV _) (rg_no rfl (w_no 39 rfl (by kernel_rfl) (by kernel_rfl) (at_dep rfl rfl rfl) rfl) (at_top rfl)) ?_
     refine bl_cons 9 rfl (isV undef) (stab_isV _) (rg_no rfl (w_no 39 rfl (by kernel_rfl) (by kernel_rfl) (at_dep rfl rfl rfl) rfl) (at_top rfl)) ?_
     refine bl_cons 10 rfl (isV undef) (stab_isV _) (rg_no rfl (w_no 39 rfl (by kernel_rfl) (by kernel_rfl) (at_dep rfl rfl rfl) rfl) (at_top rfl)) ?_
     refine bl_cons 11 rfl (isV undef) (stab_isV _) (rg_no rfl (w_no 39 rfl (by kernel_rfl) (by kernel_rfl) (at_dep rfl rfl rfl) rfl) (at_top rfl)) ?_
     refine bl_cons 12 rfl (isV undef) (stab_isV _) (rg_no rfl (w_no 39 rfl (by kernel_rfl) (by kernel_rfl) (at_dep rfl rfl rfl) rfl) (at_top rfl)) ?_
     refine bl_cons 13 rfl (isV undef) (stab_isV _) (rg_no rfl (w_no 39 rfl (by kernel_rfl) (by kernel_rfl) (at_dep rfl rfl rfl) rfl) (at_top rfl)) ?_
     refine bl_cons 14 rfl (isV _) (stab_isV _) (rgV (li := [(39, _)]) rfl (w_free rfl) ⟨g_dep 5 (by kernel_rfl) (at_dep rfl rfl rfl), trivial⟩ (fun w hw => rn_pickT rfl rfl) (at_top rfl)) ?_
     refine bl_nil ?_
     intro W4 hbR hS'
     clear hS; have hS := hS'; clear hS'
     iterate 14 refine fin_v ?_
     refine fin_nil ?_
     refine XF.thenN ?_
     refine condT rfl ?_
     refine seqF (regF ?_)
     refine op_assign rfl rfl ?_
     refine endF (XF.thenN ?_)
     refine retF ?_
     refine XF.blkR ?_
     iterate 2 refine XF.thenR ?_
     refine XF.blkR ?_
     refine XF.thenR ?_
     refine XF.res (res1 Try.results48 rfl) ?_
     exact ⟨rint (by unfold askE; rw [if_neg h0, if_pos h1, if_neg (by rw [all_false_at hy e5]; decide)]), hS.below⟩
    ·skip
     refine regB (m := 14) followsM hS (by kernel_rfl) (by kernel_rfl) rfl ?_
     refine bl_cons 1 rfl (isV _) (stab_isV _) (rgV (li := [(2, _)]) rfl (w_free rfl) ⟨g_fr (by kernel_rfl) rfl, trivial⟩ (fun w hw => rn_move rfl) (at_top rfl)) ?_
     refine bl_cons 2 rfl (isV _) (stab_isV _) (rgV (li := [(9, _)]) rfl (w_free rfl) ⟨g_fr (by kernel_rfl) rfl, trivial⟩ (fun w hw => rn_move rfl) (at_top rfl)) ?_
     refine bl_cons 3 rfl (isV _) (stab_isV _) (rgV (li := [(34, _), (35, _)]) rfl (w_free rfl) ⟨g_dep 0 (by kernel_rfl) (at_dep rfl rfl rfl), g_dep 1 (by kernel_rfl) (at_dep rfl rfl rfl), trivial⟩ (fun w hw => rn_indexA  Try.underlying29 Try.sizeOf3 rfl rfl rfl (by omega) rfl) (at_top rfl)) ?_
     refine bl_cons 4 rfl (isV _) (stab_isV _) (rgV (li := [(36, _)]) rfl (w_free rfl) ⟨g_dep 2 (by kernel_rfl) (at_dep rfl rfl rfl), trivial⟩ (fun w hw => rn_load Try.isAgg3 rfl ((below_agree hw 0).cell (Nat.zero_le _) (k1))) (at_top rfl)) ?_
     refine bl_cons 5 rfl (isV (.bool false)) (stab_isV _) (rgVe (li := [(37, _)]) rfl (w_free rfl) ⟨g_dep 3 (by kernel_rfl) (at_dep rfl rfl rfl), trivial⟩ (fun w hw => rn_lss rfl rfl) (by rw [decide_eq_false hy0]) (at_top rfl)) ?_
     refine bl_cons 6 rfl (isV _) (stab_isV _) (rgV (li := [(38, _)]) rfl (w_free rfl) ⟨g_dep 4 (by kernel_rfl) (at_dep rfl rfl rfl), trivial⟩ (fun w hw => rn_move rfl) (at_top rfl)) ?_
     refine bl_cons 7 rfl (isV _) (stab_isV _) (rgV (li := [(2, _)]) rfl (w_yes 39 rfl (by kernel_rfl) (by kernel_rfl) (at_dep rfl rfl rfl)) ⟨g_fr (by kernel_rfl) rfl, trivial⟩ (fun w hw => rn_move rfl) (at_top rfl)) ?_
     refine bl_cons 8 rfl (isV _) (stab_isV _) (rgV (li := [(9, _)]) rfl (w_yes 39 rfl (by kernel_rfl) (by kernel_rfl) (at_dep rfl rfl rfl)) ⟨g_fr (by kernel_rfl) rfl, trivial⟩ (fun w hw => rn_move rfl) (at_top rfl)) ?_
     refine bl_cons 9 rfl (isV _) (stab_isV _) (rgV (li := [(40, _), (41, _)]) rfl (w_yes 39 rfl (by kernel_rfl) (by kernel_rfl) (at_dep rfl rfl rfl)) ⟨g_dep 6 (by kernel_rfl) (at_dep rfl rfl rfl), g_dep 7 (by kernel_rfl) (at_dep rfl rfl rfl), trivial⟩ (fun w hw => rn_indexA  Try.underlying29 Try.sizeOf3 rfl rfl rfl (by omega) rfl) (at_top rfl)) ?_
     refine bl_cons 10 rfl (isV _) (stab_isV _) (rgV (li := [(42, _)]) rfl (w_yes 39 rfl (by kernel_rfl) (by kernel_rfl) (at_dep rfl rfl rfl)) ⟨g_dep 8 (by kernel_rfl) (at_dep rfl rfl rfl), trivial⟩ (fun w hw => rn_load Try.isAgg3 rfl ((below_agree hw 0).cell (Nat.zero_le _) (k1))) (at_top rfl)) ?_
     refine bl_cons 11 rfl (isV _) (stab_isV _) (rgV (li := [(3, _)]) rfl (w_yes 39 rfl (by kernel_rfl) (by kernel_rfl) (at_dep rfl rfl rfl)) ⟨g_fr (by kernel_rfl) rfl, trivial⟩ (fun w hw => rn_field (o' := 4) fa_60_2 rfl rfl) (at_top rfl)) ?_
     refine bl_cons 12 rfl (isV _) (stab_isV _) (rgV (li := [(44, _)]) rfl (w_yes 39 rfl (by kernel_rfl) (by kernel_rfl) (at_dep rfl rfl rfl)) ⟨g_dep 10 (by kernel_rfl) (at_dep rfl rfl rfl), trivial⟩ (fun w hw => rn_load Try.isAgg3 rfl ((below_agree hw 0).cell (Nat.zero_le _) (cell_own (hS.at_ 0 rfl) rfl))) (at_top rfl)) ?_
     refine bl_cons 13 rfl (isV _) (stab_isV _) (rgV (li := [(43, _), (45, _)]) rfl (w_yes 39 rfl (by kernel_rfl) (by kernel_rfl) (at_dep rfl rfl rfl)) ⟨g_dep 9 (by kernel_rfl) (at_dep rfl rfl rfl), g_dep 11 (by kernel_rfl) (at_dep rfl rfl rfl), trivial⟩ (fun w hw => rn_geq rfl rfl) (at_top rfl)) ?_
     refine bl_cons 14 rfl (isV _) (stab_isV _) (rgV (li := [(39, _), (46, _)]) rfl (w_free rfl) ⟨g_dep 5 (by kernel_rfl) (at_dep rfl rfl rfl), g_dep 12 (by kernel_rfl) (at_dep rfl rfl rfl), trivial⟩ (fun w hw => rn_pickF rfl rfl) (at_top rfl)) ?_
     refine bl_nil ?_
     intro W5 hbR hS'
     clear hS; have hS := hS'; clear hS'
     iterate 14 refine fin_v ?_
     refine fin_nil ?_
     refine XF.thenN ?_
     refine condF rfl (fun hc => ?_) (fun hc => ?_)
     ·have hc47 := hc; clear hc
      have e5 : inQ y sy = false := by have := of_decide_eq_true hc47; simp [inQ]; omega
      refine seqF (regF ?_)
      refine op_assign rfl rfl ?_
      refine endF (XF.thenN ?_)
      refine retF ?_
      refine XF.blkR ?_
      iterate 2 refine XF.thenR ?_
      refine XF.blkR ?_
      refine XF.thenR ?_
      refine XF.res (res1 Try.results48 rfl) ?_
      exact ⟨rint (by unfold askE; rw [if_neg h0, if_pos h1, if_neg (by rw [all_false_at hy e5]; decide)]), hS.below⟩
     ·have hc47 := hc; clear hc
      have e5 : inQ y sy = true := by have := of_decide_eq_false hc47; simp [inQ]; omega
      refine skipF ?_
      refine XF.blkN ?_
      refine XF.thenN ?_
      refine regF ?_
      refine op_move rfl rfl ?_
      refine op_add rfl rfl (IntWalk.i64_in _ (by omega)) rfl ?_
      refine op_assign rfl rfl ?_
      refine endF ?_
      exact XF.round (wl - (i + 1)) [(1, _), (2, _), (3, _), (9, _)] (by omega) ⟨rfl, rfl, rfl, rfl, trivial⟩ ⟨i + 1, by omega, rfl, rfl, all_take_at hy hall e5, hS.clear⟩
   ·have hc31 := of_decide_eq_false hc; clear hc
    rw [List.take_of_length_le (by omega)] at hall
    refine exitF ?_
    iterate 2 refine XF.thenX ?_
    refine XF.blkX ?_
    refine XF.thenN ?_
    refine seqF (regF ?_)
    refine op_assign rfl rfl ?_
    refine endF (XF.thenN ?_)
    refine retF ?_
    refine XF.res (res1 Try.results48 rfl) ?_
    exact ⟨rint (by unfold askE; rw [if_neg h0, if_pos h1, if_pos hall]), hS.below⟩
theorem still10_c (ds d : Nat) (s : SV) (st sy : Int) (fa : Option Addr) (fl fc : Nat) (fs : List Int) (ta : Option Addr) (tl tc : Nat) (ts : List TV) (w : World) (hs : SIn w ds s) (hfrow : Row w fa fs) (hflen : fs.length = fl) (htrow : TRow w ta ts) (htlen : ts.length = tl) (htin : ∀ t ∈ ts, WIn w d t.x) (hfm : fl ≤ 9223372036854775807) (htm : tl ≤ 9223372036854775807) (bk : Bool) (la : Option Addr) (ll lc : Nat) (hne : ∀ t ∈ ts, 0 ≤ t.g) :
  Calls Try.prog 49 #[.agg #[.int .i64 s.f.tag, .int .i64 s.f.dim, .slice s.f.a s.f.len s.f.cap, .int .i64 st, .int .i64 sy, .slice fa fl fc, .slice ta tl tc], .bool bk, .bool false, .slice la ll lc] w (fun e w' => e = .returned (.slice la ll lc) ∧ Below w.heap.size w w') := by
 refine enterF (args := [.agg #[.int .i64 s.f.tag, .int .i64 s.f.dim, .slice s.f.a s.f.len s.f.cap, .int .i64 st, .int .i64 sy, .slice fa fl fc, .slice ta tl tc], .bool bk, .bool false, .slice la ll lc]) Try.func49 rfl Try.ntmps49 rfl ?_
 have hS := St.start w
 refine seqF (regF ?_)
 refine op_box (cs := [_, _, _, _, _, _, _]) hS rfl rfl rfl ?_
 clear hS; intro B1 W1 hS
 refine op_assign rfl rfl ?_
 refine endF (XF.thenN ?_)
 refine seqF ?_
 refine seqF (regF ?_)
 refine op_assign rfl rfl ?_
 refine endF (XF.thenN ?_)
 refine blockF ?_
 refine loopF (fun m l W => ∃ b0 : Bool, m = (if b0 then 1 else 0) ∧ l = [(1, .bool bk), (2, .bool false), (3, .slice la ll lc), (4, .pointer (some ⟨B1, 0, none⟩)), (9, .bool b0)] ∧ St w [(B1, [.int .i64 s.f.tag, .int .i64 s.f.dim, .slice s.f.a s.f.len s.f.cap, .int .i64 st, .int .i64 sy, .slice fa fl fc, .slice ta tl tc], 60)] [] [] W) (1) ([(1, _), (2, _), (3, _), (4, _), (9, _)]) ⟨rfl, rfl, rfl, rfl, rfl, trivial⟩ (⟨true, rfl, rfl, hS.clear⟩) ?_
 clear hS
 rintro m l W ⟨b0, rfl, rfl, hS⟩
 refine seqF ?_
 refine seqF (regF ?_)
 refine op_move rfl rfl ?_
 refine endF (XF.thenN ?_)
 refine condF rfl (fun hc => ?_) (fun hc => ?_)
 ·have hc13 := hc; clear hc
  obtain rfl : b0 = true := hc13
  refine skipF ?_
  refine XF.thenN ?_
  refine blockF ?_
  refine seqF (regF ?_)
  refine op_assign rfl rfl ?_
  refine endF (XF.thenN ?_)
  refine seqF (regF ?_)
  refine op_assign rfl rfl ?_
  refine endF (XF.thenN ?_)
  refine blockF ?_
  refine loopF (fun m l W => ∃ i : Nat, i ≤ tl ∧ m = tl - i ∧ l = [(1, .bool bk), (2, .bool false), (3, .slice la ll lc), (4, .pointer (some ⟨B1, 0, none⟩)), (9, .bool false), (10, .int .i64 (i : Int))] ∧ St w [(B1, [.int .i64 s.f.tag, .int .i64 s.f.dim, .slice s.f.a s.f.len s.f.cap, .int .i64 st, .int .i64 sy, .slice fa fl fc, .slice ta tl tc], 60)] [] [] W) (tl - 0) ([(1, _), (2, _), (3, _), (4, _), (9, _), (10, _)]) ⟨rfl, rfl, rfl, rfl, rfl, rfl, trivial⟩ (⟨0, Nat.zero_le _, rfl, rfl, hS.clear⟩) ?_
  clear hS
  rintro m l W ⟨i, hi, rfl, rfl, hS⟩
  refine seqF ?_
  refine seqF (regF ?_)
  refine op_move rfl rfl ?_
  refine op_field (o' := 6) fa_60_4 rfl rfl rfl ?_
  refine op_load Try.isAgg58 rfl (cell_own (hS.at_ 0 rfl) rfl) rfl ?_
  refine op_len Try.underlying58 rfl rfl ?_
  refine op_lss rfl rfl rfl ?_
  refine endF (XF.thenN ?_)
  refine condF rfl (fun hc => ?_) (fun hc => ?_)
  ·have hc18 := of_decide_eq_true hc; clear hc
   have hk : i < tl := by omega
   obtain ⟨r, hr⟩ : ∃ r, ts[i]? = some r := ⟨ts[i]'(by omega), by simp [show i < ts.length by omega]⟩
   obtain ⟨b, off, rfl, hcs⟩ := htrow.at_ hr
   have k1 := CellsAt.agree hS.agree (Nat.zero_le _) hcs
   have hri := htin r (List.mem_of_getElem? hr)
   have hg9 := hne r (List.mem_of_getElem? hr)
   refine skipF ?_
   refine XF.thenN ?_
   refine seqF ?_
   refine blockF ?_
   refine seqF (regF ?_)
   refine op_field (o' := 6) fa_60_4 rfl rfl rfl ?_
   refine op_load Try.isAgg58 rfl (cell_own (hS.at_ 0 rfl) rfl) rfl ?_
   refine op_move rfl rfl ?_
   refine op_indexA  Try.underlying58 Try.sizeOf100 rfl rfl rfl (by omega) rfl rfl ?_
   refine op_loadA (vs := [_, _, _, _, _, _, _, _, _]) Try.isAgg100 Try.sizeOf100 rfl (k1) rfl ?_
   refine op_alloc (cs := [_, _, _, _, _, _, _, _, _]) hS Try.zeroValue100 rfl rfl ?_
   clear hS; intro B2 W2 hS
   refine op_storeA (i := 0) (vs := [_, _, _, _, _, _, _, _, _]) (cs' := [_, _, _, _, _, _, _, _, _]) (O' := [_, _]) hS Try.sizeOf100 rfl rfl rfl rfl rfl rfl rfl ?_
   clear hS; intro W3 hS
   refine endF (XF.thenN ?_)
   refine seqF ?_
   refine seqF (regF ?_)
   refine op_field (o' := 1) fa_100_1 rfl rfl rfl ?_
   refine op_load Try.isAgg3 rfl (cell_own (hS.at_ 0 rfl) rfl) rfl ?_
   refine op_geq rfl rfl rfl ?_
   refine op_move rfl rfl ?_
   refine op_cases (d := 29) rfl (fun hc => ?_) (fun hc => absurd (of_decide_eq_false hc) (by omega))
   have hc := of_decide_eq_true hc
   refine op_wantedF (d := 29) rfl rfl ?_
   refine op_move rfl rfl ?_
   refine op_wantedF (d := 29) rfl rfl ?_
   refine op_not rfl rfl ?_
   refine op_pickT rfl rfl rfl ?_
   refine endF (XF.thenN ?_)
   refine condF rfl (fun hc => ?_) (fun hc => absurd hc (by decide))
   skip
   refine exitF ?_
   refine XF.thenX ?_
   refine XF.blkX ?_
   refine XF.thenN ?_
   refine regF ?_
   refine op_move rfl rfl ?_
   refine op_add rfl rfl (IntWalk.i64_in _ (by omega)) rfl ?_
   refine op_assign rfl rfl ?_
   refine endF ?_
   exact XF.round (tl - (i + 1)) [(1, _), (2, _), (3, _), (4, _), (9, _), (10, _)] (by omega) ⟨rfl, rfl, rfl, rfl, rfl, rfl, trivial⟩ ⟨i + 1, by omega, rfl, rfl, hS.tail.clear⟩
  ·have hc18 := of_decide_eq_false hc; clear hc
   refine exitF ?_
   iterate 2 refine XF.thenX ?_
   refine XF.blkX ?_
   refine XF.blkN ?_
   exact XF.round 0 [(1, _), (2, _), (3, _), (4, _), (9, _)] (by decide) ⟨rfl, rfl, rfl, rfl, rfl, trivial⟩ ⟨false, rfl, rfl, hS.clear⟩
 ·have hc13 := hc; clear hc
  refine exitF ?_
  iterate 2 refine XF.thenX ?_
  refine XF.blkX ?_
  refine XF.thenN ?_
  refine seqF (regF ?_)
  refine op_move rfl rfl ?_
  refine op_assign rfl rfl ?_
  refine endF (XF.thenN ?_)
  refine retF ?_
  refine XF.res (res1 Try.results49 rfl) ?_
  exact ⟨rfl, hS.below⟩
end Go.Proofs.Ytpkcaabbcoiiiaa
namespace Go.Proofs.Ytpkcaabbcoiiiaa
open Go Go.RowKit
theorem goesEither : goesIn Try.prog 75 = true := by kernel_rfl
theorem wret_gA {P : Program} {f : FuncId} {vs : Array Value} {w : World} {S : PS} {x : PX} {lo : Nat} (hlo : lo ≤ w.heap.size) (h : Calls P f vs w (WRet S x w)) : Calls P f vs w (GivesN (isNew lo S x) w) := h.mono fun e w' ⟨f, he, hn, hb⟩ => ⟨_, he, fun w2 hg => ⟨f, rfl, (hn.agree hg).mono hlo⟩, hb⟩
theorem eitherA {w : World} {M : World → Prop} {S : PS} {sf : SF} {f g : WF} {x y : PX} {lo : Nat} (hK : KeepsB M) (hs : SIs w S sf) (hok : S.ok) (hM : M w) (h1 : FarX M S f x) (h2 : XNew lo w S g y) (hlo : lo ≤ w.heap.size) :
  Calls Try.prog 75 #[sf.val, f.val, g.val] w (GivesA lo (isFar M lo S (combX S x y)) w) := by
 refine (eitherR_ok (M := fun W => M W ∧ Agree lo w W) (fun W W' h hb => ⟨hK _ _ h.1 hb, h.2.trans (below_agree hb lo)⟩) hs hok ⟨hM, Nat.le_refl _, fun _ _ _ => rfl⟩ (h1.mono fun W h => h.1) (h2.far.mono fun W h => h.2)).mono ?_
 rintro e w2 ⟨f3, rfl, hx, hb⟩
 exact ⟨_, rfl, fun w3 hg => ⟨f3, rfl, hx.mono fun W hW => ⟨⟨hW.1, ((below_agree hb lo).trans hg).trans hW.2⟩, agree_lo (hg.trans hW.2) hlo⟩⟩, hb⟩
theorem getD_some9 {α : Type} {l : List α} {i : Nat} {x d : α} (h : l[i]? = some x) : l.getD i d = x := by
 rw [List.getD_eq_getElem?_getD, h]; rfl
theorem inQ_nat {x : Int} {n : Nat} (h : inQ x (n : Int) = true) : ∃ k : Nat, x = (k : Int) ∧ k < n := by
 simp only [inQ, Bool.and_eq_true, decide_eq_true_eq] at h
 exact ⟨x.toNat, by omega, by omega⟩
theorem w6_cells9 {w : World} {b o : Nat} {f : WF} (h : W6 w b o f) : CellsAt w b o f.six := ⟨h.1, h.2.1, h.2.2.1, h.2.2.2.1, h.2.2.2.2.1, h.2.2.2.2.2, trivial⟩
end Go.Proofs.Ytpkcaabbcoiiiaa
namespace Go.Proofs.Ytpkcaabbcoiiiaa
open Go Go.RowKit
theorem goes_76 : goesIn Try.prog 76 = true := by kernel_rfl
theorem rest10_c (ds d : Nat) (s : SV) (n9 : Nat) (sy : Int) (fa : Option Addr) (fl fc : Nat) (fs : List Int) (ta : Option Addr) (tl tc : Nat) (ts : List TV) (w : World) (hs : SIn w ds s) (hfrow : Row w fa fs) (hflen : fs.length = fl) (htrow : TRow w ta ts) (htlen : ts.length = tl) (htin : ∀ t ∈ ts, WIn w d t.x) (hfm : fl ≤ 9223372036854775807) (htm : tl ≤ 9223372036854775807) (M : World → Prop) (hM : KeepsB M) (hMw : M w) (S : PS) (hsi : SIs w S s.f) (hok : S.ok) (h4 : n9 ≤ 4096) (bk : Bool) (sm : Int) (la : Option Addr) (lc : Nat) (fsl : List WF) (xl : List PX) (py : TV → PX) (hlr : FRow w la fsl) (hlx : XLF M S fsl xl) (hln : xl.length = n9) (hgd : ∀ t ∈ ts, inQ t.f (n9 : Int) = true ∧ inQ t.t (n9 : Int) = true) (hpy : ∀ t ∈ ts, FarX M S t.x.f (py t)) :
  Calls Try.prog 51 #[.agg #[.int .i64 s.f.tag, .int .i64 s.f.dim, .slice s.f.a s.f.len s.f.cap, .int .i64 (n9 : Int), .int .i64 sy, .slice fa fl fc, .slice ta tl tc], .bool bk, .int .i64 sm, .slice la n9 lc] w (fun e w' => ∃ a9 c9 fs9, e = .returned (.slice a9 (restF S bk sm xl py n9 ts).length c9) ∧ (∀ W2, Agree w.heap.size w' W2 → FRow W2 a9 fs9) ∧ XLF (fun W2 => M W2 ∧ Agree w.heap.size w' W2) S fs9 (restF S bk sm xl py n9 ts) ∧ Below w.heap.size w w') := by
 refine enterF (args := [.agg #[.int .i64 s.f.tag, .int .i64 s.f.dim, .slice s.f.a s.f.len s.f.cap, .int .i64 (n9 : Int), .int .i64 sy, .slice fa fl fc, .slice ta tl tc], .bool bk, .int .i64 sm, .slice la n9 lc]) Try.func51 rfl Try.ntmps51 rfl ?_
 have hS := St.start w
 refine seqF (regF ?_)
 refine op_box (cs := [_, _, _, _, _, _, _]) hS rfl rfl rfl ?_
 clear hS; intro B1 W1 hS
 refine op_assign rfl rfl ?_
 refine endF (XF.thenN ?_)
 refine seqF (regF ?_)
 refine op_assign rfl rfl ?_
 refine endF (XF.thenN ?_)
 iterate 2 refine seqF ?_
 have hS := hS.newG 45 6
 refine regF ?_
 refine op_assign rfl rfl ?_
 refine endF (XF.thenN ?_)
 refine blockF ?_
 refine loopF (fun m l W => ∃ (i : Nat) (v : Value) (fs9 : List WF) (Kk : List (Nat × World)), i ≤ n9 ∧ m = n9 - i ∧ l = [(1, .bool bk), (2, .int .i64 sm), (3, .slice la n9 lc), (4, .pointer (some ⟨B1, 0, none⟩)), (9, v), (10, .int .i64 (i : Int))] ∧ (∀ q ∈ Kk, w.heap.size ≤ q.1) ∧ XLF (MK (MZ w M) Kk) S fs9 (List.replicate i (zeroX S)) ∧ fs9.length = i ∧ St w [(B1, [.int .i64 s.f.tag, .int .i64 s.f.dim, .slice s.f.a s.f.len s.f.cap, .int .i64 (n9 : Int), .int .i64 sy, .slice fa fl fc, .slice ta tl tc], 60)] [⟨v, i, fs9.flatMap WF.six, 45, 6⟩] Kk W) (n9 - 0) ([(1, _), (2, _), (3, _), (4, _), (9, _), (10, _)]) ⟨rfl, rfl, rfl, rfl, rfl, rfl, trivial⟩ (⟨0, _, [], _, Nat.zero_le _, rfl, rfl, (by simp), ⟨rfl, fun i f x hf hx => by simp at hf⟩, rfl, hS⟩) ?_
 clear hS
 rintro m l W ⟨i, v, fs9, Kk, hi, rfl, rfl, hKl, hfs, hfl, hS⟩
 refine seqF ?_
 refine seqF (regF ?_)
 refine op_move rfl rfl ?_
 refine op_field (o' := 3) fa_60_1 rfl rfl rfl ?_
 refine op_load Try.isAgg3 rfl (cell_own (hS.at_ 0 rfl) rfl) rfl ?_
 refine op_lss rfl rfl rfl ?_
 refine endF (XF.thenN ?_)
 refine condF rfl (fun hc => ?_) (fun hc => ?_)
 ·have hc16 := of_decide_eq_true hc; clear hc
  refine skipF ?_
  refine XF.thenN ?_
  refine seqF ?_
  refine blockF ?_
  refine regF ?_
  refine op_move rfl rfl ?_
  refine op_field (o' := 0) fa_60_0 rfl rfl rfl ?_
  refine op_loadA (vs := [_, _, _]) Try.isAgg25 Try.sizeOf25 rfl (CellsAt.own (j := 0) (m := 3) (hS.at_ 0 rfl) rfl) rfl ?_
  obtain ⟨lo9, hlo9⟩ : ∃ n, n = W.heap.size := ⟨_, rfl⟩
  have hszw9 := hS.below.size
  refine op_call (vs := [_]) hS goes_25 rfl (zero10_is S s.f _ (hsi.below hS.below) hok) rfl ?_
  rintro e W2 ⟨f9, rfl, hn9, hb⟩
  refine ⟨_, rfl, hb, fun hS' => ?_⟩
  clear hS; have hS := hS'; clear hS'
  rw [← hlo9] at hn9
  have hlw9 : w.heap.size ≤ lo9 := by rw [hlo9]; exact hszw9
  have HX9 : FarX (MK (MZ w M) [(lo9, W2)]) S f9 (zeroX S) := hn9.far.mono (fun W2 hg => hg.2 _ List.mem_cons_self)
  rw [← hlo9] at hS
  clear hb
  refine op_buildSlice (us := [(0, .agg (List.toArray [_, _, _, _, _, _]))]) hS Try.underlying43 Try.sizeOf45 Try.zeroValue45 rfl rfl rfl (bs_43_1 _ _ _ _ _ _) rfl ?_
  clear hS; intro B3 W3 hS
  refine op_append (i := 0) (news := [_, _, _, _, _, _]) hS Try.underlying43 inf_45 rfl rfl (by show 0 < 6; decide) rfl rfl rfl rfl rfl (CellsAt.own (j := 0) (m := 6) (hS.at_ 0 rfl) rfl) rfl rfl (by dsimp only; simp only [maxLen]; omega) (by dsimp only; show _ * 96 ≤ _; omega) rfl ?_
  clear hS; intro v4 W4 hS
  refine op_assign rfl rfl ?_
  refine endF ?_
  refine XF.blkN ?_
  refine XF.thenN ?_
  refine regF ?_
  refine op_move rfl rfl ?_
  refine op_add rfl rfl (IntWalk.i64_in _ (by omega)) rfl ?_
  refine op_assign rfl rfl ?_
  refine endF ?_
  exact XF.round (n9 - (i + 1)) [(1, _), (2, _), (3, _), (4, _), (9, _), (10, _)] (by omega) ⟨rfl, rfl, rfl, rfl, rfl, rfl, trivial⟩ ⟨i + 1, _, fs9 ++ [f9], _, by omega, rfl, rfl, (fun q hq => by rcases List.mem_cons.1 hq with rfl | hq; exact hlw9; exact hKl q hq), by rw [List.replicate_succ']; exact xlf_app (xlf_keep hfs (fun q hq => by simp [hq])) (HX9.keepM (fun q hq => by simp at hq; subst hq; simp)), by rw [List.length_append, hfl]; rfl, hS.tail.castG (by simp)⟩
 ·have hc16 := of_decide_eq_false hc; clear hc
  have hin : i = n9 := by omega
  subst hin
  refine exitF ?_
  iterate 2 refine XF.thenX ?_
  refine XF.blkX ?_
  refine XF.thenN ?_
  iterate 2 refine seqF ?_
  rcases Nat.eq_zero_or_pos i with h0 | h0
  ·obtain ⟨a9, c9, rfl⟩ := hS.headSl
   have hts : ts = [] := by
    cases ts with
    | nil => rfl
    | cons t r =>
     obtain ⟨k, _, hk⟩ := inQ_nat (hgd t List.mem_cons_self).1
     omega
   have htl0 : tl = 0 := by rw [hts] at htlen; exact htlen.symm
   refine regF ?_
   refine op_assign rfl rfl ?_
   refine endF (XF.thenN ?_)
   refine blockF ?_
   refine loopF (fun m l W => l = [(1, .bool bk), (2, .int .i64 sm), (3, .slice la i lc), (4, .pointer (some ⟨B1, 0, none⟩)), (9, .slice a9 i c9), (11, .int .i64 0)] ∧ St w [(B1, [.int .i64 s.f.tag, .int .i64 s.f.dim, .slice s.f.a s.f.len s.f.cap, .int .i64 (i : Int), .int .i64 sy, .slice fa fl fc, .slice ta tl tc], 60)] [⟨.slice a9 i c9, i, fs9.flatMap WF.six, 45, 6⟩] Kk W) (0) ([(1, _), (2, _), (3, _), (4, _), (9, _), (11, _)]) ⟨rfl, rfl, rfl, rfl, rfl, rfl, trivial⟩ (⟨rfl, hS⟩) ?_
   clear hS
   rintro m l W ⟨rfl, hS⟩
   refine seqF ?_
   refine seqF (regF ?_)
   refine op_move rfl rfl ?_
   refine op_field (o' := 6) fa_60_4 rfl rfl rfl ?_
   refine op_load Try.isAgg58 rfl (cell_own (hS.at_ 0 rfl) rfl) rfl ?_
   refine op_len Try.underlying58 rfl rfl ?_
   refine op_lss rfl rfl rfl ?_
   refine endF (XF.thenN ?_)
   refine condF rfl (fun hc => absurd (of_decide_eq_true hc) (by omega)) (fun hc => ?_)
   have hc := of_decide_eq_false hc
   refine exitF ?_
   iterate 2 refine XF.thenX ?_
   refine XF.blkX ?_
   refine XF.thenN ?_
   refine seqF (regF ?_)
   refine op_move rfl rfl ?_
   refine op_assign rfl rfl ?_
   refine endF (XF.thenN ?_)
   refine retF ?_
   refine XF.res (res1 Try.results51 rfl) ?_
   exact ⟨a9, c9, [], by rw [restF_len, h0], (fun W2 hg => .inl rfl), ⟨by rw [restF_len, h0]; rfl, fun j f x hf hx => by simp at hf⟩, hS.below⟩
  ·obtain ⟨a9, c9, rfl⟩ := hS.headSl
   obtain ⟨b9, cs9, rfl, hS9⟩ := hS.rowOwn h0
   clear hS; have hS := hS9; clear hS9
   refine regF ?_
   refine op_assign rfl rfl ?_
   refine endF (XF.thenN ?_)
   refine blockF ?_
   refine loopF (fun m l W => ∃ (j : Nat) (gs : List WF) (Kj : List (Nat × World)), j ≤ tl ∧ m = tl - j ∧ l = [(1, .bool bk), (2, .int .i64 sm), (3, .slice la i lc), (4, .pointer (some ⟨B1, 0, none⟩)), (9, .slice (some ⟨b9, 0, none⟩) i c9), (11, .int .i64 (j : Int))] ∧ (∀ q ∈ Kj, w.heap.size ≤ q.1) ∧ XLF (MK (MZ w M) Kj) S gs (restF S bk sm xl py i (ts.take j)) ∧ gs.length = i ∧ St w [(b9, gs.flatMap WF.six ++ cs9, 45), (B1, [.int .i64 s.f.tag, .int .i64 s.f.dim, .slice s.f.a s.f.len s.f.cap, .int .i64 (i : Int), .int .i64 sy, .slice fa fl fc, .slice ta tl tc], 60)] [] Kj W) (tl - 0) ([(1, _), (2, _), (3, _), (4, _), (9, _), (11, _)]) ⟨rfl, rfl, rfl, rfl, rfl, rfl, trivial⟩ (⟨0, fs9, _, Nat.zero_le _, rfl, rfl, hKl, hfs, hfl, hS⟩) ?_
   clear hS
   clear hfs hfl hS hKl; rintro m l W ⟨j, gs, Kj, hj, rfl, rfl, hKl, hgs, hgl, hS⟩
   refine seqF ?_
   refine seqF (regF ?_)
   refine op_move rfl rfl ?_
   refine op_field (o' := 6) fa_60_4 rfl rfl rfl ?_
   refine op_load Try.isAgg58 rfl (cell_own (hS.at_ 1 rfl) rfl) rfl ?_
   refine op_len Try.underlying58 rfl rfl ?_
   refine op_lss rfl rfl rfl ?_
   refine endF (XF.thenN ?_)
   refine condF rfl (fun hc => ?_) (fun hc => ?_)
   ·have hc29 := of_decide_eq_true hc; clear hc
    have hk : j < tl := by omega
    obtain ⟨r, hr⟩ : ∃ r, ts[j]? = some r := ⟨ts[j]'(by omega), by simp [show j < ts.length by omega]⟩
    obtain ⟨b, off, rfl, hcs⟩ := htrow.at_ hr
    have hmr := List.mem_of_getElem? hr
    have hpr := hpy r hmr
    obtain ⟨hg1, hg2⟩ := hgd r hmr
    obtain ⟨fN, hfN, hfN2⟩ := inQ_nat hg1
    obtain ⟨tN, htN, htN2⟩ := inQ_nat hg2
    obtain ⟨rf, rg, rt, rx⟩ := r
    dsimp only at hfN htN hpr
    subst hfN; subst htN
    dsimp only [TV.nine] at hcs
    have k1 := CellsAt.agree hS.agree (Nat.zero_le _) hcs
    obtain ⟨f5, x50, hf5, hx50, hF50⟩ := hgs.at_ (k := fN) (by omega)
    obtain ⟨fl5, x5, hfl5, hx5, hxi5⟩ := hlx.at_ (k := tN) (by have := hlx.1; omega)
    obtain ⟨lb, lo5, rfl, hlc⟩ : ∃ b o, la = some ⟨b, o, none⟩ ∧ ∀ (i : Nat) f, fsl[i]? = some f → W6 w b (o + i * 6) f := by
     rcases hlr with h | h
     ·rw [h] at hfl5; simp at hfl5
     ·exact h
    have hlk := w6_cells9 (hlc tN fl5 hfl5)
    refine skipF ?_
    refine XF.thenN ?_
    refine seqF ?_
    refine blockF ?_
    refine seqF (regF ?_)
    refine op_field (o' := 6) fa_60_4 rfl rfl rfl ?_
    refine op_load Try.isAgg58 rfl (cell_own (hS.at_ 1 rfl) rfl) rfl ?_
    refine op_move rfl rfl ?_
    refine op_indexA  Try.underlying58 Try.sizeOf100 rfl rfl rfl (by omega) rfl rfl ?_
    refine op_loadA (vs := [_, _, _, _, _, _, _, _, _]) Try.isAgg100 Try.sizeOf100 rfl (k1) rfl ?_
    refine op_alloc (cs := [_, _, _, _, _, _, _, _, _]) hS Try.zeroValue100 rfl rfl ?_
    clear hS; intro B5 W5 hS
    refine op_storeA (i := 0) (vs := [_, _, _, _, _, _, _, _, _]) (cs' := [_, _, _, _, _, _, _, _, _]) (O' := [_, _, _]) hS Try.sizeOf100 rfl rfl rfl rfl rfl rfl rfl ?_
    clear hS; intro W6 hS
    refine endF (XF.thenN ?_)
    refine seqF (regF ?_)
    refine op_field (o' := 1) fa_100_1 rfl rfl rfl ?_
    refine op_load Try.isAgg3 rfl (cell_own (hS.at_ 0 rfl) rfl) rfl ?_
    refine op_move rfl rfl ?_
    refine op_eql rfl rfl rfl ?_
    refine endF (XF.thenN ?_)
    refine condF rfl (fun hc => ?_) (fun hc => ?_)
    ·have hc40 := of_decide_eq_true hc; clear hc
     have hlt11 := hS.own_lt
     have hsz11 := hS.below.size
     have hMK := keepsB_MK (keepsB_MZ (w := w) hM) Kj
     have hZw : MZ w M w := ⟨hMw, Nat.le_refl _⟩
     refine regSL (ef := 23) (jy := 21) (ca := caNo (fun _ => [])) (ta := fun _ => 0) (Os := osY _ 1 (0 + fN * 6) b9 (gs.flatMap WF.six ++ cs9) 45) (Gs := gsNo _) (al := []) (k := 24) (ds := []) followsM rfl hS rfl (by kernel_rfl) rfl (by decide) rfl rfl rfl rfl ?_
     refine bls_cons 1 rfl rfl (isV _) (fun hNo => sgV [(9, _)] rfl rfl rfl rfl hNo (w_free rfl) ⟨g_fr (by kernel_rfl) rfl, trivial⟩ (fun ev w he hw => rn_move rfl) (at_top rfl)) ?_
     refine bls_cons 2 rfl rfl (isV _) (fun hNo => sgV [(12, _)] rfl rfl rfl rfl hNo (w_free rfl) ⟨g_fr (by kernel_rfl) rfl, trivial⟩ (fun ev w he hw => rn_field (o' := 0) fa_100_0 rfl rfl) (at_top rfl)) ?_
     refine bls_cons 3 rfl rfl (isV _) (fun hNo => sgV [(42, _)] rfl rfl rfl rfl hNo (w_free rfl) ⟨g_dep 1 (by kernel_rfl) (at_dep rfl rfl rfl), trivial⟩ (fun ev w he hw => rn_load Try.isAgg3 rfl ((cell_own (hw.at_ 0 (osY_at (i := 0) (j := 1) rfl rfl)) rfl))) (at_top rfl)) ?_
     refine bls_cons 4 rfl rfl (isV _) (fun hNo => sgV [(4, _)] rfl rfl rfl rfl hNo (w_free rfl) ⟨g_fr (by kernel_rfl) rfl, trivial⟩ (fun ev w he hw => rn_field (o' := 0) fa_60_0 rfl rfl) (at_top rfl)) ?_
     refine bls_cons 5 rfl rfl (isV _) (fun hNo => sgV [(44, _)] rfl rfl rfl rfl hNo (w_free rfl) ⟨g_dep 3 (by kernel_rfl) (at_dep rfl rfl rfl), trivial⟩ (fun ev w he hw => rn_loadA (vs := [_, _, _]) Try.isAgg25 Try.sizeOf25 rfl ((CellsAt.own (j := 0) (m := 3) (hw.at_ 2 (osY_at (i := 2) (j := 1) rfl rfl)) rfl))) (at_top rfl)) ?_
     refine bls_cons 6 rfl rfl (isV _) (fun hNo => sgV [(9, _)] rfl rfl rfl rfl hNo (w_free rfl) ⟨g_fr (by kernel_rfl) rfl, trivial⟩ (fun ev w he hw => rn_move rfl) (at_top rfl)) ?_
     refine bls_cons 7 rfl rfl (isV _) (fun hNo => sgV [(12, _)] rfl rfl rfl rfl hNo (w_free rfl) ⟨g_fr (by kernel_rfl) rfl, trivial⟩ (fun ev w he hw => rn_field (o' := 0) fa_100_0 rfl rfl) (at_top rfl)) ?_
     refine bls_cons 8 rfl rfl (isV _) (fun hNo => sgV [(47, _)] rfl rfl rfl rfl hNo (w_free rfl) ⟨g_dep 6 (by kernel_rfl) (at_dep rfl rfl rfl), trivial⟩ (fun ev w he hw => rn_load Try.isAgg3 rfl ((cell_own (hw.at_ 0 (osY_at (i := 0) (j := 1) rfl rfl)) rfl))) (at_top rfl)) ?_
     refine bls_cons 9 rfl rfl (isV _) (fun hNo => sgV [(46, _), (48, _)] rfl rfl rfl rfl hNo (w_free rfl) ⟨g_dep 5 (by kernel_rfl) (at_dep rfl rfl rfl), g_dep 7 (by kernel_rfl) (at_dep rfl rfl rfl), trivial⟩ (fun ev w he hw => rn_indexA (j := fN) Try.underlying43 Try.sizeOf45 rfl rfl (rfl) (by omega) rfl) (at_top rfl)) ?_
     refine bls_cons 10 rfl rfl (isV _) (fun hNo => sgV [(49, _)] rfl rfl rfl rfl hNo (w_free rfl) ⟨g_dep 8 (by kernel_rfl) (at_dep rfl rfl rfl), trivial⟩ (fun ev w he hw => rn_loadA (vs := [_, _, _, _, _, _]) Try.isAgg45 Try.sizeOf45 rfl ((CellsAt.own (j := 0 + fN * 6) (m := 6) (hw.at_ 1 (osY_at0 (he rfl) rfl)) (six_take hf5)))) (at_top rfl)) ?_
     refine bls_cons 11 rfl rfl (isV _) (fun hNo => sgV [(4, _)] rfl rfl rfl rfl hNo (w_free rfl) ⟨g_fr (by kernel_rfl) rfl, trivial⟩ (fun ev w he hw => rn_field (o' := 0) fa_60_0 rfl rfl) (at_top rfl)) ?_
     refine bls_cons 12 rfl rfl (isV _) (fun hNo => sgV [(51, _)] rfl rfl rfl rfl hNo (w_free rfl) ⟨g_dep 10 (by kernel_rfl) (at_dep rfl rfl rfl), trivial⟩ (fun ev w he hw => rn_loadA (vs := [_, _, _]) Try.isAgg25 Try.sizeOf25 rfl ((CellsAt.own (j := 0) (m := 3) (hw.at_ 2 (osY_at (i := 2) (j := 1) rfl rfl)) rfl))) (at_top rfl)) ?_
     refine bls_cons 13 rfl rfl (isV _) (fun hNo => sgV [(1, _)] rfl rfl rfl rfl hNo (w_free rfl) ⟨g_fr (by kernel_rfl) rfl, trivial⟩ (fun ev w he hw => rn_move rfl) (at_top rfl)) ?_
     refine bls_cons 14 rfl rfl (isV _) (fun hNo => sgV [(12, _)] rfl rfl rfl rfl hNo (w_free rfl) ⟨g_fr (by kernel_rfl) rfl, trivial⟩ (fun ev w he hw => rn_field (o' := 3) fa_100_3 rfl rfl) (at_top rfl)) ?_
     refine bls_cons 15 rfl rfl (isV _) (fun hNo => sgV [(54, _)] rfl rfl rfl rfl hNo (w_free rfl) ⟨g_dep 13 (by kernel_rfl) (at_dep rfl rfl rfl), trivial⟩ (fun ev w he hw => rn_loadA (vs := [_, _, _, _, _, _]) Try.isAgg45 Try.sizeOf45 rfl ((CellsAt.own (j := 3) (m := 6) (hw.at_ 0 (osY_at (i := 0) (j := 1) rfl rfl)) rfl))) (at_top rfl)) ?_
     refine bls_cons 16 rfl rfl (isV _) (fun hNo => sgV [(3, _)] rfl rfl rfl rfl hNo (w_free rfl) ⟨g_fr (by kernel_rfl) rfl, trivial⟩ (fun ev w he hw => rn_move rfl) (at_top rfl)) ?_
     refine bls_cons 17 rfl rfl (isV _) (fun hNo => sgV [(12, _)] rfl rfl rfl rfl hNo (w_free rfl) ⟨g_fr (by kernel_rfl) rfl, trivial⟩ (fun ev w he hw => rn_field (o' := 2) fa_100_2 rfl rfl) (at_top rfl)) ?_
     refine bls_cons 18 rfl rfl (isV _) (fun hNo => sgV [(57, _)] rfl rfl rfl rfl hNo (w_free rfl) ⟨g_dep 16 (by kernel_rfl) (at_dep rfl rfl rfl), trivial⟩ (fun ev w he hw => rn_load Try.isAgg3 rfl ((cell_own (hw.at_ 0 (osY_at (i := 0) (j := 1) rfl rfl)) rfl))) (at_top rfl)) ?_
     refine bls_cons 19 rfl rfl (isV _) (fun hNo => sgV [(56, _), (58, _)] rfl rfl rfl rfl hNo (w_free rfl) ⟨g_dep 15 (by kernel_rfl) (at_dep rfl rfl rfl), g_dep 17 (by kernel_rfl) (at_dep rfl rfl rfl), trivial⟩ (fun ev w he hw => rn_indexA (j := tN) Try.underlying43 Try.sizeOf45 rfl rfl (rfl) (by omega) rfl) (at_top rfl)) ?_
     refine bls_cons 20 rfl rfl (isV _) (fun hNo => sgV [(59, _)] rfl rfl rfl rfl hNo (w_free rfl) ⟨g_dep 18 (by kernel_rfl) (at_dep rfl rfl rfl), trivial⟩ (fun ev w he hw => rn_loadA (vs := [_, _, _, _, _, _]) Try.isAgg45 Try.sizeOf45 rfl (CellsAt.agree hw.agree (Nat.zero_le _) (hlk))) (at_top rfl)) ?_
     refine bls_cons 21 rfl rfl (isNew W6.heap.size S (extB S bk (py ⟨(fN : Int), rg, (tN : Int), rx⟩) x5)) (fun hNo => sg_call [isV _, isV _, isV _, isV _] rfl rfl rfl rfl hNo goes_76 (w_free rfl) ⟨p_tmp (g_dep 11 (by kernel_rfl) (at_dep rfl rfl rfl)), p_tmp (g_dep 12 (by kernel_rfl) (at_dep rfl rfl rfl)), p_tmp (g_dep 14 (by kernel_rfl) (at_dep rfl rfl rfl)), p_tmp (g_dep 19 (by kernel_rfl) (at_dep rfl rfl rfl)), trivial⟩ (fun vs ev w' he hSt hlo hh => by
      have e := holds_isV (us := [_, _, _, _]) hh
      subst e
      exact wret_gA hlo (ext10_is S s.f bk rx.f fl5 (py ⟨(fN : Int), rg, (tN : Int), rx⟩) x5 w' (hsi.below hSt.below) hok (hpr.is (hM _ _ hMw hSt.below)) (hxi5.is (hM _ _ hMw hSt.below)))) (at_top rfl)) ?_
     refine bls_cons 22 rfl rfl (isFar (MK (MZ w M) Kj) W6.heap.size S (combX S x50 (extB S bk (py ⟨(fN : Int), rg, (tN : Int), rx⟩) x5))) (fun hNo => sg_callA [isV _, isV _, isNew W6.heap.size S (extB S bk (py ⟨(fN : Int), rg, (tN : Int), rx⟩) x5)] (osY_lt hlt11 (hlt11 _ (List.mem_cons_of_mem _ List.mem_cons_self))) rfl rfl rfl hNo goesEither (w_free rfl) ⟨p_tmp (g_dep 4 (by kernel_rfl) (at_dep rfl rfl rfl)), p_tmp (g_dep 9 (by kernel_rfl) (at_dep rfl rfl rfl)), p_tmp (g_dep 20 (by kernel_rfl) (at_dep rfl rfl rfl)), trivial⟩ (fun vs ev w' he hSt hlo hh => by
      obtain ⟨v1, v2, v3, rfl, e1, e2, g9, rfl, hg9⟩ := holds3 hh
      have e1 : v1 = _ := e1
      have e2 : v2 = _ := e2
      subst e1; subst e2
      exact eitherA hMK (hsi.below hSt.below) hok (hSt.stays (keepsB_MZ hM) hZw) hF50 hg9 hlo) (at_top rfl)) ?_
     refine bls_cons 23 rfl rfl (isV _) (fun hNo => sgV [(41, _), (43, _)] rfl rfl rfl rfl hNo (w_free rfl) ⟨g_dep 0 (by kernel_rfl) (at_dep rfl rfl rfl), g_dep 2 (by kernel_rfl) (at_dep rfl rfl rfl), trivial⟩ (fun ev w he hw => rn_indexA (j := fN) Try.underlying43 Try.sizeOf45 rfl rfl (rfl) (by omega) rfl) (at_top rfl)) ?_
     refine bls_any 24 rfl (eff_stP (py := isFar (MK (MZ w M) Kj) W6.heap.size S (combX S x50 (extB S bk (py ⟨(fN : Int), rg, (tN : Int), rx⟩) x5))) (m := 6) 1 (0 + fN * 6) [(63, _)] rfl rfl rfl rfl (by kernel_rfl) rfl rfl (fun j hj => by rcases hj with h | rfl <;> first | (cases h <;> rfl) | rfl) ⟨g_dep 22 (by kernel_rfl) (at_dep rfl rfl rfl), trivial⟩ rfl rfl Try.sizeOf45 (fun v w ⟨h, e, _⟩ => by subst e; exact ⟨h.six, rfl, rfl, rfl⟩) (by rw [Nat.ble_eq]; rw [List.length_append, sixes_len]; omega)) ?_
     refine bls_nil ?_
     intro Bf7 y7 W7 Ks7 hsz7 hKs7 hS' hcov7
     clear hS; have hS := hS'.castO (O' := [_, _, _]) rfl; clear hS'
     refine castL (L' := [AwS _ _ (isV _), AwS _ _ (isV _), AwS _ _ (isV _), AwS _ _ (isV _), AwS _ _ (isV _), AwS _ _ (isV _), AwS _ _ (isV _), AwS _ _ (isV _), AwS _ _ (isV _), AwS _ _ (isV _), AwS _ _ (isV _), AwS _ _ (isV _), AwS _ _ (isV _), AwS _ _ (isV _), AwS _ _ (isV _), AwS _ _ (isV _), AwS _ _ (isV _), AwS _ _ (isV _), AwS _ _ (isV _), AwS _ _ (isV _), AwS _ _ (isNew W6.heap.size S (extB S bk (py ⟨(fN : Int), rg, (tN : Int), rx⟩) x5)), (fun v0_ w0_ => v0_ = _ ∧ AwS _ _ (isFar (MK (MZ w M) Kj) W6.heap.size S (combX S x50 (extB S bk (py ⟨(fN : Int), rg, (tN : Int), rx⟩) x5))) v0_ w0_), AwS _ _ (isV _), isV _]) rfl ?_
     iterate 20 refine fin_sV ?_
     refine fin_p ?_; intro _ _
     refine fin_p ?_; rintro _ ⟨rfl, hA7⟩
     obtain ⟨f11, rfl, hF11⟩ := hA7.here
     have H11 := far_afterM hcov7 (xb_lt hlt11 (hlt11 _ (List.mem_cons_of_mem _ List.mem_cons_self))) hsz11 hKs7 hF11
     have hKs11 := hKs7
     refine fin_sV ?_
     refine fin_0 ?_
     refine fin_nil ?_
     refine endF ?_
     refine XF.blkN ?_
     refine XF.thenN ?_
     refine regF ?_
     refine op_move rfl rfl ?_
     refine op_add rfl rfl (IntWalk.i64_in _ (by omega)) rfl ?_
     refine op_assign rfl rfl ?_
     refine endF ?_
     exact XF.round (tl - (j + 1)) [(1, _), (2, _), (3, _), (4, _), (9, _), (11, _)] (by omega) ⟨rfl, rfl, rfl, rfl, rfl, rfl, trivial⟩ ⟨j + 1, gs.set fN f11, _, by omega, rfl, rfl, (fun q hq => by rcases List.mem_append.1 hq with hq | hq; exact Nat.le_trans hsz11 (hKs11 q hq); exact hKl q hq), by rw [restF_take hr]; unfold stepF; dsimp only; rw [if_pos hc40, Int.toNat_natCast, Int.toNat_natCast, getD_some9 hx50, getD_some9 hx5]; exact xlf_set (xlf_keep hgs (fun q hq => by simp [hq])) H11, by rw [List.length_set]; exact hgl, hS.tail.castO (by rw [← six_splice (g := f11) hf5]; rfl)⟩
    ·have hc40 := of_decide_eq_false hc; clear hc
     refine skipF ?_
     refine XF.blkN ?_
     refine XF.thenN ?_
     refine regF ?_
     refine op_move rfl rfl ?_
     refine op_add rfl rfl (IntWalk.i64_in _ (by omega)) rfl ?_
     refine op_assign rfl rfl ?_
     refine endF ?_
     exact XF.round (tl - (j + 1)) [(1, _), (2, _), (3, _), (4, _), (9, _), (11, _)] (by omega) ⟨rfl, rfl, rfl, rfl, rfl, rfl, trivial⟩ ⟨j + 1, gs, _, by omega, rfl, rfl, hKl, by rw [restF_take hr]; unfold stepF; rw [if_neg (by dsimp only; exact hc40)]; exact hgs, hgl, hS.tail⟩
   ·have hc29 := of_decide_eq_false hc; clear hc
    rw [List.take_of_length_le (by omega)] at hgs
    refine exitF ?_
    iterate 2 refine XF.thenX ?_
    refine XF.blkX ?_
    refine XF.thenN ?_
    refine seqF (regF ?_)
    refine op_move rfl rfl ?_
    refine op_assign rfl rfl ?_
    refine endF (XF.thenN ?_)
    refine retF ?_
    refine XF.res (res1 Try.results51 rfl) ?_
    exact ⟨_, c9, gs, by rw [restF_len], frow_ownF hS, xlf_out hS hKl hgs, hS.below⟩
end Go.Proofs.Ytpkcaabbcoiiiaa
namespace Go.Proofs.Ytpkcaabbcoiiiaa
open Go Go.RowKit
def exW : WV := .mk ⟨false, 1, 0, none, 0, 0, [], none, 0, 0, [], none, 0, 0⟩ []
def exP (b1 b2 : Nat) : PV := ⟨.mk ⟨2, 9, none, 0, 0⟩ [], 2, 3, some ⟨b2, 0, none⟩, 2, 2, [⟨0, 1, 0, some ⟨b1, 0, none⟩, 2, 2, [2, 1], exW⟩, ⟨0, 2, 1, none, 0, 0, [], exW⟩]⟩
theorem exW_in (w : World) : WIn w 1 exW := ⟨⟨.inl rfl, rfl, by decide, (fun r hr => by cases hr), .inl rfl, rfl, (fun c hc => by cases hc), by decide⟩, rfl, .inl rfl, fun p hp => by cases hp⟩
theorem row2 {w : World} {b : Nat} {x y : Int} {T : TypeId} (h : w.heap[b]? = some (.cells (List.toArray [.int .i64 x, .int .i64 y]) T (0, 0))) : Row w (some ⟨b, 0, none⟩) [x, y] := row_own h
theorem row1 {w : World} {b : Nat} {x : Int} {T : TypeId} (h : w.heap[b]? = some (.cells (List.toArray [.int .i64 x]) T (0, 0))) : Row w (some ⟨b, 0, none⟩) [x] := by
 refine .inr ⟨b, 0, rfl, fun i hi => ?_⟩
 have : i = 0 := by simp at hi; omega
 subst this
 simp [World.cell?, h]
theorem exP_in {w : World} {b1 b2 : Nat} {T1 T2 : TypeId} (h1 : w.heap[b1]? = some (.cells (List.toArray [.int .i64 2, .int .i64 1]) T1 (0, 0)))
  (h2 : w.heap[b2]? = some (.cells (List.toArray ((⟨0, 1, 0, some ⟨b1, 0, none⟩, 2, 2, [2, 1], exW⟩ : RV).ten ++ (⟨0, 2, 1, none, 0, 0, [], exW⟩ : RV).ten)) T2 (0, 0))) : PvIn w 1 1 (exP b1 b2) := by
 refine ⟨⟨rfl, .inl rfl, fun p hp => by cases hp⟩, .inr ⟨b2, 0, rfl, fun i r hi => ?_⟩, rfl, fun r hr => ?_⟩
 ·match i, hi with
  | 0, hi =>
   cases hi
   exact CellsAt.own (j := 0) (m := 10) h2 rfl
  | 1, hi =>
   cases hi
   exact CellsAt.own (j := 10) (m := 10) h2 rfl
  | i + 2, hi => exact absurd hi (by simp [exP])
 ·rcases List.mem_cons.1 hr with rfl | hr
  ·exact ⟨row2 h1, rfl, exW_in w⟩
  ·rcases List.mem_cons.1 hr with rfl | hr
   ·exact ⟨.inl rfl, rfl, exW_in w⟩
   ·cases hr
theorem example_is (w : World) :
  Calls Try.prog 44 #[] w (fun e w' => ∃ b1 b2, e = .returned (exP b1 b2).val ∧ (∀ w2, Agree w.heap.size w' w2 → PvIn w2 1 1 (exP b1 b2)) ∧ Below w.heap.size w w') := by
 refine enterF (args := []) Try.func44 rfl Try.ntmps44 rfl ?_
 have hS := St.start w
 refine seqF (regF ?_)
 refine op_alloc (cs := [_, _, _, _, _, _]) hS Try.zeroValue28 rfl rfl ?_
 clear hS; intro B1 W1 hS
 refine endF (XF.thenN ?_)
 refine seqF (regF ?_)
 refine op_build (us := [(1, .int .i64 _)]) rfl (bld_45_1 _) rfl ?_
 refine op_alloc (cs := [_, _, _, _, _, _]) hS Try.zeroValue45 rfl rfl ?_
 clear hS; intro B2 W2 hS
 refine op_storeA (i := 0) (vs := [_, _, _, _, _, _]) (cs' := [_, _, _, _, _, _]) (O' := [_, _]) hS Try.sizeOf45 rfl rfl rfl rfl rfl rfl rfl ?_
 clear hS; intro W3 hS
 refine endF (XF.thenN ?_)
 refine seqF (regF ?_)
 refine op_build (us := [(0, .int .i64 _), (1, .int .i64 _)]) rfl (bld_25_0_1 _ _) rfl ?_
 refine op_buildSlice (us := [(0, .int .i64 _), (1, .int .i64 _)]) hS Try.underlying29 Try.sizeOf3 Try.zeroValue3 rfl rfl rfl (bs_29_2 _ _) rfl ?_
 clear hS; intro B4 W4 hS
 refine op_loadA (vs := [_, _, _, _, _, _]) Try.isAgg45 Try.sizeOf45 rfl (CellsAt.own (j := 0) (m := 6) (hS.at_ 1 rfl) rfl) rfl ?_
 refine op_build (us := [(1, .int .i64 _), (3, .slice _ _ _), (4, .agg (List.toArray [_, _, _, _, _, _]))]) rfl (bld_47_1_3_4 _ _ _ _ _ _ _ _ _ _) rfl ?_
 refine op_loadA (vs := [_, _, _, _, _, _]) Try.isAgg45 Try.sizeOf45 rfl (CellsAt.own (j := 0) (m := 6) (hS.at_ 1 rfl) rfl) rfl ?_
 refine op_build (us := [(1, .int .i64 _), (2, .int .i64 _), (4, .agg (List.toArray [_, _, _, _, _, _]))]) rfl (bld_47_1_2_4 _ _ _ _ _ _ _ _) rfl ?_
 refine op_buildSlice (us := [(0, .agg (List.toArray [_, _, _, _, _, _, _, _, _, _])), (1, .agg (List.toArray [_, _, _, _, _, _, _, _, _, _]))]) hS Try.underlying26 Try.sizeOf47 Try.zeroValue47 rfl rfl rfl (bs_26_2 _ _ _ _ _ _ _ _ _ _ _ _ _ _ _ _ _ _ _ _) rfl ?_
 clear hS; intro B5 W5 hS
 refine op_build (us := [(0, .agg (List.toArray [_, _, _])), (1, .int .i64 _), (2, .int .i64 _), (3, .slice _ _ _)]) rfl (bld_28_0_1_2_3 _ _ _ _ _ _ _ _) rfl ?_
 refine op_storeA (i := 3) (vs := [_, _, _, _, _, _]) (cs' := [_, _, _, _, _, _]) (O' := [_, _, _, _]) hS Try.sizeOf28 rfl rfl rfl rfl rfl rfl rfl ?_
 clear hS; intro W6 hS
 refine endF (XF.thenN ?_)
 refine retF ?_
 refine XF.res (resC1 (vs := [_, _, _, _, _, _]) Try.results44 Try.isAgg28 Try.sizeOf28 rfl (CellsAt.own (j := 0) (m := 6) (hS.at_ 3 rfl) rfl)) ?_
 exact ⟨B4, B5, rfl, fun w2 hg => exP_in ((hg.2 _ (hS.ge 1 rfl) (lt_of_heap (hS.at_ 1 rfl))).trans (hS.at_ 1 rfl)) ((hg.2 _ (hS.ge 0 rfl) (lt_of_heap (hS.at_ 0 rfl))).trans (hS.at_ 0 rfl)), hS.below⟩
theorem ex_ready {w : World} {b1 b2 b3 : Nat} (S : PS) (hS : S = .one 2 9) : Ready w S (fun _ => .one (pC 1)) (exP b1 b2) ⟨0, some ⟨b3, 0, none⟩, 1, 1, [1]⟩ := by
 subst hS
 have hx : XIs w (.one 2 9) exW.f (.one (pC 1)) := PIs.of (by decide) (exW_in w).1 (by decide)
 refine ⟨?_, by show plainB 2 9 0 = true; decide, ⟨none, 0, rfl⟩, fun r hr => ?_, by show 1 ≤ 4096; decide, fun r hr => ?_⟩
 ·have e1 : spaceE (exP b1 b2).s = 0 := by show spaceE (.mk ⟨2, 9, none, 0, 0⟩ []) = 0; decide
  have e2 : (exP b1 b2).rs.all (ruleB 2 3) = true := by simp [exP, ruleB, inQ]
  have e3 : chkW (exP b1 b2).s exW = 0 := by show chkW (.mk ⟨2, 9, none, 0, 0⟩ []) exW = 0; decide
  have e4 : wtE (exP b1 b2).s (exP b1 b2).rs = 0 := wtE_all (by simp [exP]; exact decide_eq_true e3)
  have e5 : pdsE (exP b1 b2) = 0 := by
   unfold pdsE
   rw [if_neg (by rw [e1]; simp), if_neg (by simp [exP]), if_neg (by simp [exP]), if_pos (show (exP b1 b2).rs.all (ruleB (exP b1 b2).st (exP b1 b2).sy) = true from e2), e4]
  unfold stepE
  rw [if_neg (by rw [e5]; simp), if_pos (by simp [confB, exP, inQ])]
 ·rcases List.mem_cons.1 hr with rfl | hr
  ·show 2 ≤ 4096; decide
  ·rcases List.mem_cons.1 hr with rfl | hr
   ·show 0 ≤ 4096; decide
   ·cases hr
 ·rcases List.mem_cons.1 hr with rfl | hr
  ·exact hx
  ·rcases List.mem_cons.1 hr with rfl | hr
   ·exact hx
   ·cases hr
end Go.Proofs.Ytpkcaabbcoiiiaa
namespace Go.Proofs.Ytpkcaabbcoiiiaa
open Go Go.RowKit
def valF (S : PS) (bk : Bool) (fs : List Int) (py : TV → PX) (n : Nat) (ts : List TV) (ws : List Int) : List PX := ws.foldr (fun g l => restF S bk g l py n ts) (endsF S fs n)
theorem endsF_len {S : PS} {fs : List Int} {n : Nat} : (endsF S fs n).length = n := by simp [endsF]
theorem valF_len {S : PS} {bk : Bool} {fs : List Int} {py : TV → PX} {n : Nat} {ts : List TV} {ws : List Int} : (valF S bk fs py n ts ws).length = n := by
 cases ws with
 | nil => exact endsF_len
 | cons g r => exact restF_len
theorem valF_drop {S : PS} {bk : Bool} {fs : List Int} {py : TV → PX} {n : Nat} {ts : List TV} {ws : List Int} {k : Nat} {y : Int} (h : ws[k]? = some y) : valF S bk fs py n ts (ws.drop k) = restF S bk y (valF S bk fs py n ts (ws.drop (k + 1))) py n ts := by
 obtain ⟨hl, he⟩ := List.getElem?_eq_some_iff.1 h
 rw [List.drop_eq_getElem_cons hl, he]; rfl
theorem holds4 {p q r t : Asr} {vs : List Value} {w : World} (h : Holds [p, q, r, t] vs w) : ∃ a b c d, vs = [a, b, c, d] ∧ p a w ∧ q b w ∧ r c w ∧ t d w := by
 match vs, h with
 | [a, b, c, d], h => exact ⟨a, b, c, d, rfl, h.1, h.2.1, h.2.2.1, h.2.2.2.1⟩
theorem of_asgP {P : Program} {p : Asr} {d j t : Nat} {ty : TypeId} {pos : String} {W : World} : ∀ (ev : Operand → Value) (w : World), Below W.heap.size W w → DepsH [(j, t, p)] ev w → ∃ v, (execOp ev ⟨some d, .assign (.tmp t), ty, pos, #[], none⟩).run P w = .ok (.value v) w ∧ p v w := fun ev w _ h => ⟨ev (.tmp t), by unfold execOp; rfl, h.1⟩
section
variable {P : Program} {n : Nat} {Q : Exit → Act → World → Prop} {l : Fr} {w0 W : World} {ops opf : Array Oper} {K : List (Nat × World)} {L : List Asr} {i lo : Nat} {al : List AB} {Ob : Own} {G : Sy → Grows} {E : List Nat}
variable {d : Nat} {ty : TypeId} {pos : String} {aft_ : Array Edge} {gd : Option (Nat × Bool)}
end
theorem xlf_after {w0 W' : World} {Ks Kk : List (Nat × World)} {lo : Nat} {X : Nat → Prop} {S : PS} {fs : List WF} {xs : List PX} (hcov : ∀ {O2 : Own} {G2 : Grows} {K2 : List (Nat × World)} {W2 : World}, St w0 O2 G2 K2 W2 → (∀ q ∈ Ks, q ∈ K2) → SameX lo X W' W2) (hX : ∀ b, lo ≤ b → b < W'.heap.size → ¬ X b) (h : XLF (fun W => MB w0 Kk W ∧ Agree lo W' W) S fs xs) : XLF (MB w0 (Ks ++ Kk)) S fs xs :=
 ⟨h.1, fun i f x hf hx => far_after hcov hX (h.2 i f x hf hx)⟩
end Go.Proofs.Ytpkcaabbcoiiiaa
namespace Go.Proofs.Ytpkcaabbcoiiiaa
open Go Go.RowKit
theorem goes_48 : goesIn Try.prog 48 = true := by kernel_rfl
theorem goes_49 : goesIn Try.prog 49 = true := by kernel_rfl
theorem goes_50 : goesIn Try.prog 50 = true := by kernel_rfl
theorem goes_51 : goesIn Try.prog 51 = true := by kernel_rfl
theorem value10_c (ds d : Nat) (s : SV) (n9 : Nat) (sy : Int) (fa : Option Addr) (fl fc : Nat) (fs : List Int) (ta : Option Addr) (tl tc : Nat) (ts : List TV) (w : World) (hs : SIn w ds s) (hfrow : Row w fa fs) (hflen : fs.length = fl) (htrow : TRow w ta ts) (htlen : ts.length = tl) (htin : ∀ t ∈ ts, WIn w d t.x) (hfm : fl ≤ 9223372036854775807) (htm : tl ≤ 9223372036854775807) (S : PS) (hsi : SIs w S s.f) (hok : S.ok) (h4 : n9 ≤ 4096) (bk : Bool) (fr : Int) (kf : Nat) (hfr : fr = (kf : Int)) (hkf : kf < n9) (wa : Option Addr) (wl wc : Nat) (ws : List Int) (hwa : Row w wa ws) (hwl : ws.length = wl) (hwm : wl ≤ 9223372036854775807) (py : TV → PX) (hgd : ∀ t ∈ ts, inQ t.f (n9 : Int) = true ∧ inQ t.t (n9 : Int) = true) (hpy : ∀ t ∈ ts, XIs w S t.x.f (py t)) (hne : ∀ t ∈ ts, 0 ≤ t.g) (hask : askE ⟨s, (n9 : Int), sy, fa, fl, fc, fs, ta, tl, tc, ts⟩ [fr] ws = 0) :
  Calls Try.prog 22 #[.agg #[.int .i64 s.f.tag, .int .i64 s.f.dim, .slice s.f.a s.f.len s.f.cap, .int .i64 (n9 : Int), .int .i64 sy, .slice fa fl fc, .slice ta tl tc], .bool bk, .int .i64 fr, .slice wa wl wc] w (fun e w' => ∃ f : WF, e = .returned (.tuple #[f.val, .int .i64 0]) ∧ XIs w' S f ((valF S bk fs py n9 ts ws).getD kf (zeroX S)) ∧ Below w.heap.size w w') := by
 refine enterF (args := [.agg #[.int .i64 s.f.tag, .int .i64 s.f.dim, .slice s.f.a s.f.len s.f.cap, .int .i64 (n9 : Int), .int .i64 sy, .slice fa fl fc, .slice ta tl tc], .bool bk, .int .i64 fr, .slice wa wl wc]) Try.func22 rfl Try.ntmps22 rfl ?_
 have hS := St.start w
 subst hfr
 refine seqF (regF ?_)
 refine op_box (cs := [_, _, _, _, _, _, _]) hS rfl rfl rfl ?_
 clear hS; intro B1 W1 hS
 refine op_alloc (cs := [_, _, _, _, _, _]) hS Try.zeroValue45 rfl rfl ?_
 clear hS; intro B2 W2 hS
 refine op_assign rfl rfl ?_
 refine endF (XF.thenN ?_)
 refine seqF (regF ?_)
 refine op_loadA (vs := [_, _, _, _, _, _, _]) Try.isAgg60 Try.sizeOf60 rfl (CellsAt.own (j := 0) (m := 7) (hS.at_ 1 rfl) rfl) rfl ?_
 refine op_move rfl rfl ?_
 refine op_buildSlice (us := [(0, .int .i64 _)]) hS Try.underlying29 Try.sizeOf3 Try.zeroValue3 rfl rfl rfl (bs_29_1 _) rfl ?_
 clear hS; intro B3 W3 hS
 refine op_move rfl rfl ?_
 refine op_call (vs := [_, _, _]) hS goes_48 rfl (asked10_c ds d s (n9 : Int) sy fa fl fc fs ta tl tc ts _ (SIn.below hS.below hs) (hfrow.below hS.below) hflen (htrow.below hS.below) htlen (fun t ht => WIn.below hS.below (htin t ht)) hfm htm _ 1 1 [(kf : Int)] wa wl wc ws (row1 (hS.at_ 0 rfl)) rfl (by decide) (hwa.below hS.below) hwl hwm) rfl ?_
 rintro e W4 ⟨rfl, hb⟩
 refine ⟨_, rfl, hb, fun hS' => ?_⟩
 clear hS; have hS := hS'; clear hS' hb
 refine op_assign rfl rfl ?_
 refine endF (XF.thenN ?_)
 refine seqF ?_
 refine seqF (regF ?_)
 refine op_move rfl rfl ?_
 refine op_neq rfl rfl rfl ?_
 refine endF (XF.thenN ?_)
 refine condF rfl (fun hc => absurd (of_decide_eq_true hc) (by exact fun h => h hask)) (fun hc => ?_)
 have hc := of_decide_eq_false hc
 refine skipF ?_
 refine XF.thenN ?_
 refine seqF ?_
 refine regB (m := 6) followsM hS (by kernel_rfl) (by kernel_rfl) rfl ?_
 refine bl_cons 1 rfl (isV _) (stab_isV _) (rgV (li := [(4, _)]) rfl (w_free rfl) ⟨g_fr (by kernel_rfl) rfl, trivial⟩ (fun w hw => rn_loadA (vs := [_, _, _, _, _, _, _]) Try.isAgg60 Try.sizeOf60 rfl (CellsAt.agree (below_agree hw 0) (Nat.zero_le _) (CellsAt.own (j := 0) (m := 7) (hS.at_ 2 rfl) rfl))) (at_top rfl)) ?_
 refine bl_cons 2 rfl (isV _) (stab_isV _) (rgV (li := [(1, _)]) rfl (w_free rfl) ⟨g_fr (by kernel_rfl) rfl, trivial⟩ (fun w hw => rn_move rfl) (at_top rfl)) ?_
 refine bl_cons 3 rfl (isV _) (stab_isV _) (rgV (li := [(4, _)]) rfl (w_free rfl) ⟨g_fr (by kernel_rfl) rfl, trivial⟩ (fun w hw => rn_loadA (vs := [_, _, _, _, _, _, _]) Try.isAgg60 Try.sizeOf60 rfl (CellsAt.agree (below_agree hw 0) (Nat.zero_le _) (CellsAt.own (j := 0) (m := 7) (hS.at_ 2 rfl) rfl))) (at_top rfl)) ?_
 refine bl_cons 4 rfl (isWRowF (MB w []) W4.heap.size S (endsF S fs n9)) (stab_isWRowF) (rg_call [isV _] rfl goes_50 (w_free rfl) ⟨p_tmp (g_dep 2 (by kernel_rfl) (at_dep rfl rfl rfl)), trivial⟩ (fun vs w' hb hh => by
  have e := holds_isV (us := [_]) hh
  subst e
  exact (ends10_c ds d s n9 sy fa fl fc fs ta tl tc ts w' (SIn.below (hS.below.trans (hb.mono hS.below.size)) hs) (hfrow.below (hS.below.trans (hb.mono hS.below.size))) hflen (htrow.below (hS.below.trans (hb.mono hS.below.size))) htlen (fun t ht => WIn.below (hS.below.trans (hb.mono hS.below.size)) (htin t ht)) hfm htm (MB w []) (keepsB_MK (keepsB_below w) []) ⟨(hS.below.trans (hb.mono hS.below.size)), fun q hq => by cases hq⟩ S (hsi.below (hS.below.trans (hb.mono hS.below.size))) hok h4).mono fun e w2 ⟨a8, c8, fs8, he, h1, h2, h3⟩ => ⟨_, he, ⟨a8, c8, fs8, rfl, fun W2 hg => h1 W2 (agree_lo hg hb.size), xlf_mono h2 fun W hW => ⟨hW.1, agree_lo hW.2 hb.size⟩⟩, h3⟩) (at_top rfl)) ?_
 refine bl_cons 5 rfl (isWRowF (MB w []) W4.heap.size S (endsF S fs n9)) (stab_isWRowF) (rg_call [isV _, isV _, isV _, isWRowF (MB w []) W4.heap.size S (endsF S fs n9)] rfl goes_49 (w_free rfl) ⟨p_tmp (g_dep 0 (by kernel_rfl) (at_dep rfl rfl rfl)), p_tmp (g_dep 1 (by kernel_rfl) (at_dep rfl rfl rfl)), p_const, p_tmp (g_dep 3 (by kernel_rfl) (at_dep rfl rfl rfl)), trivial⟩ (fun vs w' hb hh => by
  obtain ⟨v1, v2, v3, v4, rfl, e1, e2, e3, a8, c8, fs8, rfl, h1, h2⟩ := holds4 hh
  have e1 : v1 = _ := e1
  have e2 : v2 = _ := e2
  have e3 : v3 = _ := e3
  subst e1; subst e2; subst e3
  exact (still10_c ds d s (n9 : Int) sy fa fl fc fs ta tl tc ts w' (SIn.below (hS.below.trans (hb.mono hS.below.size)) hs) (hfrow.below (hS.below.trans (hb.mono hS.below.size))) hflen (htrow.below (hS.below.trans (hb.mono hS.below.size))) htlen (fun t ht => WIn.below (hS.below.trans (hb.mono hS.below.size)) (htin t ht)) hfm htm bk a8 _ c8 hne).mono fun e w2 ⟨he, hb2⟩ => ⟨_, he, stab_isWRowF _ _ _ ⟨a8, c8, fs8, rfl, h1, h2⟩ hb2, hb2⟩) (at_top rfl)) ?_
 refine bl_cons 6 rfl (isWRowF (MB w []) W4.heap.size S (endsF S fs n9)) (stab_isWRowF) (rgPs [(4, 26, isWRowF (MB w []) W4.heap.size S (endsF S fs n9))] rfl ⟨⟨by kernel_rfl, at_dep rfl rfl rfl⟩, trivial⟩ of_asgP (at_top rfl)) ?_
 refine bl_nil ?_
 intro W5 hbR hS'
 clear hS; have hS := hS'; clear hS'
 iterate 3 refine fin_v ?_
 iterate 2 refine fin_p ?_; intro _ _
 refine fin_p ?_; rintro _ ⟨a8, c8, fs8, rfl, hr8, hx8⟩
 have HR8 : Held w [(W4.heap.size, W5)] (fun W2 => FRow W2 a8 fs8) := Held.one (p := fun W2 => FRow W2 a8 fs8) hr8
 have HX8 : XLF (MB w [(W4.heap.size, W5)]) S fs8 (endsF S fs n9) := xlf_mono hx8 fun W hW => ⟨⟨hW.1, fun q hq => by cases hq⟩, hW.2 _ List.mem_cons_self⟩
 rw [endsF_len]
 refine fin_nil ?_
 refine XF.thenN ?_
 refine seqF ?_
 refine seqF (regF ?_)
 refine op_move rfl rfl ?_
 refine op_len Try.underlying29 rfl rfl ?_
 refine op_sub rfl rfl (IntWalk.i64_in _ (by omega)) rfl ?_
 refine op_assign rfl rfl ?_
 refine endF (XF.thenN ?_)
 refine blockF ?_
 refine loopF (fun m l W => ∃ (j : Nat) (a9 : Option Addr) (c9 : Nat) (fs9 : List WF) (Kk : List (Nat × World)), j ≤ wl ∧ m = j + 0 ∧ l = [(1, .bool bk), (2, .int .i64 (kf : Int)), (3, .slice wa wl wc), (4, .pointer (some ⟨B1, 0, none⟩)), (8, .pointer (some ⟨B2, 0, none⟩)), (11, .slice a9 n9 c9), (12, .int .i64 ((j : Int) - 1))] ∧ Held w Kk (fun W2 => FRow W2 a9 fs9) ∧ XLF (MB w Kk) S fs9 (valF S bk fs py n9 ts (ws.drop j)) ∧ St w [(B2, [.bool false, .int .i64 0, .int .u64 0, .slice none 0 0, .slice none 0 0, .slice none 0 0], 45), (B1, [.int .i64 s.f.tag, .int .i64 s.f.dim, .slice s.f.a s.f.len s.f.cap, .int .i64 (n9 : Int), .int .i64 sy, .slice fa fl fc, .slice ta tl tc], 60)] [] Kk W) (wl + 0) ([(1, _), (2, _), (3, _), (4, _), (8, _), (11, _), (12, _)]) ⟨rfl, rfl, rfl, rfl, rfl, rfl, rfl, trivial⟩ (⟨wl, a8, c8, fs8, _, Nat.le_refl _, rfl, rfl, HR8.more (fun q hq => by simp at hq; subst hq; simp), by rw [List.drop_of_length_le (by omega)]; exact xlf_keep HX8 (fun q hq => by simp at hq; subst hq; simp), hS.tail⟩) ?_
 clear hS
 rintro j l W ⟨j2, a9, c9, fs9, Kk, hj, rfl, rfl, HR, HX, hS⟩
 refine seqF ?_
 refine seqF (regF ?_)
 refine op_move rfl rfl ?_
 refine op_geq rfl rfl rfl ?_
 refine endF (XF.thenN ?_)
 refine condF rfl (fun hc => ?_) (fun hc => ?_)
 ·have hc31 := of_decide_eq_true hc; clear hc
  obtain ⟨k, rfl⟩ : ∃ k, j = k + 1 := ⟨j - 1, by omega⟩
  obtain ⟨b, off, y, rfl, hy, hyc⟩ := hwa.at1 (show k < ws.length by omega)
  have k1 := hS.old hyc
  refine skipF ?_
  refine XF.thenN ?_
  refine seqF ?_
  refine blockF ?_
  have hS7 := hS
  refine regY (al := []) (G := fun _ => []) (E := []) (k := 10) (ds := [11, 44]) followsM rfl hS rfl rfl (by kernel_rfl) (by kernel_rfl) rfl (by decide) rfl ?_
  refine bly_cons 1 rfl (isV _) (syV fst_take [(4, _)] rfl rfl (fun _ => (w_free rfl)) (fun _ => ⟨g_fr (by kernel_rfl) rfl, trivial⟩) (fun s w hw => rn_loadA (vs := [_, _, _, _, _, _, _]) Try.isAgg60 Try.sizeOf60 rfl ((CellsAt.own (j := 0) (m := 7) (hw.at_ 1 rfl) rfl))) (at_top rfl)) ?_
  refine bly_cons 2 rfl (isV _) (syV fst_take [(1, _)] rfl rfl (fun _ => (w_free rfl)) (fun _ => ⟨g_fr (by kernel_rfl) rfl, trivial⟩) (fun s w hw => rn_move rfl) (at_top rfl)) ?_
  refine bly_cons 3 rfl (isV _) (syV fst_take [(4, _)] rfl rfl (fun _ => (w_free rfl)) (fun _ => ⟨g_fr (by kernel_rfl) rfl, trivial⟩) (fun s w hw => rn_loadA (vs := [_, _, _, _, _, _, _]) Try.isAgg60 Try.sizeOf60 rfl ((CellsAt.own (j := 0) (m := 7) (hw.at_ 1 rfl) rfl))) (at_top rfl)) ?_
  refine bly_cons 4 rfl (isV _) (syV fst_take [(1, _)] rfl rfl (fun _ => (w_free rfl)) (fun _ => ⟨g_fr (by kernel_rfl) rfl, trivial⟩) (fun s w hw => rn_move rfl) (at_top rfl)) ?_
  refine bly_cons 5 rfl (isV _) (syV fst_take [(3, _)] rfl rfl (fun _ => (w_free rfl)) (fun _ => ⟨g_fr (by kernel_rfl) rfl, trivial⟩) (fun s w hw => rn_move rfl) (at_top rfl)) ?_
  refine bly_cons 6 rfl (isV _) (syV fst_take [(12, _)] rfl rfl (fun _ => (w_free rfl)) (fun _ => ⟨g_fr (by kernel_rfl) rfl, trivial⟩) (fun s w hw => rn_move rfl) (at_top rfl)) ?_
  refine bly_cons 7 rfl (isV _) (syV fst_take [(38, _), (39, _)] rfl rfl (fun _ => (w_free rfl)) (fun _ => ⟨g_dep 4 (by kernel_rfl) (at_n rfl rfl (at_dep rfl rfl rfl)), g_dep 5 (by kernel_rfl) (at_n rfl rfl (at_dep rfl rfl rfl)), trivial⟩) (fun s w hw => rn_indexA (j := k) Try.underlying29 Try.sizeOf3 rfl rfl (by omega) (by omega) rfl) (at_top rfl)) ?_
  refine bly_cons 8 rfl (isV _) (syV fst_take [(40, _)] rfl rfl (fun _ => (w_free rfl)) (fun _ => ⟨g_dep 6 (by kernel_rfl) (at_n rfl rfl (at_dep rfl rfl rfl)), trivial⟩) (fun s w hw => rn_load Try.isAgg3 rfl (hw.agree.cell (Nat.zero_le _) (hyc))) (at_top rfl)) ?_
  refine bly_cons 9 rfl (isV _) (syV fst_take [(11, _)] rfl rfl (fun _ => (w_free rfl)) (fun _ => ⟨g_fr (by kernel_rfl) rfl, trivial⟩) (fun s w hw => rn_move rfl) (at_top rfl)) ?_
  refine bly_cons 10 rfl (isWRowF (MB w Kk) W.heap.size S (restF S bk y (valF S bk fs py n9 ts (ws.drop (k + 1))) py n9 ts)) (sy_call fst_take (fun s => [isV _, isV _, isV _, isV _]) rfl rfl goes_51 (fun _ => w_free rfl) (fun s => ⟨p_tmp (g_dep 2 (by kernel_rfl) (at_n rfl rfl (at_dep rfl rfl rfl))), p_tmp (g_dep 3 (by kernel_rfl) (at_n rfl rfl (at_dep rfl rfl rfl))), p_tmp (g_dep 7 (by kernel_rfl) (at_n rfl rfl (at_dep rfl rfl rfl))), p_tmp (g_dep 8 (by kernel_rfl) (at_n rfl rfl (at_dep rfl rfl rfl))), trivial⟩) (fun vs s0 w' hk hw hlo hh => by
   have e := holds_isV (us := [_, _, _, _]) hh
   subst e
   exact (rest10_c ds d s n9 sy fa fl fc fs ta tl tc ts w' (SIn.below hw.below hs) (hfrow.below hw.below) hflen (htrow.below hw.below) htlen (fun t ht => WIn.below hw.below (htin t ht)) hfm htm (MB w Kk) (keepsB_MK (keepsB_below w) Kk) (MB.of hw (fun q hq => hq)) S (hsi.below hw.below) hok h4 bk y a9 c9 fs9 (valF S bk fs py n9 ts (ws.drop (k + 1))) py (HR hw (fun q hq => hq)) HX valF_len hgd (fun t ht => (hpy t ht).far.mono fun W h => h.1)).mono fun e w2 ⟨a8, c8, fs8, he, h1, h2, h3⟩ => ⟨_, he, fun w3 hg => ⟨a8, c8, fs8, rfl, fun W2 hg2 => h1 W2 (hg.trans (agree_lo hg2 hlo)), xlf_mono h2 fun W hW => ⟨hW.1, hg.trans (agree_lo hW.2 hlo)⟩⟩, h3⟩) (at_top rfl)) ?_
  refine bly_nil ?_
  intro s6 W6 Ks6 hall6 hsz6 hKs6 hS' hcov6 hfx6 hno6
  clear hS; have hS := hS'.castO (O' := [_, _]) rfl; clear hS'
  refine castL (L' := [AwS _ _ (isV _), AwS _ _ (isV _), AwS _ _ (isV _), AwS _ _ (isV _), AwS _ _ (isV _), AwS _ _ (isV _), AwS _ _ (isV _), AwS _ _ (isV _), AwS _ _ (isV _), AwS _ _ (isWRowF (MB w Kk) W.heap.size S (restF S bk y (valF S bk fs py n9 ts (ws.drop (k + 1))) py n9 ts))]) rfl ?_
  iterate 9 refine fin_sV ?_
  refine fin_p ?_; rintro v8 h8
  obtain ⟨a8, c8, fs8, rfl, hr8, hx8⟩ := h8.here
  have HR8 : Held w Ks6 (fun W2 => FRow W2 a8 fs8) := fun h2 hk => hr8 _ (sameX_agree9 (hcov6 h2 hk) (fun b h1 hx => by have h3 := xb_lt9 hS7 hx; omega))
  have HX8 : XLF (MB w (Ks6 ++ Kk)) S fs8 (restF S bk y (valF S bk fs py n9 ts (ws.drop (k + 1))) py n9 ts) := xlf_after hcov6 (fun b h1 _ hx => by have h3 := xb_lt9 hS7 hx; omega) hx8
  rw [restF_len]
  refine fin_nil ?_
  refine op_call (vs := [_, _, _, _]) hS goes_49 rfl (still10_c ds d s (n9 : Int) sy fa fl fc fs ta tl tc ts _ (SIn.below hS.below hs) (hfrow.below hS.below) hflen (htrow.below hS.below) htlen (fun t ht => WIn.below hS.below (htin t ht)) hfm htm bk a8 _ c8 hne) rfl ?_
  rintro e W7 ⟨rfl, hb⟩
  refine ⟨_, rfl, hb, fun hS' => ?_⟩
  clear hS; have hS := hS'; clear hS' hb
  refine op_assign rfl rfl ?_
  refine endF ?_
  refine XF.blkN ?_
  refine XF.thenN ?_
  refine regF ?_
  refine op_move rfl rfl ?_
  refine op_sub rfl rfl (IntWalk.i64_in _ (by omega)) rfl ?_
  refine op_assign rfl rfl ?_
  refine endF ?_
  exact XF.round (k + 0) [(1, _), (2, _), (3, _), (4, _), (8, _), (11, _), (12, _)] (by omega) ⟨rfl, rfl, rfl, rfl, rfl, rfl, rfl, trivial⟩ ⟨k, a8, c8, fs8, _, by omega, rfl, by rw [show ((k + 1 : Nat) : Int) - 1 - 1 = (k : Int) - 1 by omega], HR8.more (fun q hq => by simp [hq]), by rw [valF_drop hy]; exact xlf_keep HX8 (fun q hq => List.mem_cons_of_mem _ hq), hS⟩
 ·have hc31 := of_decide_eq_false hc; clear hc
  obtain rfl : j = 0 := by omega
  rw [List.drop_zero] at HX
  obtain ⟨f9, x9, hf9, hx9, hF9⟩ := HX.at_ (k := kf) (by have h9 := HX.1; rw [valF_len] at h9; omega)
  obtain ⟨b, off, rfl, hc⟩ : ∃ b o, a9 = some ⟨b, o, none⟩ ∧ ∀ (i : Nat) f, fs9[i]? = some f → W6 W b (o + i * 6) f := by
   rcases HR.now hS with h | h
   ·rw [h] at hf9; simp at hf9
   ·exact h
  have hlk := w6_cells9 (hc kf f9 hf9)
  refine exitF ?_
  iterate 2 refine XF.thenX ?_
  refine XF.blkX ?_
  refine XF.thenN ?_
  refine seqF (regF ?_)
  iterate 2 refine op_move rfl rfl ?_
  refine op_indexA (j := kf) Try.underlying43 Try.sizeOf45 rfl rfl (rfl) (by omega) rfl rfl ?_
  refine op_loadA (vs := [_, _, _, _, _, _]) Try.isAgg45 Try.sizeOf45 rfl (hlk) rfl ?_
  refine op_storeA (i := 0) (vs := [_, _, _, _, _, _]) (cs' := [_, _, _, _, _, _]) (O' := [_, _]) hS Try.sizeOf45 rfl rfl rfl rfl rfl rfl rfl ?_
  clear hS; intro W8 hS
  refine op_assign rfl rfl ?_
  refine endF (XF.thenN ?_)
  refine retF ?_
  refine XF.res (resCT (vs := [_, _, _, _, _, _]) Try.results22 Try.isAgg45 Try.sizeOf45 rfl (CellsAt.own (j := 0) (m := 6) (hS.at_ 0 rfl) rfl) rfl) ?_
  exact ⟨f9, rfl, by rw [getD_some9 hx9]; exact hF9.is (MB.of hS (fun q hq => hq)), hS.below⟩
end Go.Proofs.Ytpkcaabbcoiiiaa
namespace Go.Proofs.Ytpkcaabbcoiiiaa
open Go Go.RowKit
def T9Row (w : World) (a : Option Addr) (ns : List T9) : Prop := ∀ (i : Nat) r, ns[i]? = some r → ∃ b off, a = some ⟨b, off, none⟩ ∧ CellsAt w b (off + i * 9) r.nine
theorem T9Row.below {w w' : World} {a : Option Addr} {ns : List T9} (h : T9Row w a ns) (hb : Below w.heap.size w w') : T9Row w' a ns := fun i r hi => by
 obtain ⟨b, off, e, h1⟩ := h i r hi
 exact ⟨b, off, e, h1.agree (below_agree hb 0) (Nat.zero_le _)⟩
theorem t9row_owns {W : World} {lo c : Nat} {a : Option Addr} {ns : List T9} {T : TypeId} (h : W.ownsRow lo T 9 (.slice a ns.length c) ns.length (ns.flatMap T9.nine)) : T9Row W a ns := fun i y hi => by
 rcases ownsRow_cells h with ⟨_, h2⟩ | ⟨b, rfl, _, hc⟩
 ·rw [List.eq_nil_of_length_eq_zero h2] at hi; simp at hi
 ·refine ⟨b, 0, rfl, CellsAt.of fun j v hj => hc _ _ ?_⟩
  have key : ∀ (l : List T9) (i : Nat), l[i]? = some y → ((l.flatMap T9.nine).drop (i * 9)).take 9 = y.nine := by
   intro l
   induction l with
   | nil => intro i h; simp at h
   | cons z l ih =>
    intro i h
    cases i with
    | zero => simp at h; subst h; rfl
    | succ i =>
     have e : (i + 1) * 9 = 9 + i * 9 := by omega
     rw [List.flatMap_cons, e, ← List.drop_drop]
     exact ih i (by simpa using h)
  have hj9 : j < 9 := (List.getElem?_eq_some_iff.1 hj).1
  rw [← key ns i hi, List.getElem?_take, if_pos hj9, List.getElem?_drop] at hj
  rw [Nat.zero_add]; exact hj
structure AuO (o : Option PS) (pl : List (Int × Int × Int)) (fs : List Int) (W : World) (sf : SF) (fa ta : Option Addr) (ns : List T9) : Prop where
 sp : Spc o W sf
 f : Row W fa fs
 t : T9Row W ta ns
 x : ∀ S, o = some S → ∀ r ∈ ns, XIs W S r.x (oneX S)
 no : o = none → ns = []
 pl : ns.map T9.pl = pl
theorem AuO.below {o : Option PS} {pl : List (Int × Int × Int)} {fs : List Int} {w w' : World} {sf : SF} {fa ta : Option Addr} {ns : List T9} (h : AuO o pl fs w sf fa ta ns) (hb : Below w.heap.size w w') : AuO o pl fs w' sf fa ta ns := ⟨h.sp.below hb, h.f.below hb, h.t.below hb, fun S e r hr => (h.x S e r hr).below hb, h.no, h.pl⟩
theorem auo_none (w : World) (a b : Option Addr) : AuO none [] [] w ⟨0, 0, none, 0, 0⟩ a b [] := ⟨rfl, .inl rfl, (fun i r h => by simp at h), (fun S e => by cases e), fun _ => rfl, rfl⟩
theorem pl_atT {ns ms : List T9} (h : ns.map T9.pl = ms.map T9.pl) {i : Nat} {r : T9} (hi : ns[i]? = some r) : ∃ q, ms[i]? = some q ∧ q.f = r.f ∧ q.g = r.g ∧ q.t = r.t := by
 have h1 : (ms.map T9.pl)[i]? = some r.pl := by rw [← h, List.getElem?_map, hi]; rfl
 rw [List.getElem?_map] at h1
 obtain ⟨q, hq, e⟩ := Option.map_eq_some_iff.1 h1
 simp only [T9.pl, Prod.mk.injEq] at e
 exact ⟨q, hq, e.1, e.2.1, e.2.2⟩
def QBad (p : PV) (c : CV) (w : World) (e : Ending) (w' : World) : Prop := e = .returned (.tuple #[.agg #[.int .i64 0, .int .i64 0, .slice none 0 0, .int .i64 0, .int .i64 0, .slice none 0 0, .slice none 0 0], .int .i64 (qoneE p c)]) ∧ Below w.heap.size w w'
def QGood (S : PS) (p : PV) (c : CV) (w : World) (e : Ending) (w' : World) : Prop := ∃ (sq : SF) (B : Nat) (ta : Option Addr) (tc : Nat) (ns : List T9), e = .returned (.tuple #[.agg #[.int .i64 sq.tag, .int .i64 sq.dim, .slice sq.a sq.len sq.cap, .int .i64 (p.st + (c.wl : Int)), .int .i64 p.sy, .slice (some ⟨B, 0, none⟩) 1 1, .slice ta ns.length tc], .int .i64 0]) ∧ AuO (some S) (chL p.st c.p c.ws c.wl) [atF p.st c.p c.wl] w' sq (some ⟨B, 0, none⟩) ta ns ∧ SIs w' S sq ∧ Below w.heap.size w w'
theorem qbad_of {S : PS} {p : PV} {c : CV} {w w' : World} {e : Ending} (h : QOne S p c w e w') (hE : qoneE p c ≠ 0) : QBad p c w e w' := by
 obtain ⟨hb, ⟨_, h1⟩ | ⟨h1, _⟩⟩ := h
 ·exact ⟨h1, hb⟩
 ·exact absurd h1 hE
theorem qgood_of {S : PS} {p : PV} {c : CV} {w w' : World} {e : Ending} (hok : S.ok) (h : QOne S p c w e w') (hE : qoneE p c = 0) : QGood S p c w e w' := by
 obtain ⟨hb, ⟨h1, _⟩ | ⟨_, sq, B, ta, tc, ns, rfl, _, hs, hr, hn, ho, hx⟩⟩ := h
 ·exact absurd hE h1
 ·exact ⟨sq, B, ta, tc, ns, rfl, ⟨⟨hok, hs⟩, hr, t9row_owns ho, (fun S' e r hr => by cases e; exact hx r hr), (fun e => by cases e), hn⟩, hs, hb⟩
end Go.Proofs.Ytpkcaabbcoiiiaa
namespace Go.Proofs.Ytpkcaabbcoiiiaa
open Go Go.RowKit
theorem bld_60_0_1_2 (v00 : Value) (v01 : Value) (v02 : Value) (v1 : Int) (v2 : Int) : Try.prog.built 60 [(0, .agg #[v00, v01, v02]), (1, .int .i64 v1), (2, .int .i64 v2)] = some #[v00, v01, v02, .int .i64 v1, .int .i64 v2, .slice none 0 0, .slice none 0 0] := by kernel_rfl
theorem queryOneR_c (ds d : Nat) (p : PV) (cp : Int) (wa : Option Addr) (wl wc : Nat) (ws : List Int) (w : World) (hp : PvIn w ds d p) (hrow : Row w wa ws) (hlen : ws.length = wl) (hwm : wl ≤ 9223372036854775807) (S : PS) (px : RV → PX) (hpx : pdsE p = 0 → PdsOk w S px p) :
  Calls Try.prog 19 #[p.val, .agg #[.int .i64 cp, .slice wa wl wc]] w (QOne S p ⟨cp, wa, wl, wc, ws⟩ w) := by
 refine enterF (args := [p.val, .agg #[.int .i64 cp, .slice wa wl wc]]) Try.func19 rfl Try.ntmps19 rfl ?_
 have hS := St.start w
 refine seqF (regF ?_)
 refine op_box (cs := [_, _, _, _, _, _]) hS rfl rfl rfl ?_
 clear hS; intro B1 W1 hS
 refine op_box (cs := [_, _]) hS rfl rfl rfl ?_
 clear hS; intro B2 W2 hS
 refine op_alloc (cs := [_, _, _, _, _, _, _]) hS Try.zeroValue60 rfl rfl ?_
 clear hS; intro B3 W3 hS
 refine op_assign rfl rfl ?_
 refine endF (XF.thenN ?_)
 refine seqF (regF ?_)
 refine op_loadA (vs := [_, _, _, _, _, _]) Try.isAgg28 Try.sizeOf28 rfl (CellsAt.own (j := 0) (m := 6) (hS.at_ 2 rfl) rfl) rfl ?_
 refine op_loadA (vs := [_, _]) Try.isAgg49 Try.sizeOf49 rfl (CellsAt.own (j := 0) (m := 2) (hS.at_ 1 rfl) rfl) rfl ?_
 refine op_call (vs := [_, _]) hS goes_21 rfl (stepR_is ds d p ⟨cp, wa, wl, wc, ws⟩ _ (hp.below hS.below) ⟨hrow.below hS.below, hlen⟩) rfl ?_
 rintro e W4 ⟨rfl, hb⟩
 refine ⟨_, rfl, hb, fun hS' => ?_⟩
 clear hS; have hS := hS'; clear hS' hb
 refine op_assign rfl rfl ?_
 refine endF (XF.thenN ?_)
 refine seqF ?_
 refine seqF (regF ?_)
 refine op_move rfl rfl ?_
 refine op_neq rfl rfl rfl ?_
 refine endF (XF.thenN ?_)
 refine condF rfl (fun hc => ?_) (fun hc => ?_)
 ·have hc14 := of_decide_eq_true hc; clear hc
  refine seqF (regF ?_)
  refine op_build (us := []) rfl (bld_60) rfl ?_
  refine op_move rfl rfl ?_
  refine op_storeA (i := 0) (vs := [_, _, _, _, _, _, _]) (cs' := [_, _, _, _, _, _, _]) (O' := [_, _, _]) hS Try.sizeOf60 rfl rfl (by first | rfl | (have h0 := hS.oneV 0 _ rfl; simp only [List.all_cons, List.all_nil, Bool.and_true, Bool.and_eq_true]; exact ⟨rfl, rfl, rfl, rfl, rfl, rfl, h0⟩)) rfl rfl rfl rfl ?_
  clear hS; intro W5 hS
  refine op_assign rfl rfl ?_
  refine endF (XF.thenN ?_)
  refine retF ?_
  refine XF.thenR ?_
  refine XF.res (resCT (vs := [_, _, _, _, _, _, _]) Try.results19 Try.isAgg60 Try.sizeOf60 rfl (CellsAt.own (j := 0) (m := 7) (hS.at_ 0 rfl) rfl) rfl) ?_
  exact qone_bad (by unfold qoneE; rw [if_pos hc14]) hc14 hS.below
 ·have hc14 := of_decide_eq_false hc; clear hc
  have h0 : ¬ stepE p ⟨cp, wa, wl, wc, ws⟩ ≠ 0 := hc14
  have hE : pdsE p = 0 := by
   by_cases h9 : pdsE p = 0
   ·exact h9
   ·exfalso; apply h0; unfold stepE; rw [if_pos h9]; exact h9
  have hok := hpx hE
  have hst : 0 ≤ p.st ∧ p.st ≤ 4096 := hok.st
  have hw4 : wl ≤ 4096 := by
   have h9 : stepE p ⟨cp, wa, wl, wc, ws⟩ = 0 := Decidable.of_not_not h0
   unfold stepE confB at h9
   rw [if_neg (fun h => h hE)] at h9
   split at h9
   ·rename_i h8
    simp only [Bool.and_eq_true, decide_eq_true_eq] at h8
    exact h8.2.1
   ·cases h9
  refine skipF ?_
  refine XF.thenN ?_
  refine seqF ?_
  refine seqF (regF ?_)
  refine op_field (o' := 3) fa_28_1 rfl rfl rfl ?_
  refine op_load Try.isAgg3 rfl (cell_own (hS.at_ 2 rfl) rfl) rfl ?_
  refine op_field (o' := 1) fa_49_1 rfl rfl rfl ?_
  refine op_load Try.isAgg29 rfl (cell_own (hS.at_ 1 rfl) rfl) rfl ?_
  refine op_len Try.underlying29 rfl rfl ?_
  refine op_add rfl rfl (IntWalk.i64_in _ (by omega)) rfl ?_
  refine op_gtr rfl rfl rfl ?_
  refine endF (XF.thenN ?_)
  refine condF rfl (fun hc => ?_) (fun hc => ?_)
  ·have hc23 := of_decide_eq_true hc; clear hc
   refine seqF (regF ?_)
   refine op_build (us := []) rfl (bld_60) rfl ?_
   refine op_storeA (i := 0) (vs := [_, _, _, _, _, _, _]) (cs' := [_, _, _, _, _, _, _]) (O' := [_, _, _]) hS Try.sizeOf60 rfl rfl (by first | rfl | (have h0 := hS.oneV 0 _ rfl; simp only [List.all_cons, List.all_nil, Bool.and_true, Bool.and_eq_true]; exact ⟨rfl, rfl, rfl, rfl, rfl, rfl, h0⟩)) rfl rfl rfl rfl ?_
   clear hS; intro W6 hS
   refine op_assign rfl rfl ?_
   refine endF (XF.thenN ?_)
   refine retF ?_
   refine XF.thenR ?_
   refine XF.res (resCT (vs := [_, _, _, _, _, _, _]) Try.results19 Try.isAgg60 Try.sizeOf60 rfl (CellsAt.own (j := 0) (m := 7) (hS.at_ 0 rfl) rfl) rfl) ?_
   exact qone_bad (by unfold qoneE; rw [if_neg h0, if_pos (by dsimp only; omega)]) (by decide) hS.below
  ·have hc23 := of_decide_eq_false hc; clear hc
   have h1 : p.st + (wl : Int) ≤ 4096 := by omega
   have hoE : qoneE p ⟨cp, wa, wl, wc, ws⟩ = 0 := by unfold qoneE; rw [if_neg h0, if_neg (by dsimp only; omega)]
   refine skipF ?_
   refine XF.thenN ?_
   refine seqF (regF ?_)
   refine op_field (o' := 0) fa_28_0 rfl rfl rfl ?_
   refine op_loadA (vs := [_, _, _]) Try.isAgg25 Try.sizeOf25 rfl (CellsAt.own (j := 0) (m := 3) (hS.at_ 2 rfl) rfl) rfl ?_
   refine op_field (o' := 3) fa_28_1 rfl rfl rfl ?_
   refine op_load Try.isAgg3 rfl (cell_own (hS.at_ 2 rfl) rfl) rfl ?_
   refine op_field (o' := 1) fa_49_1 rfl rfl rfl ?_
   refine op_load Try.isAgg29 rfl (cell_own (hS.at_ 1 rfl) rfl) rfl ?_
   refine op_len Try.underlying29 rfl rfl ?_
   refine op_add rfl rfl (IntWalk.i64_in _ (by omega)) rfl ?_
   refine op_field (o' := 4) fa_28_2 rfl rfl rfl ?_
   refine op_load Try.isAgg3 rfl (cell_own (hS.at_ 2 rfl) rfl) rfl ?_
   refine op_build (us := [(0, .agg (List.toArray [_, _, _])), (1, .int .i64 _), (2, .int .i64 _)]) rfl (bld_60_0_1_2 _ _ _ _ _) rfl ?_
   refine op_alloc (cs := [_, _, _, _, _, _, _]) hS Try.zeroValue60 rfl rfl ?_
   clear hS; intro B7 W7 hS
   refine op_storeA (i := 0) (vs := [_, _, _, _, _, _, _]) (cs' := [_, _, _, _, _, _, _]) (O' := [_, _, _, _]) hS Try.sizeOf60 rfl rfl (by first | rfl | (have h0 := hS.oneV 0 _ rfl; simp only [List.all_cons, List.all_nil, Bool.and_true, Bool.and_eq_true]; exact ⟨rfl, rfl, rfl, rfl, rfl, rfl, h0⟩)) rfl rfl rfl rfl ?_
   clear hS; intro W8 hS
   refine endF (XF.thenN ?_)
   refine seqF (regF ?_)
   refine op_field (o' := 0) fa_49_0 rfl rfl rfl ?_
   refine op_load Try.isAgg3 rfl (cell_own (hS.at_ 2 rfl) rfl) rfl ?_
   refine op_assign rfl rfl ?_
   refine endF (XF.thenN ?_)
   iterate 2 refine seqF ?_
   have hS := hS.newG 100 9
   refine regF ?_
   refine op_assign rfl rfl ?_
   refine endF (XF.thenN ?_)
   refine blockF ?_
   refine loopF (fun m l W => ∃ (i : Nat) (u : Value) (Kk : List (Nat × World)) (ns : List T9), i ≤ wl ∧ m = wl - i ∧ l = [(2, .pointer (some ⟨B1, 0, none⟩)), (3, .pointer (some ⟨B2, 0, none⟩)), (4, .pointer (some ⟨B3, 0, none⟩)), (7, .pointer (some ⟨B7, 0, none⟩)), (8, .int .i64 (atF p.st cp i)), (9, .int .i64 (i : Int))] ∧ ns.map T9.pl = chL p.st cp ws i ∧ Held w Kk (fun W2 => ∀ r ∈ ns, XIs W2 S r.x (oneX S)) ∧ St w [(B7, [.int .i64 p.s.f.tag, .int .i64 p.s.f.dim, .slice p.s.f.a p.s.f.len p.s.f.cap, .int .i64 (p.st + (wl : Int)), .int .i64 p.sy, .slice none 0 0, u], 60), (B3, [.int .i64 0, .int .i64 0, .slice none 0 0, .int .i64 0, .int .i64 0, .slice none 0 0, .slice none 0 0], 60), (B2, [.int .i64 cp, .slice wa wl wc], 49), (B1, p.six, 28)] [⟨u, ns.length, ns.flatMap T9.nine, 100, 9⟩] Kk W) (wl - 0) ([(2, _), (3, _), (4, _), (7, _), (8, _), (9, _)]) ⟨rfl, rfl, rfl, rfl, rfl, rfl, trivial⟩ (⟨0, _, _, [], Nat.zero_le _, rfl, rfl, rfl, (fun h2 hk r hr => by cases hr), hS⟩) ?_
   clear hS
   rintro m l W ⟨i, u, Kk, ns, hi, rfl, rfl, hns, HN, hS⟩
   refine seqF ?_
   refine seqF (regF ?_)
   refine op_move rfl rfl ?_
   refine op_field (o' := 1) fa_49_1 rfl rfl rfl ?_
   refine op_load Try.isAgg29 rfl (cell_own (hS.at_ 2 rfl) rfl) rfl ?_
   refine op_len Try.underlying29 rfl rfl ?_
   refine op_lss rfl rfl rfl ?_
   refine endF (XF.thenN ?_)
   refine condF rfl (fun hc => ?_) (fun hc => ?_)
   ·have hc42 := of_decide_eq_true hc; clear hc
    have hk : i < wl := by omega
    obtain ⟨b, off, y, rfl, hy, hyc⟩ := hrow.at1 (show i < ws.length by omega)
    have k1 := hS.old hyc
    have hnl : ns.length = i := by have h9 := congrArg List.length hns; rw [List.length_map, chL_len] at h9; exact h9
    refine skipF ?_
    refine XF.thenN ?_
    refine seqF ?_
    refine blockF ?_
    refine seqF ?_
    refine regBP (p := 17) (k := 19) (gi := 0) (m := 1) followsM hS rfl rfl (by kernel_rfl) (by kernel_rfl) (by kernel_rfl) (fun d hd => by cases hd) rfl rfl Try.underlying58 inf_100 rfl rfl (by show 0 < 9; decide) rfl rfl rfl (by dsimp only; simp only [maxLen]; omega) (by dsimp only; show _ * 120 ≤ _; omega) ?_
    refine blp_v 1 rfl rfl (by kernel_rfl) (rgV (li := [(7, _)]) rfl (w_free rfl) ⟨g_fr (by kernel_rfl) rfl, trivial⟩ (fun w hw => rn_field (o' := 6) fa_60_4 rfl rfl) (at_top rfl)) ?_
    refine blp_v 2 rfl rfl (by kernel_rfl) (rgV (li := [(45, _)]) rfl (w_free rfl) ⟨g_dep 0 (by kernel_rfl) (at_dep rfl rfl rfl), trivial⟩ (fun w hw => rn_load Try.isAgg58 rfl ((below_agree hw 0).cell (Nat.zero_le _) (cell_own (hS.at_ 0 rfl) rfl))) (at_top rfl)) ?_
    refine blp_v 3 rfl rfl (by kernel_rfl) (rgV (li := [(8, _)]) rfl (w_free rfl) ⟨g_fr (by kernel_rfl) rfl, trivial⟩ (fun w hw => rn_move rfl) (at_top rfl)) ?_
    refine blp_v 4 rfl rfl (by kernel_rfl) (rgV (li := [(3, _)]) rfl (w_free rfl) ⟨g_fr (by kernel_rfl) rfl, trivial⟩ (fun w hw => rn_field (o' := 1) fa_49_1 rfl rfl) (at_top rfl)) ?_
    refine blp_v 5 rfl rfl (by kernel_rfl) (rgV (li := [(48, _)]) rfl (w_free rfl) ⟨g_dep 3 (by kernel_rfl) (at_dep rfl rfl rfl), trivial⟩ (fun w hw => rn_load Try.isAgg29 rfl ((below_agree hw 0).cell (Nat.zero_le _) (cell_own (hS.at_ 2 rfl) rfl))) (at_top rfl)) ?_
    refine blp_v 6 rfl rfl (by kernel_rfl) (rgV (li := [(9, _)]) rfl (w_free rfl) ⟨g_fr (by kernel_rfl) rfl, trivial⟩ (fun w hw => rn_move rfl) (at_top rfl)) ?_
    refine blp_v 7 rfl rfl (by kernel_rfl) (rgV (li := [(49, _), (50, _)]) rfl (w_free rfl) ⟨g_dep 4 (by kernel_rfl) (at_dep rfl rfl rfl), g_dep 5 (by kernel_rfl) (at_dep rfl rfl rfl), trivial⟩ (fun w hw => rn_indexA  Try.underlying29 Try.sizeOf3 rfl rfl rfl (by omega) rfl) (at_top rfl)) ?_
    refine blp_v 8 rfl rfl (by kernel_rfl) (rgV (li := [(51, _)]) rfl (w_free rfl) ⟨g_dep 6 (by kernel_rfl) (at_dep rfl rfl rfl), trivial⟩ (fun w hw => rn_load Try.isAgg3 rfl ((below_agree hw 0).cell (Nat.zero_le _) (k1))) (at_top rfl)) ?_
    refine blp_v 9 rfl rfl (by kernel_rfl) (rgV (li := [(2, _)]) rfl (w_free rfl) ⟨g_fr (by kernel_rfl) rfl, trivial⟩ (fun w hw => rn_field (o' := 3) fa_28_1 rfl rfl) (at_top rfl)) ?_
    refine blp_v 10 rfl rfl (by kernel_rfl) (rgV (li := [(53, _)]) rfl (w_free rfl) ⟨g_dep 8 (by kernel_rfl) (at_dep rfl rfl rfl), trivial⟩ (fun w hw => rn_load Try.isAgg3 rfl ((below_agree hw 0).cell (Nat.zero_le _) (cell_own (hS.at_ 3 rfl) rfl))) (at_top rfl)) ?_
    refine blp_v 11 rfl rfl (by kernel_rfl) (rgV (li := [(9, _)]) rfl (w_free rfl) ⟨g_fr (by kernel_rfl) rfl, trivial⟩ (fun w hw => rn_move rfl) (at_top rfl)) ?_
    refine blp_v 12 rfl rfl (by kernel_rfl) (rgV (li := [(54, _), (55, _)]) rfl (w_free rfl) ⟨g_dep 9 (by kernel_rfl) (at_dep rfl rfl rfl), g_dep 10 (by kernel_rfl) (at_dep rfl rfl rfl), trivial⟩ (fun w hw => rn_add rfl rfl (IntWalk.i64_in _ (by omega))) (at_top rfl)) ?_
    refine blp_v 13 rfl rfl (by kernel_rfl) (rgV (li := [(2, _)]) rfl (w_free rfl) ⟨g_fr (by kernel_rfl) rfl, trivial⟩ (fun w hw => rn_field (o' := 0) fa_28_0 rfl rfl) (at_top rfl)) ?_
    refine blp_v 14 rfl rfl (by kernel_rfl) (rgV (li := [(57, _)]) rfl (w_free rfl) ⟨g_dep 12 (by kernel_rfl) (at_dep rfl rfl rfl), trivial⟩ (fun w hw => rn_loadA (vs := [_, _, _]) Try.isAgg25 Try.sizeOf25 rfl (CellsAt.agree (below_agree hw 0) (Nat.zero_le _) (CellsAt.own (j := 0) (m := 3) (hS.at_ 3 rfl) rfl))) (at_top rfl)) ?_
    refine blp_q 15 rfl rfl (by kernel_rfl) (isNew W.heap.size S (oneX S)) (stab_isNew) (rg_call [isV _] rfl goes_23 (w_free rfl) ⟨p_tmp (g_dep 13 (by kernel_rfl) (at_dep rfl rfl rfl)), trivial⟩ (fun vs w' hb hh => by have e := holds_isV (us := [_]) hh; subst e; exact wret_gives hb.size (one10_is S p.s.f w' (hok.si.below (hS.below.trans (hb.mono hS.below.size))) hok.ok)) (at_top rfl)) ?_
    refine blp_q 16 rfl rfl (by kernel_rfl) (isTrP W.heap.size (atF p.st cp i) y (p.st + (i : Int)) S (oneX S)) (stab_trP) (rgPs [(2, 47, isV _), (7, 52, isV _), (11, 56, isV _), (14, 59, isNew W.heap.size S (oneX S))] rfl ⟨⟨by kernel_rfl, at_dep rfl rfl rfl⟩, ⟨by kernel_rfl, at_dep rfl rfl rfl⟩, ⟨by kernel_rfl, at_dep rfl rfl rfl⟩, ⟨by kernel_rfl, at_dep rfl rfl rfl⟩, trivial⟩ bld_trP (at_top rfl)) ?_
    refine blp_q 17 rfl rfl (by kernel_rfl) (isTrRow W.heap.size (atF p.st cp i) y (p.st + (i : Int)) S (oneX S)) (stab_trRow) (rg_trRow rfl (g_dep 15 (by kernel_rfl) (at_dep rfl rfl rfl)) (at_top rfl)) ?_
    refine blp_app 18 rfl rfl ?_
    refine blp_late 19 rfl rfl (rgV (li := [(7, _)]) rfl (w_free rfl) ⟨g_fr (by kernel_rfl) rfl, trivial⟩ (fun w hw => rn_field (o' := 6) fa_60_4 rfl rfl) (at_top rfl)) (lgV (li := [(7, _)]) rfl (w_free rfl) ⟨g_fr (by kernel_rfl) rfl, trivial⟩ (fun w => rn_field (o' := 6) fa_60_4 rfl rfl) (at_top rfl) rfl) ?_
    refine blp_nil ⟨_, _, g_dep 1 (by kernel_rfl) (at_dep rfl rfl rfl), g_dep 16 (by kernel_rfl) (at_dep rfl rfl rfl), rowOf_tr9, ?_⟩
    intro A9 v9 news9 W9 hbR hqA9 hS'
    clear hS; have hS := hS'; clear hS'
    have hqN := hqA9
    iterate 14 refine fin_v ?_
    iterate 3 refine fin_p ?_; intro _ _
    iterate 2 refine fin_v ?_
    obtain ⟨wf, rfl, hxn⟩ := hqN
    have HX9 : Held w ((W.heap.size, A9) :: Kk) (fun W2 => XIs W2 S wf (oneX S)) := fun h2 hk => (hxn.agree (h2.kept (W.heap.size, A9) (hk _ List.mem_cons_self)).1).is
    refine fin_nil ?_
    refine op_store (i := 0) (cs' := [_, _, _, _, _, _, _]) (O' := [_, _, _, _]) hS Try.sizeOf58 rfl rfl (by first | rfl | exact (hS.oneV 0 _ rfl :) | exact (hS.oneV 1 _ rfl :) | exact (hS.oneV 2 _ rfl :) | exact (hS.oneV 3 _ rfl :)) rfl rfl rfl rfl ?_
    clear hS; intro W10 hS
    refine endF (XF.thenN ?_)
    refine regF ?_
    refine op_field (o' := 3) fa_28_1 rfl rfl rfl ?_
    refine op_load Try.isAgg3 rfl (cell_own (hS.at_ 3 rfl) rfl) rfl ?_
    refine op_move rfl rfl ?_
    refine op_add rfl rfl (IntWalk.i64_in _ (by omega)) rfl ?_
    refine op_assign rfl rfl ?_
    refine endF ?_
    refine XF.blkN ?_
    refine XF.thenN ?_
    refine regF ?_
    refine op_move rfl rfl ?_
    refine op_add rfl rfl (IntWalk.i64_in _ (by omega)) rfl ?_
    refine op_assign rfl rfl ?_
    refine endF ?_
    exact XF.round (wl - (i + 1)) [(2, _), (3, _), (4, _), (7, _), (8, _), (9, _)] (by omega) ⟨rfl, rfl, rfl, rfl, rfl, rfl, trivial⟩ ⟨i + 1, _, _, ns ++ [⟨atF p.st cp i, y, p.st + (i : Int), wf⟩], by omega, rfl, rfl, by rw [List.map_append, hns, chL_succ, getD_at hy]; rfl, (fun h2 hk r hr => by
      rcases List.mem_append.1 hr with hr | hr
      ·exact HN h2 (fun q hq => hk q (by simp [hq])) r hr
      ·rw [List.mem_singleton.1 hr]; exact HX9 h2 (fun q hq => hk q (by rcases List.mem_cons.1 hq with rfl | hq <;> simp [*]))), hS.castG (by simp)⟩
   ·have hc42 := of_decide_eq_false hc; clear hc
    have hil : i = wl := by omega
    subst hil
    refine exitF ?_
    iterate 2 refine XF.thenX ?_
    refine XF.blkX ?_
    refine XF.thenN ?_
    refine seqF (regF ?_)
    refine op_move rfl rfl ?_
    refine op_buildSlice (us := [(0, .int .i64 _)]) hS Try.underlying29 Try.sizeOf3 Try.zeroValue3 rfl rfl rfl (bs_29_1 _) rfl ?_
    clear hS; intro B11 W11 hS
    refine op_field (o' := 5) fa_60_3 rfl rfl rfl ?_
    refine op_store (i := 1) (cs' := [_, _, _, _, _, _, _]) (O' := [_, _, _, _, _]) hS Try.sizeOf29 rfl rfl (by first | rfl | exact (hS.oneV 0 _ rfl :) | exact (hS.oneV 1 _ rfl :) | exact (hS.oneV 2 _ rfl :) | exact (hS.oneV 3 _ rfl :)) rfl rfl rfl rfl ?_
    clear hS; intro W12 hS
    refine endF (XF.thenN ?_)
    refine seqF (regF ?_)
    refine op_loadA (vs := [_, _, _, _, _, _, _]) Try.isAgg60 Try.sizeOf60 rfl (CellsAt.own (j := 0) (m := 7) (hS.at_ 1 rfl) rfl) rfl ?_
    refine op_storeA (i := 2) (vs := [_, _, _, _, _, _, _]) (cs' := [_, _, _, _, _, _, _]) (O' := [_, _, _, _, _]) hS Try.sizeOf60 rfl rfl (by first | rfl | (have h0 := hS.oneV 0 _ rfl; simp only [List.all_cons, List.all_nil, Bool.and_true, Bool.and_eq_true]; exact ⟨rfl, rfl, rfl, rfl, rfl, rfl, h0⟩)) rfl rfl rfl rfl ?_
    clear hS; intro W13 hS
    refine op_assign rfl rfl ?_
    refine endF (XF.thenN ?_)
    refine retF ?_
    refine XF.res (resCT (vs := [_, _, _, _, _, _, _]) Try.results19 Try.isAgg60 Try.sizeOf60 rfl (CellsAt.own (j := 0) (m := 7) (hS.at_ 2 rfl) rfl) rfl) ?_
    obtain ⟨a9, c9, rfl⟩ := hS.headSl
    exact ⟨hS.below, .inr ⟨hoE, p.s.f, _, a9, c9, ns, rfl, (hS.own _ List.mem_cons_self).1, hok.si.below hS.below, .inr ⟨_, 0, rfl, fun j hj => by
      cases j with
      | zero => have h9 := (hS.at_ 0 rfl); exact (CellsAt.own (j := 0) (m := 1) (vs := [_]) h9 rfl).1
      | succ j => simp at hj⟩, hns, hS.row 0 rfl, HN.now (hS.keep Kk (fun q hq => by simp [hq]))⟩⟩
end Go.Proofs.Ytpkcaabbcoiiiaa
namespace Go.Proofs.Ytpkcaabbcoiiiaa
open Go Go.RowKit
theorem sameAu_eq (o : Option PS) (pl : List (Int × Int × Int)) (fs : List Int) (s1 s2 : SF) (st sy : Int) (fa1 fa2 ta1 ta2 : Option Addr) (fl fc1 fc2 n tc1 tc2 : Nat) (ns ms : List T9) (w : World) (h1 : AuO o pl fs w s1 fa1 ta1 ns) (h2 : AuO o pl fs w s2 fa2 ta2 ms) (hfl : fs.length = fl) (hn : ns.length = n) (hfm : fl ≤ 1000000) (hnm : n ≤ 1000000) :
  Calls Try.prog 20 #[.agg #[.int .i64 s1.tag, .int .i64 s1.dim, .slice s1.a s1.len s1.cap, .int .i64 st, .int .i64 sy, .slice fa1 fl fc1, .slice ta1 n tc1], .agg #[.int .i64 s2.tag, .int .i64 s2.dim, .slice s2.a s2.len s2.cap, .int .i64 st, .int .i64 sy, .slice fa2 fl fc2, .slice ta2 n tc2]] w (fun e w' => e = .returned (.bool (true)) ∧ Below w.heap.size w w') := by
 refine enterF (args := [.agg #[.int .i64 s1.tag, .int .i64 s1.dim, .slice s1.a s1.len s1.cap, .int .i64 st, .int .i64 sy, .slice fa1 fl fc1, .slice ta1 n tc1], .agg #[.int .i64 s2.tag, .int .i64 s2.dim, .slice s2.a s2.len s2.cap, .int .i64 st, .int .i64 sy, .slice fa2 fl fc2, .slice ta2 n tc2]]) Try.func20 rfl Try.ntmps20 rfl ?_
 have hS := St.start w
 have hpl : ns.map T9.pl = ms.map T9.pl := h1.pl.trans h2.pl.symm
 have hf1 := h1.f
 have hf2 := h2.f
 have ht1 := h1.t
 have ht2 := h2.t
 have hx1 := h1.x
 have hx2 := h2.x
 have hno := h1.no
 have hs1 := h1.sp
 have hs2 := h2.sp
 clear h1 h2
 refine seqF (regF ?_)
 refine op_box (cs := [_, _, _, _, _, _, _]) hS rfl rfl rfl ?_
 clear hS; intro B1 W1 hS
 refine op_box (cs := [_, _, _, _, _, _, _]) hS rfl rfl rfl ?_
 clear hS; intro B2 W2 hS
 refine op_assign rfl rfl ?_
 refine endF (XF.thenN ?_)
 refine seqF ?_
 refine seqF (regF ?_)
 refine op_field (o' := 0) fa_60_0 rfl rfl rfl ?_
 refine op_loadA (vs := [_, _, _]) Try.isAgg25 Try.sizeOf25 rfl (CellsAt.own (j := 0) (m := 3) (hS.at_ 1 rfl) rfl) rfl ?_
 refine op_field (o' := 0) fa_60_0 rfl rfl rfl ?_
 refine op_loadA (vs := [_, _, _]) Try.isAgg25 Try.sizeOf25 rfl (CellsAt.own (j := 0) (m := 3) (hS.at_ 0 rfl) rfl) rfl ?_
 refine op_call (vs := [_, _]) hS goes_43 rfl (sameSpc (hs1.below hS.below) (hs2.below hS.below)) rfl ?_
 rintro e W3 ⟨rfl, hb⟩
 refine ⟨_, rfl, hb, fun hS' => ?_⟩
 clear hS; have hS := hS'; clear hS' hb
 refine op_not rfl rfl ?_
 refine op_move rfl rfl ?_
 refine op_wantedF (d := 15) rfl rfl ?_
 refine op_field (o' := 3) fa_60_1 rfl rfl rfl ?_
 refine op_wantedF (d := 15) rfl rfl ?_
 refine op_load Try.isAgg3 rfl (cell_own (hS.at_ 1 rfl) rfl) rfl ?_
 refine op_wantedF (d := 15) rfl rfl ?_
 refine op_field (o' := 3) fa_60_1 rfl rfl rfl ?_
 refine op_wantedF (d := 15) rfl rfl ?_
 refine op_load Try.isAgg3 rfl (cell_own (hS.at_ 0 rfl) rfl) rfl ?_
 refine op_wantedF (d := 15) rfl rfl ?_
 refine op_neq rfl rfl rfl ?_
 refine op_pickF rfl rfl rfl ?_
 refine op_move rfl rfl ?_
 refine op_cases (d := 22) rfl (fun hc => absurd (of_decide_eq_true hc) (by exact fun h => h rfl)) (fun hc => ?_)
 have hc := of_decide_eq_false hc
 refine op_wantedF (d := 22) rfl rfl ?_
 refine op_field (o' := 4) fa_60_2 rfl rfl rfl ?_
 refine op_wantedF (d := 22) rfl rfl ?_
 refine op_load Try.isAgg3 rfl (cell_own (hS.at_ 1 rfl) rfl) rfl ?_
 refine op_wantedF (d := 22) rfl rfl ?_
 refine op_field (o' := 4) fa_60_2 rfl rfl rfl ?_
 refine op_wantedF (d := 22) rfl rfl ?_
 refine op_load Try.isAgg3 rfl (cell_own (hS.at_ 0 rfl) rfl) rfl ?_
 refine op_wantedF (d := 22) rfl rfl ?_
 refine op_neq rfl rfl rfl ?_
 refine op_pickF rfl rfl rfl ?_
 refine op_move rfl rfl ?_
 refine op_cases (d := 29) rfl (fun hc => absurd (of_decide_eq_true hc) (by exact fun h => h rfl)) (fun hc => ?_)
 have hc := of_decide_eq_false hc
 refine op_wantedF (d := 29) rfl rfl ?_
 refine op_field (o' := 5) fa_60_3 rfl rfl rfl ?_
 refine op_wantedF (d := 29) rfl rfl ?_
 refine op_load Try.isAgg29 rfl (cell_own (hS.at_ 1 rfl) rfl) rfl ?_
 refine op_wantedF (d := 29) rfl rfl ?_
 refine op_len Try.underlying29 rfl rfl ?_
 refine op_wantedF (d := 29) rfl rfl ?_
 refine op_field (o' := 5) fa_60_3 rfl rfl rfl ?_
 refine op_wantedF (d := 29) rfl rfl ?_
 refine op_load Try.isAgg29 rfl (cell_own (hS.at_ 0 rfl) rfl) rfl ?_
 refine op_wantedF (d := 29) rfl rfl ?_
 refine op_len Try.underlying29 rfl rfl ?_
 refine op_wantedF (d := 29) rfl rfl ?_
 refine op_neq rfl rfl rfl ?_
 refine op_pickF rfl rfl rfl ?_
 refine op_move rfl rfl ?_
 refine op_cases (d := 38) rfl (fun hc => absurd (of_decide_eq_true hc) (by exact fun h => h rfl)) (fun hc => ?_)
 have hc := of_decide_eq_false hc
 refine op_wantedF (d := 38) rfl rfl ?_
 refine op_field (o' := 6) fa_60_4 rfl rfl rfl ?_
 refine op_wantedF (d := 38) rfl rfl ?_
 refine op_load Try.isAgg58 rfl (cell_own (hS.at_ 1 rfl) rfl) rfl ?_
 refine op_wantedF (d := 38) rfl rfl ?_
 refine op_len Try.underlying58 rfl rfl ?_
 refine op_wantedF (d := 38) rfl rfl ?_
 refine op_field (o' := 6) fa_60_4 rfl rfl rfl ?_
 refine op_wantedF (d := 38) rfl rfl ?_
 refine op_load Try.isAgg58 rfl (cell_own (hS.at_ 0 rfl) rfl) rfl ?_
 refine op_wantedF (d := 38) rfl rfl ?_
 refine op_len Try.underlying58 rfl rfl ?_
 refine op_wantedF (d := 38) rfl rfl ?_
 refine op_neq rfl rfl rfl ?_
 refine op_pickF rfl rfl rfl ?_
 refine endF (XF.thenN ?_)
 refine condF rfl (fun hc => absurd (of_decide_eq_true hc) (by exact fun h => h rfl)) (fun hc => ?_)
 have hc := of_decide_eq_false hc
 refine skipF ?_
 refine XF.thenN ?_
 refine seqF ?_
 refine seqF (regF ?_)
 refine op_assign rfl rfl ?_
 refine endF (XF.thenN ?_)
 refine blockF ?_
 refine loopF (fun m l W => ∃ i : Nat, i ≤ fl ∧ m = fl - i ∧ l = [(2, .pointer (some ⟨B1, 0, none⟩)), (3, .pointer (some ⟨B2, 0, none⟩)), (5, .int .i64 (i : Int))] ∧ St w [(B2, [.int .i64 s2.tag, .int .i64 s2.dim, .slice s2.a s2.len s2.cap, .int .i64 st, .int .i64 sy, .slice fa2 fl fc2, .slice ta2 n tc2], 60), (B1, [.int .i64 s1.tag, .int .i64 s1.dim, .slice s1.a s1.len s1.cap, .int .i64 st, .int .i64 sy, .slice fa1 fl fc1, .slice ta1 n tc1], 60)] [] [] W) (fl - 0) ([(2, _), (3, _), (5, _)]) ⟨rfl, rfl, rfl, trivial⟩ (⟨0, Nat.zero_le _, rfl, rfl, hS.clear⟩) ?_
 clear hS
 rintro m l W ⟨i, hi, rfl, rfl, hS⟩
 refine seqF ?_
 refine seqF (regF ?_)
 refine op_move rfl rfl ?_
 refine op_field (o' := 5) fa_60_3 rfl rfl rfl ?_
 refine op_load Try.isAgg29 rfl (cell_own (hS.at_ 1 rfl) rfl) rfl ?_
 refine op_len Try.underlying29 rfl rfl ?_
 refine op_lss rfl rfl rfl ?_
 refine endF (XF.thenN ?_)
 refine condF rfl (fun hc => ?_) (fun hc => ?_)
 ·have hc51 := of_decide_eq_true hc; clear hc
  have hk : i < fl := by omega
  obtain ⟨b1, o1, y, rfl, hy, hyc⟩ := hf1.at1 (show i < fs.length by omega)
  obtain ⟨b2, o2, z, rfl, hz, hzc⟩ := hf2.at1 (show i < fs.length by omega)
  obtain rfl : y = z := Option.some.inj (hy.symm.trans hz)
  have k1 := hS.old hyc
  have k2 := hS.old hzc
  refine skipF ?_
  refine XF.thenN ?_
  refine seqF ?_
  refine blockF ?_
  refine seqF ?_
  refine regB (m := 11) followsM hS (by kernel_rfl) (by kernel_rfl) rfl ?_
  refine bl_cons 1 rfl (isV _) (stab_isV _) (rgV (li := [(2, _)]) rfl (w_free rfl) ⟨g_fr (by kernel_rfl) rfl, trivial⟩ (fun w hw => rn_field (o' := 5) fa_60_3 rfl rfl) (at_top rfl)) ?_
  refine bl_cons 2 rfl (isV _) (stab_isV _) (rgV (li := [(54, _)]) rfl (w_free rfl) ⟨g_dep 0 (by kernel_rfl) (at_dep rfl rfl rfl), trivial⟩ (fun w hw => rn_load Try.isAgg29 rfl ((below_agree hw 0).cell (Nat.zero_le _) (cell_own (hS.at_ 1 rfl) rfl))) (at_top rfl)) ?_
  refine bl_cons 3 rfl (isV _) (stab_isV _) (rgV (li := [(5, _)]) rfl (w_free rfl) ⟨g_fr (by kernel_rfl) rfl, trivial⟩ (fun w hw => rn_move rfl) (at_top rfl)) ?_
  refine bl_cons 4 rfl (isV _) (stab_isV _) (rgV (li := [(55, _), (56, _)]) rfl (w_free rfl) ⟨g_dep 1 (by kernel_rfl) (at_dep rfl rfl rfl), g_dep 2 (by kernel_rfl) (at_dep rfl rfl rfl), trivial⟩ (fun w hw => rn_indexA  Try.underlying29 Try.sizeOf3 rfl rfl rfl (by omega) rfl) (at_top rfl)) ?_
  refine bl_cons 5 rfl (isV _) (stab_isV _) (rgV (li := [(57, _)]) rfl (w_free rfl) ⟨g_dep 3 (by kernel_rfl) (at_dep rfl rfl rfl), trivial⟩ (fun w hw => rn_load Try.isAgg3 rfl ((below_agree hw 0).cell (Nat.zero_le _) (k1))) (at_top rfl)) ?_
  refine bl_cons 6 rfl (isV _) (stab_isV _) (rgV (li := [(3, _)]) rfl (w_free rfl) ⟨g_fr (by kernel_rfl) rfl, trivial⟩ (fun w hw => rn_field (o' := 5) fa_60_3 rfl rfl) (at_top rfl)) ?_
  refine bl_cons 7 rfl (isV _) (stab_isV _) (rgV (li := [(59, _)]) rfl (w_free rfl) ⟨g_dep 5 (by kernel_rfl) (at_dep rfl rfl rfl), trivial⟩ (fun w hw => rn_load Try.isAgg29 rfl ((below_agree hw 0).cell (Nat.zero_le _) (cell_own (hS.at_ 0 rfl) rfl))) (at_top rfl)) ?_
  refine bl_cons 8 rfl (isV _) (stab_isV _) (rgV (li := [(5, _)]) rfl (w_free rfl) ⟨g_fr (by kernel_rfl) rfl, trivial⟩ (fun w hw => rn_move rfl) (at_top rfl)) ?_
  refine bl_cons 9 rfl (isV _) (stab_isV _) (rgV (li := [(60, _), (61, _)]) rfl (w_free rfl) ⟨g_dep 6 (by kernel_rfl) (at_dep rfl rfl rfl), g_dep 7 (by kernel_rfl) (at_dep rfl rfl rfl), trivial⟩ (fun w hw => rn_indexA  Try.underlying29 Try.sizeOf3 rfl rfl rfl (by omega) rfl) (at_top rfl)) ?_
  refine bl_cons 10 rfl (isV _) (stab_isV _) (rgV (li := [(62, _)]) rfl (w_free rfl) ⟨g_dep 8 (by kernel_rfl) (at_dep rfl rfl rfl), trivial⟩ (fun w hw => rn_load Try.isAgg3 rfl ((below_agree hw 0).cell (Nat.zero_le _) (k2))) (at_top rfl)) ?_
  refine bl_cons 11 rfl (isV _) (stab_isV _) (rgV (li := [(58, _), (63, _)]) rfl (w_free rfl) ⟨g_dep 4 (by kernel_rfl) (at_dep rfl rfl rfl), g_dep 9 (by kernel_rfl) (at_dep rfl rfl rfl), trivial⟩ (fun w hw => rn_neq rfl rfl) (at_top rfl)) ?_
  refine bl_nil ?_
  intro W4 hbR hS'
  clear hS; have hS := hS'; clear hS'
  iterate 11 refine fin_v ?_
  refine fin_nil ?_
  refine XF.thenN ?_
  refine condF rfl (fun hc => absurd hc (by simp)) (fun hc => ?_)
  skip
  refine skipF ?_
  refine XF.blkN ?_
  refine XF.thenN ?_
  refine regF ?_
  refine op_move rfl rfl ?_
  refine op_add rfl rfl (IntWalk.i64_in _ (by omega)) rfl ?_
  refine op_assign rfl rfl ?_
  refine endF ?_
  exact XF.round (fl - (i + 1)) [(2, _), (3, _), (5, _)] (by omega) ⟨rfl, rfl, rfl, trivial⟩ ⟨i + 1, by omega, rfl, rfl, hS.clear⟩
 ·have hc51 := of_decide_eq_false hc; clear hc
  refine exitF ?_
  iterate 2 refine XF.thenX ?_
  refine XF.blkX ?_
  refine XF.thenN ?_
  refine seqF ?_
  refine seqF (regF ?_)
  refine op_assign rfl rfl ?_
  refine endF (XF.thenN ?_)
  refine blockF ?_
  refine loopF (fun m l W => ∃ i : Nat, i ≤ n ∧ m = n - i ∧ l = [(2, .pointer (some ⟨B1, 0, none⟩)), (3, .pointer (some ⟨B2, 0, none⟩)), (6, .int .i64 (i : Int))] ∧ St w [(B2, [.int .i64 s2.tag, .int .i64 s2.dim, .slice s2.a s2.len s2.cap, .int .i64 st, .int .i64 sy, .slice fa2 fl fc2, .slice ta2 n tc2], 60), (B1, [.int .i64 s1.tag, .int .i64 s1.dim, .slice s1.a s1.len s1.cap, .int .i64 st, .int .i64 sy, .slice fa1 fl fc1, .slice ta1 n tc1], 60)] [] [] W) (n - 0) ([(2, _), (3, _), (6, _)]) ⟨rfl, rfl, rfl, trivial⟩ (⟨0, Nat.zero_le _, rfl, rfl, hS.clear⟩) ?_
  clear hS
  rintro m l W ⟨i, hi, rfl, rfl, hS⟩
  refine seqF ?_
  refine seqF (regF ?_)
  refine op_move rfl rfl ?_
  refine op_field (o' := 6) fa_60_4 rfl rfl rfl ?_
  refine op_load Try.isAgg58 rfl (cell_own (hS.at_ 1 rfl) rfl) rfl ?_
  refine op_len Try.underlying58 rfl rfl ?_
  refine op_lss rfl rfl rfl ?_
  refine endF (XF.thenN ?_)
  refine condF rfl (fun hc => ?_) (fun hc => ?_)
  ·have hc69 := of_decide_eq_true hc; clear hc
   have hk : i < n := by omega
   obtain ⟨r, hr⟩ : ∃ r, ns[i]? = some r := ⟨ns[i]'(by omega), by simp [show i < ns.length by omega]⟩
   obtain ⟨q, hq, e1, e2, e3⟩ := pl_atT hpl hr
   obtain ⟨S, hS9⟩ : ∃ S, o = some S := by
    cases o with
    | none => rw [hno rfl] at hr; simp at hr
    | some S => exact ⟨S, rfl⟩
   have hxr := hx1 S hS9 r (List.mem_of_getElem? hr)
   have hxq := hx2 S hS9 q (List.mem_of_getElem? hq)
   obtain ⟨rb, ro, rfl, hcr⟩ := ht1 i r hr
   obtain ⟨qb, qo, rfl, hcq⟩ := ht2 i q hq
   obtain ⟨f1, g1, t1, x1⟩ := r
   obtain ⟨f2, g2, t2, x2⟩ := q
   dsimp only at e1 e2 e3 hxr hxq
   subst e1 e2 e3
   dsimp only [T9.nine] at hcr hcq
   refine skipF ?_
   refine XF.thenN ?_
   refine seqF ?_
   refine blockF ?_
   refine seqF ?_
   refine regS (ef := 12) (jy := 4) (ca := caSt (fun a => bif Nat.beq a 10 then [.int .i64 0, .int .i64 0, .int .i64 0, .bool false, .int .i64 0, .int .u64 0, .slice none 0 0, .slice none 0 0, .slice none 0 0] else [.int .i64 0, .int .i64 0, .int .i64 0, .bool false, .int .i64 0, .int .u64 0, .slice none 0 0, .slice none 0 0, .slice none 0 0]) 10) (ta := fun a => bif Nat.beq a 10 then 100 else 100) (Os := osNo _) (Gs := gsNo _) (al := [10, 11]) (k := 13) (ds := []) followsM rfl hS rfl (by kernel_rfl) (by kernel_rfl) rfl (by decide) rfl (some) (.inl ⟨rfl, rfl⟩) rfl rfl ?_
   refine bls_cons 1 rfl rfl (isV _) (fun hNo => sgV [(2, _)] rfl rfl rfl rfl hNo (w_free rfl) ⟨g_fr (by kernel_rfl) rfl, trivial⟩ (fun ev w he hw => rn_field (o' := 6) fa_60_4 rfl rfl) (at_top rfl)) ?_
   refine bls_cons 2 rfl rfl (isV _) (fun hNo => sgV [(72, _)] rfl rfl rfl rfl hNo (w_free rfl) ⟨g_dep 0 (by kernel_rfl) (at_dep rfl rfl rfl), trivial⟩ (fun ev w he hw => rn_load Try.isAgg58 rfl ((cell_own (hw.at_ 1 rfl) rfl))) (at_top rfl)) ?_
   refine bls_cons 3 rfl rfl (isV _) (fun hNo => sgV [(6, _)] rfl rfl rfl rfl hNo (w_free rfl) ⟨g_fr (by kernel_rfl) rfl, trivial⟩ (fun ev w he hw => rn_move rfl) (at_top rfl)) ?_
   refine bls_cons 4 rfl rfl (isV _) (fun hNo => sgV [(73, _), (74, _)] rfl rfl rfl rfl hNo (w_free rfl) ⟨g_dep 1 (by kernel_rfl) (at_dep rfl rfl rfl), g_dep 2 (by kernel_rfl) (at_dep rfl rfl rfl), trivial⟩ (fun ev w he hw => rn_indexA  Try.underlying58 Try.sizeOf100 rfl rfl rfl (by omega) rfl) (at_top rfl)) ?_
   refine bls_cons 5 rfl rfl (isV _) (fun hNo => sgV [(75, _)] rfl rfl rfl rfl hNo (w_free rfl) ⟨g_dep 3 (by kernel_rfl) (at_dep rfl rfl rfl), trivial⟩ (fun ev w he hw => rn_loadA (vs := [_, _, _, _, _, _, _, _, _]) Try.isAgg100 Try.sizeOf100 rfl (CellsAt.agree hw.agree (Nat.zero_le _) (hcr))) (at_top rfl)) ?_
   refine bls_cons 6 rfl rfl (isV _) (fun hNo => sgV [(3, _)] rfl rfl rfl rfl hNo (w_free rfl) ⟨g_fr (by kernel_rfl) rfl, trivial⟩ (fun ev w he hw => rn_field (o' := 6) fa_60_4 rfl rfl) (at_top rfl)) ?_
   refine bls_cons 7 rfl rfl (isV _) (fun hNo => sgV [(77, _)] rfl rfl rfl rfl hNo (w_free rfl) ⟨g_dep 5 (by kernel_rfl) (at_dep rfl rfl rfl), trivial⟩ (fun ev w he hw => rn_load Try.isAgg58 rfl ((cell_own (hw.at_ 0 rfl) rfl))) (at_top rfl)) ?_
   refine bls_cons 8 rfl rfl (isV _) (fun hNo => sgV [(6, _)] rfl rfl rfl rfl hNo (w_free rfl) ⟨g_fr (by kernel_rfl) rfl, trivial⟩ (fun ev w he hw => rn_move rfl) (at_top rfl)) ?_
   refine bls_cons 9 rfl rfl (isV _) (fun hNo => sgV [(78, _), (79, _)] rfl rfl rfl rfl hNo (w_free rfl) ⟨g_dep 6 (by kernel_rfl) (at_dep rfl rfl rfl), g_dep 7 (by kernel_rfl) (at_dep rfl rfl rfl), trivial⟩ (fun ev w he hw => rn_indexA  Try.underlying58 Try.sizeOf100 rfl rfl rfl (by omega) rfl) (at_top rfl)) ?_
   refine bls_cons 10 rfl rfl (isV _) (fun hNo => sgV [(80, _)] rfl rfl rfl rfl hNo (w_free rfl) ⟨g_dep 8 (by kernel_rfl) (at_dep rfl rfl rfl), trivial⟩ (fun ev w he hw => rn_loadA (vs := [_, _, _, _, _, _, _, _, _]) Try.isAgg100 Try.sizeOf100 rfl (CellsAt.agree hw.agree (Nat.zero_le _) (hcq))) (at_top rfl)) ?_
   refine bls_any 11 rfl (sg_alloc rfl rfl rfl rfl rfl Try.zeroValue100 (fun ev he => by rw [he rfl]; rfl)) ?_
   refine bls_any 12 rfl (sg_alloc rfl rfl rfl rfl rfl Try.zeroValue100 (fun ev he => by cases ev <;> rfl)) ?_
   refine bls_any 13 rfl (eff_stA (py := isV _) (m := 9) 10 rfl rfl rfl rfl (by kernel_rfl) rfl (by kernel_rfl) rfl rfl Try.sizeOf100 rfl (fun v w e => ⟨[.int .i64 f2, .int .i64 g2, .int .i64 t2, .bool x1.z, .int .i64 x1.c, .int .u64 (x1.g : Int), .slice x1.ra x1.rl x1.rc, .slice x1.ca x1.cl x1.cc, .slice x1.pa x1.pl x1.pc], by rw [show v = _ from e]; rfl, rfl, rfl⟩)) ?_
   refine bls_nil ?_
   intro Bf5 y5 W5 Ks5 hsz5 hKs5 hS' hcov5
   clear hS; have hS := hS'.castO (O' := [_, _, _, _]) rfl; clear hS'
   refine castL (L' := [AwS _ _ (isV _), AwS _ _ (isV _), AwS _ _ (isV _), AwS _ _ (isV _), (fun v0_ w0_ => v0_ = _ ∧ AwS _ _ (isV _) v0_ w0_), AwS _ _ (isV _), AwS _ _ (isV _), AwS _ _ (isV _), AwS _ _ (isV _), AwS _ _ (isV _), isV _, isV _, isV _]) rfl ?_
   iterate 4 refine fin_sV ?_
   refine fin_p ?_; rintro _ ⟨rfl, hA5⟩; have hA5 := hA5.here; cases hA5
   iterate 5 refine fin_sV ?_
   iterate 2 refine fin_v ?_
   refine fin_0 ?_
   refine fin_nil ?_
   refine op_storeA (i := 1) (vs := [_, _, _, _, _, _, _, _, _]) (cs' := [_, _, _, _, _, _, _, _, _]) (O' := [_, _, _, _]) hS Try.sizeOf100 rfl rfl rfl rfl rfl rfl rfl ?_
   clear hS; intro W6 hS
   refine endF (XF.thenN ?_)
   refine seqF (regF ?_)
   refine op_field (o' := 0) fa_100_0 rfl rfl rfl ?_
   refine op_load Try.isAgg3 rfl (cell_own (hS.at_ 0 rfl) rfl) rfl ?_
   refine op_field (o' := 0) fa_100_0 rfl rfl rfl ?_
   refine op_load Try.isAgg3 rfl (cell_own (hS.at_ 1 rfl) rfl) rfl ?_
   refine op_neq rfl rfl rfl ?_
   refine op_move rfl rfl ?_
   refine op_cases (d := 87) rfl (fun hc => absurd (of_decide_eq_true hc) (by exact fun h => h rfl)) (fun hc => ?_)
   have hc := of_decide_eq_false hc
   refine op_wantedF (d := 87) rfl rfl ?_
   refine op_field (o' := 1) fa_100_1 rfl rfl rfl ?_
   refine op_wantedF (d := 87) rfl rfl ?_
   refine op_load Try.isAgg3 rfl (cell_own (hS.at_ 0 rfl) rfl) rfl ?_
   refine op_wantedF (d := 87) rfl rfl ?_
   refine op_field (o' := 1) fa_100_1 rfl rfl rfl ?_
   refine op_wantedF (d := 87) rfl rfl ?_
   refine op_load Try.isAgg3 rfl (cell_own (hS.at_ 1 rfl) rfl) rfl ?_
   refine op_wantedF (d := 87) rfl rfl ?_
   refine op_neq rfl rfl rfl ?_
   refine op_pickF rfl rfl rfl ?_
   refine op_move rfl rfl ?_
   refine op_cases (d := 94) rfl (fun hc => absurd (of_decide_eq_true hc) (by exact fun h => h rfl)) (fun hc => ?_)
   have hc := of_decide_eq_false hc
   refine op_wantedF (d := 94) rfl rfl ?_
   refine op_field (o' := 2) fa_100_2 rfl rfl rfl ?_
   refine op_wantedF (d := 94) rfl rfl ?_
   refine op_load Try.isAgg3 rfl (cell_own (hS.at_ 0 rfl) rfl) rfl ?_
   refine op_wantedF (d := 94) rfl rfl ?_
   refine op_field (o' := 2) fa_100_2 rfl rfl rfl ?_
   refine op_wantedF (d := 94) rfl rfl ?_
   refine op_load Try.isAgg3 rfl (cell_own (hS.at_ 1 rfl) rfl) rfl ?_
   refine op_wantedF (d := 94) rfl rfl ?_
   refine op_neq rfl rfl rfl ?_
   refine op_pickF rfl rfl rfl ?_
   refine op_move rfl rfl ?_
   refine op_cases (d := 101) rfl (fun hc => absurd (of_decide_eq_true hc) (by exact fun h => h rfl)) (fun hc => ?_)
   have hc := of_decide_eq_false hc
   refine op_wantedF (d := 101) rfl rfl ?_
   refine op_field (o' := 3) fa_100_3 rfl rfl rfl ?_
   refine op_wantedF (d := 101) rfl rfl ?_
   refine op_loadA (vs := [_, _, _, _, _, _]) Try.isAgg45 Try.sizeOf45 rfl (CellsAt.own (j := 3) (m := 6) (hS.at_ 0 rfl) rfl) rfl ?_
   refine op_wantedF (d := 101) rfl rfl ?_
   refine op_field (o' := 3) fa_100_3 rfl rfl rfl ?_
   refine op_wantedF (d := 101) rfl rfl ?_
   refine op_loadA (vs := [_, _, _, _, _, _]) Try.isAgg45 Try.sizeOf45 rfl (CellsAt.own (j := 3) (m := 6) (hS.at_ 1 rfl) rfl) rfl ?_
   refine op_wantedF (d := 101) rfl rfl ?_
   refine op_call (vs := [_, _]) hS goes_14 rfl (sameW_is (hxr.below hS.below) (hxq.below hS.below) true (by simp)) rfl ?_
   rintro e W7 ⟨rfl, hb⟩
   refine ⟨_, rfl, hb, fun hS' => ?_⟩
   clear hS; have hS := hS'; clear hS' hb
   refine op_wantedF (d := 101) rfl rfl ?_
   refine op_not rfl rfl ?_
   refine op_pickF rfl rfl rfl ?_
   refine endF (XF.thenN ?_)
   refine condN rfl ?_
   refine skipF ?_
   refine XF.blkN ?_
   refine XF.thenN ?_
   refine regF ?_
   refine op_move rfl rfl ?_
   refine op_add rfl rfl (IntWalk.i64_in _ (by omega)) rfl ?_
   refine op_assign rfl rfl ?_
   refine endF ?_
   exact XF.round (n - (i + 1)) [(2, _), (3, _), (6, _)] (by omega) ⟨rfl, rfl, rfl, trivial⟩ ⟨i + 1, by omega, rfl, rfl, hS.tail.tail.clear⟩
  ·have hc69 := of_decide_eq_false hc; clear hc
   refine exitF ?_
   iterate 2 refine XF.thenX ?_
   refine XF.blkX ?_
   refine XF.thenN ?_
   refine seqF (regF ?_)
   refine op_assign rfl rfl ?_
   refine endF (XF.thenN ?_)
   refine retF ?_
   refine XF.res (res1 Try.results20 rfl) ?_
   exact ⟨rfl, hS.below⟩
end Go.Proofs.Ytpkcaabbcoiiiaa
namespace Go.Proofs.Ytpkcaabbcoiiiaa
open Go Go.RowKit
theorem space_win {W : World} {S : PS} {sq : SF} (hs : SIs W S sq) (hok : S.ok) : ∃ s : SV, s.f = sq ∧ SIn W 2 s ∧ spaceE s = 0 ∧ ∀ f x, XIs W S f x → ∃ y : WV, y.f = f ∧ WIn W 2 y ∧ okW s y = true := by
 cases S with
 | one t n =>
  obtain ⟨a, c, rfl⟩ := hs
  have hp : plainB t n 0 = true := hok
  refine ⟨.mk ⟨t, n, a, 0, c⟩ [], rfl, ⟨rfl, .inl rfl, by simp⟩, ?_, fun f x hx => ?_⟩
  ·simp only [spaceE]; rw [if_pos hp]
  ·cases x with
   | one x => exact ⟨.mk f [], rfl, win_one hx 1, by unfold okW; exact (if_pos (c := plainB t n 0 = true) hp).trans (PIs.pw hx)⟩
   | two a b => exact hx.elim
 | two t n u m =>
  obtain ⟨b, off, c, a1, c1, a2, c2, rfl, h1, h2⟩ := hs
  refine ⟨.mk ⟨5, 0, some ⟨b, off, none⟩, 2, c⟩ [.mk ⟨t, n, a1, 0, c1⟩ [], .mk ⟨u, m, a2, 0, c2⟩ []], rfl, sin_two h1 h2, ?_, fun f x hx => ?_⟩
  ·have e1 : plainB t n 0 = true := hok.1
   have e2 : plainB u m 0 = true := hok.2
   unfold spaceE
   exact (if_neg (c := plainB 5 0 2 = true) (by decide)).trans (if_pos (by refine ⟨rfl, rfl, rfl, ?_⟩; simp [SV.pl, SV.f, e1, e2]))
  ·cases x with
   | one x => exact hx.elim
   | two a b =>
    obtain ⟨ra, ca, rc, cc, pc, fb, fo, f1, f2, rfl, h6, h7, h8, h9⟩ := hx.two
    exact ⟨_, rfl, two_win h6 h7 h8 h9, by unfold okW; exact (if_neg (c := plainB 5 0 2 = true) (by decide)).trans (two_pairOk h8 h9)⟩
theorem auto_of {W : World} {S : PS} {pl : List (Int × Int × Int)} {fs : List Int} {sq : SF} {fa ta : Option Addr} {ns : List T9} (hok : S.ok) (hs : SIs W S sq) (h : AuO (some S) pl fs W sq fa ta ns) : ∃ (s : SV) (ts : List TV), s.f = sq ∧ SIn W 2 s ∧ spaceE s = 0 ∧ ts.length = ns.length ∧ (∀ (i : Nat) t r, ts[i]? = some t → ns[i]? = some r → t.f = r.f ∧ t.g = r.g ∧ t.t = r.t ∧ t.x.f = r.x) ∧ (∀ t ∈ ts, WIn W 2 t.x ∧ chkW s t.x = 0 ∧ XIs W S t.x.f (oneX S)) ∧ TRow W ta ts := by
 obtain ⟨s, hsf, hsi, hse, hy⟩ := space_win hs hok
 have key : ∀ ns : List T9, (∀ r ∈ ns, XIs W S r.x (oneX S)) → ∃ ts : List TV, ts.length = ns.length ∧ (∀ (i : Nat) t r, ts[i]? = some t → ns[i]? = some r → t.f = r.f ∧ t.g = r.g ∧ t.t = r.t ∧ t.x.f = r.x) ∧ ∀ t ∈ ts, WIn W 2 t.x ∧ chkW s t.x = 0 ∧ XIs W S t.x.f (oneX S) := by
  intro ns
  induction ns with
  | nil => intro _; exact ⟨[], rfl, fun i t r ht => by simp at ht, fun t ht => by cases ht⟩
  | cons r ns ih =>
   intro hx
   obtain ⟨ts, hl, hm, hc⟩ := ih fun q hq => hx q (List.mem_cons_of_mem _ hq)
   obtain ⟨y, hyf, hyi, hyo⟩ := hy r.x (oneX S) (hx r List.mem_cons_self)
   refine ⟨⟨r.f, r.g, r.t, y⟩ :: ts, by simp [hl], fun i t q ht hq => ?_, fun t ht => ?_⟩
   ·cases i with
    | zero => cases ht; cases hq; exact ⟨rfl, rfl, rfl, hyf⟩
    | succ i => exact hm i t q (by simpa using ht) (by simpa using hq)
   ·rcases List.mem_cons.1 ht with rfl | ht
    ·exact ⟨hyi, by unfold chkW; rw [if_pos hse, if_pos hyo], by rw [hyf]; exact hx r List.mem_cons_self⟩
    ·exact hc t ht
 obtain ⟨ts, hl, hm, hc⟩ := key ns (h.x S rfl)
 refine ⟨s, ts, hsf, hsi, hse, hl, hm, hc, ?_⟩
 cases hns : ns with
 | nil => rw [hns] at hl; exact .inl (List.eq_nil_of_length_eq_zero hl)
 | cons r0 rest =>
  obtain ⟨b, off, hta, _⟩ := h.t 0 r0 (by rw [hns]; rfl)
  refine .inr ⟨b, off, hta, fun i t ht => ?_⟩
  obtain ⟨r, hr⟩ : ∃ r, ns[i]? = some r := ⟨ns[i]'(by rw [← hl]; exact (List.getElem?_eq_some_iff.1 ht).1), List.getElem?_eq_getElem _⟩
  obtain ⟨b2, off2, e, hcs⟩ := h.t i r hr
  rw [hta] at e
  injection e with e
  injection e with e1 e2
  subst e1; subst e2
  obtain ⟨h1, h2, h3, h4⟩ := hm i t r ht hr
  have e9 : t.nine = r.nine := by
   obtain ⟨tf, tg, tt, tx⟩ := t
   obtain ⟨rf, rg, rt, rx⟩ := r
   dsimp only at h1 h2 h3 h4
   subst h1; subst h2; subst h3; subst h4; rfl
  rw [e9]; exact hcs
def aN (st p : Nat) : Nat → Nat
 | 0 => p
 | k + 1 => st + k
theorem aN_at (st p : Nat) (k : Nat) : atF (st : Int) (p : Int) k = ((aN st p k : Nat) : Int) := by
 cases k with
 | zero => rfl
 | succ k => simp [atF, aN]
theorem aN_inj {st p : Nat} (hp : p < st) {k j : Nat} (h : aN st p k = aN st p j) : k = j := by
 cases k <;> cases j <;> simp only [aN] at h <;> omega
theorem getD_set9 {α : Type} {l : List α} {a s : Nat} {v z : α} (h : a < l.length) : (l.set a v).getD s z = if s = a then v else l.getD s z := by
 rw [List.getD_eq_getElem?_getD, List.getD_eq_getElem?_getD]
 by_cases e : s = a
 ·subst e; rw [if_pos rfl, List.getElem?_set_self h]; rfl
 ·rw [if_neg e, List.getElem?_set_ne (Ne.symm e)]
theorem getD_mem9 {α : Type} {l : List α} {s : Nat} {z : α} (h : s < l.length) : l.getD s z ∈ l := by
 rw [List.getD_eq_getElem?_getD, List.getElem?_eq_getElem h]; exact List.getElem_mem h
section
variable {S : PS} {st p n : Nat} {ws : List Int} {ts : List TV}
theorem chain_rest (hok : S.ok) (hp : p < st) (hts : ∀ (k : Nat) t, ts[k]? = some t → t.f = ((aN st p k : Nat) : Int) ∧ ws[k]? = some t.g ∧ t.t = ((st + k : Nat) : Int)) (htl : ts.length = ws.length) (hn : n = st + ws.length) (g : Int) (l : List PX) (hll : l.length = n) (hlo : ∀ x ∈ l, OkX S x) : ∀ i, i ≤ ts.length →
  (∀ k, k < i → ws[k]? = some g → (restF S false g l (fun _ => oneX S) n (ts.take i)).getD (aN st p k) (zeroX S) = l.getD (st + k) (zeroX S)) ∧ (∀ s, (∀ k, k < i → s = aN st p k → ws[k]? ≠ some g) → (restF S false g l (fun _ => oneX S) n (ts.take i)).getD s (zeroX S) = zeroX S)
 | 0, _ => by
  refine ⟨fun k hk => absurd hk (Nat.not_lt_zero _), fun s _ => ?_⟩
  show (List.replicate n (zeroX S)).getD s (zeroX S) = zeroX S
  rw [List.getD_eq_getElem?_getD, List.getElem?_replicate]
  split <;> rfl
 | i + 1, hi => by
  obtain ⟨h1, h2⟩ := chain_rest hok hp hts htl hn g l hll hlo i (by omega)
  obtain ⟨t, ht⟩ : ∃ t, ts[i]? = some t := ⟨ts[i]'(by omega), List.getElem?_eq_getElem _⟩
  obtain ⟨e1, e2, e3⟩ := hts i t ht
  rw [restF_take ht]
  unfold stepF
  by_cases hg : t.g = g
  ·rw [if_pos hg, e1, e3, Int.toNat_natCast, Int.toNat_natCast]
   have hz : (restF S false g l (fun _ => oneX S) n (ts.take i)).getD (aN st p i) (zeroX S) = zeroX S := h2 _ fun k hk e => by have := aN_inj hp e; omega
   have hmem : l.getD (st + i) (zeroX S) ∈ l := getD_mem9 (by omega)
   have hx := hlo _ hmem
   have hv : combX S ((restF S false g l (fun _ => oneX S) n (ts.take i)).getD (aN st p i) (zeroX S)) (extB S false (oneX S) (l.getD (st + i) (zeroX S))) = l.getD (st + i) (zeroX S) := by
    rw [hz]
    show combX S (zeroX S) (extX S (oneX S) _) = _
    rw [oneX_ext hok hx, combX_zero hx]
   rw [hv]
   have hlt : aN st p i < (restF S false g l (fun _ => oneX S) n (ts.take i)).length := by
    rw [restF_len]
    cases i with
    | zero => simp only [aN]; omega
    | succ i => simp only [aN]; omega
   refine ⟨fun k hk hk2 => ?_, fun s hs => ?_⟩
   ·rw [getD_set9 hlt]
    by_cases e : aN st p k = aN st p i
    ·rw [if_pos e, aN_inj hp e]
    ·rw [if_neg e]
     exact h1 k (by rcases Nat.lt_or_ge k i with h | h; exact h; exact absurd (by rw [show k = i by omega]) e) hk2
   ·rw [getD_set9 hlt, if_neg (fun e => hs i (Nat.lt_succ_self _) e (by rw [e2, hg]))]
    exact h2 s fun k hk e => hs k (by omega) e
  ·rw [if_neg hg]
   refine ⟨fun k hk hk2 => ?_, fun s hs => h2 s fun k hk e => hs k (by omega) e⟩
   rcases Nat.lt_or_ge k i with h | h
   ·exact h1 k h hk2
   ·rw [show k = i by omega, e2] at hk2
    exact absurd (Option.some.inj hk2) hg
theorem drop_cons9 {ws : List Int} {k : Nat} {g : Int} {u : List Int} (hk : k ≤ ws.length) (h : g :: u = ws.drop k) : k < ws.length ∧ ws[k]? = some g ∧ u = ws.drop (k + 1) := by
 have hl : k < ws.length := by
  have := congrArg List.length h
  rw [List.length_cons, List.length_drop] at this; omega
 rw [List.drop_eq_getElem_cons hl] at h
 injection h with h1 h2
 exact ⟨hl, by rw [List.getElem?_eq_getElem hl, h1], h2⟩
theorem chain_val (hok : S.ok) (hp : p < st) (hts : ∀ (k : Nat) t, ts[k]? = some t → t.f = ((aN st p k : Nat) : Int) ∧ ws[k]? = some t.g ∧ t.t = ((st + k : Nat) : Int)) (htl : ts.length = ws.length) (hn : n = st + ws.length) : ∀ u : List Int,
  (∀ k, k ≤ ws.length → u = ws.drop k → (valF S false [((aN st p ws.length : Nat) : Int)] (fun _ => oneX S) n ts u).getD (aN st p k) (zeroX S) = oneX S) ∧
  (∀ s, s < n → (∀ k, k ≤ ws.length → s = aN st p k → u ≠ ws.drop k) → (valF S false [((aN st p ws.length : Nat) : Int)] (fun _ => oneX S) n ts u).getD s (zeroX S) = zeroX S) ∧
  ∀ x ∈ valF S false [((aN st p ws.length : Nat) : Int)] (fun _ => oneX S) n ts u, OkX S x := by
 have hln : ∀ k, k ≤ ws.length → aN st p k < n := fun k hk => by
  cases k with
  | zero => simp only [aN]; omega
  | succ k => simp only [aN]; omega
 intro u
 have fin : ∀ u : List Int, (∀ k, k ≤ ws.length → u = ws.drop k → (valF S false [((aN st p ws.length : Nat) : Int)] (fun _ => oneX S) n ts u).getD (aN st p k) (zeroX S) = oneX S) → (∀ s, s < n → (∀ k, k ≤ ws.length → s = aN st p k → u ≠ ws.drop k) → (valF S false [((aN st p ws.length : Nat) : Int)] (fun _ => oneX S) n ts u).getD s (zeroX S) = zeroX S) → ∀ x ∈ valF S false [((aN st p ws.length : Nat) : Int)] (fun _ => oneX S) n ts u, OkX S x := by
  intro u h1 h2 x hx
  obtain ⟨s, hs, e⟩ := List.mem_iff_getElem.1 hx
  have hs2 : s < n := by rw [valF_len] at hs; exact hs
  have e2 : (valF S false [((aN st p ws.length : Nat) : Int)] (fun _ => oneX S) n ts u).getD s (zeroX S) = x := by
   rw [List.getD_eq_getElem?_getD, List.getElem?_eq_getElem hs, e]; rfl
  by_cases h : ∃ k, k ≤ ws.length ∧ s = aN st p k ∧ u = ws.drop k
  ·obtain ⟨k, hk, rfl, hu⟩ := h
   rw [h1 k hk hu] at e2
   rw [← e2]; exact one_okX hok
  ·rw [h2 s hs2 fun k hk he hu => h ⟨k, hk, he, hu⟩] at e2
   rw [← e2]; exact zero_okX
 induction u with
 | nil =>
  have hE : ∀ s, s < n → (valF S false [((aN st p ws.length : Nat) : Int)] (fun _ => oneX S) n ts []).getD s (zeroX S) = if finI [((aN st p ws.length : Nat) : Int)] (s : Int) then oneX S else zeroX S := fun s hs => by
   show (endsF S _ n).getD s (zeroX S) = _
   unfold endsF
   rw [List.getD_eq_getElem?_getD, List.getElem?_map, List.getElem?_range hs]; rfl
  have a1 : ∀ k, k ≤ ws.length → [] = ws.drop k → (valF S false [((aN st p ws.length : Nat) : Int)] (fun _ => oneX S) n ts []).getD (aN st p k) (zeroX S) = oneX S := fun k hk hu => by
   have hk2 : k = ws.length := by
    have := congrArg List.length hu
    rw [List.length_drop, List.length_nil] at this; omega
   subst hk2
   rw [hE _ (hln _ hk), if_pos (by simp [finI])]
  have a2 : ∀ s, s < n → (∀ k, k ≤ ws.length → s = aN st p k → [] ≠ ws.drop k) → (valF S false [((aN st p ws.length : Nat) : Int)] (fun _ => oneX S) n ts []).getD s (zeroX S) = zeroX S := fun s hs h => by
   rw [hE s hs]
   by_cases e : s = aN st p ws.length
   ·exact absurd (by rw [List.drop_length]) (h _ (Nat.le_refl _) e)
   ·rw [if_neg]
    simp only [finI, List.any_cons, List.any_nil, Bool.or_false, decide_eq_true_eq]
    omega
  exact ⟨a1, a2, fin [] a1 a2⟩
 | cons g u ih =>
  obtain ⟨i1, i2, i3⟩ := ih
  obtain ⟨r1, r2⟩ := chain_rest hok hp hts htl hn g (valF S false [((aN st p ws.length : Nat) : Int)] (fun _ => oneX S) n ts u) valF_len i3 ts.length (Nat.le_refl _)
  rw [List.take_of_length_le (Nat.le_refl _)] at r1 r2
  have a1 : ∀ k, k ≤ ws.length → g :: u = ws.drop k → (valF S false [((aN st p ws.length : Nat) : Int)] (fun _ => oneX S) n ts (g :: u)).getD (aN st p k) (zeroX S) = oneX S := fun k hk hu => by
   obtain ⟨hl, hw, hd⟩ := drop_cons9 hk hu
   exact (r1 k (by omega) hw).trans (i1 (k + 1) (by omega) hd)
  have a2 : ∀ s, s < n → (∀ k, k ≤ ws.length → s = aN st p k → g :: u ≠ ws.drop k) → (valF S false [((aN st p ws.length : Nat) : Int)] (fun _ => oneX S) n ts (g :: u)).getD s (zeroX S) = zeroX S := fun s hs h => by
   by_cases e : ∃ k, k < ws.length ∧ s = aN st p k ∧ ws[k]? = some g
   ·obtain ⟨k, hk, rfl, hw⟩ := e
    refine (r1 k (by omega) hw).trans (i2 (st + k) (by omega) fun k' hk' he hu => ?_)
    have he' : aN st p (k + 1) = aN st p k' := he
    have := aN_inj hp he'
    subst this
    refine h k (by omega) rfl ?_
    rw [List.drop_eq_getElem_cons hk, ← hu]
    rw [List.getElem?_eq_getElem hk] at hw
    rw [Option.some.inj hw]
   ·exact r2 s fun k hk he hw => e ⟨k, by omega, he, hw⟩
  exact ⟨a1, a2, fin _ a1 a2⟩
end
end Go.Proofs.Ytpkcaabbcoiiiaa
namespace Go.Proofs.Ytpkcaabbcoiiiaa
open Go Go.RowKit
theorem stepE_conf {p : PV} {c : CV} (h : stepE p c = 0) : pdsE p = 0 ∧ inQ c.p p.st = true ∧ c.wl ≤ 4096 ∧ c.ws.all (fun y => inQ y p.sy) = true := by
 unfold stepE at h
 by_cases h1 : pdsE p ≠ 0
 ·rw [if_pos h1] at h; exact absurd h h1
 ·rw [if_neg h1] at h
  by_cases h2 : confB p c = true
  ·unfold confB at h2
   simp only [Bool.and_eq_true, decide_eq_true_eq] at h2
   exact ⟨Decidable.of_not_not h1, h2.1, h2.2.1, h2.2.2⟩
  ·rw [if_neg h2] at h; cases h
theorem chL_at {st p : Int} {ws : List Int} {k j : Nat} (h : j < k) : (chL st p ws k)[j]? = some (atF st p j, ws.getD j 0, st + (j : Int)) := by
 unfold chL
 rw [List.getElem?_map, List.getElem?_range h]; rfl
structure QA (W : World) (S : PS) (p : PV) (c : CV) (sq : SF) (fa ta : Option Addr) (tc n : Nat) (st P : Nat) (s : SV) (ts : List TV) : Prop where
 hst : p.st = (st : Int)
 hcp : c.p = (P : Int)
 hlt : P < st
 hsf : s.f = sq
 hln : ts.length = n
 hwl : ts.length = c.ws.length
 hts : ∀ (k : Nat) t, ts[k]? = some t → t.f = ((aN st P k : Nat) : Int) ∧ c.ws[k]? = some t.g ∧ t.t = ((st + k : Nat) : Int)
 hx : ∀ t ∈ ts, XIs W S t.x.f (oneX S)
 ain : AIn W 2 2 ⟨s, ((st + c.wl : Nat) : Int), p.sy, fa, 1, 1, [((aN st P c.wl : Nat) : Int)], ta, n, tc, ts⟩
 aE : autoE ⟨s, ((st + c.wl : Nat) : Int), p.sy, fa, 1, 1, [((aN st P c.wl : Nat) : Int)], ta, n, tc, ts⟩ = 0
 gd : ∀ t ∈ ts, (inQ t.f ((st + c.wl : Nat) : Int) = true ∧ inQ t.t ((st + c.wl : Nat) : Int) = true) ∧ 0 ≤ t.g ∧ p.st ≤ t.t
 n4 : st + c.wl ≤ 4096
theorem qoneE_step {p : PV} {c : CV} (hE : qoneE p c = 0) : stepE p c = 0 := by
 unfold qoneE at hE
 by_cases h : stepE p c ≠ 0
 ·rw [if_pos h] at hE; exact hE
 ·exact Decidable.of_not_not h
theorem QA.below {W W' : World} {S : PS} {p : PV} {c : CV} {sq : SF} {fa ta : Option Addr} {tc n st P : Nat} {s : SV} {ts : List TV} (h : QA W S p c sq fa ta tc n st P s ts) (hb : Below W.heap.size W W') : QA W' S p c sq fa ta tc n st P s ts := ⟨h.hst, h.hcp, h.hlt, h.hsf, h.hln, h.hwl, h.hts, fun t ht => (h.hx t ht).below hb, h.ain.below hb, h.aE, h.gd, h.n4⟩
theorem qa_of {W : World} {S : PS} {px : RV → PX} {p : PV} {c : CV} {sq : SF} {fa ta : Option Addr} {tc : Nat} {ns : List T9} (hpk : PdsOk W S px p) (hs : SIs W S sq) (hA : AuO (some S) (chL p.st c.p c.ws c.wl) [atF p.st c.p c.wl] W sq fa ta ns) (hE : qoneE p c = 0) (hcl : c.ws.length = c.wl) : ∃ st P s ts, QA W S p c sq fa ta tc ns.length st P s ts := by
 have hok := hpk.ok
 obtain ⟨hst0, hst1⟩ := hpk.st
 obtain ⟨hsy0, hsy1⟩ := hpk.sy
 have hsE : stepE p c = 0 := by
  unfold qoneE at hE
  by_cases h : stepE p c ≠ 0
  ·rw [if_pos h] at hE; exact hE
  ·exact Decidable.of_not_not h
 have hmany : p.st + (c.wl : Int) ≤ 4096 := by
  unfold qoneE at hE
  rw [if_neg (fun h => h hsE)] at hE
  by_cases h : 4096 < p.st + (c.wl : Int)
  ·rw [if_pos h] at hE; cases hE
  ·omega
 obtain ⟨_, hcp, hwl, hws⟩ := stepE_conf hsE
 obtain ⟨st, hst⟩ : ∃ st : Nat, p.st = (st : Int) := ⟨p.st.toNat, by omega⟩
 rw [hst] at hcp
 obtain ⟨P, hP, hlt⟩ := inQ_nat hcp
 obtain ⟨s, ts, hsf, hsi, hse, hl, hm, hc, htr⟩ := auto_of hok hs hA
 have hnl : ns.length = c.wl := by
  have h9 := congrArg List.length hA.pl
  rw [List.length_map, chL_len] at h9; exact h9
 have hts : ∀ (k : Nat) t, ts[k]? = some t → t.f = ((aN st P k : Nat) : Int) ∧ c.ws[k]? = some t.g ∧ t.t = ((st + k : Nat) : Int) := fun k t ht => by
  have hk : k < ns.length := by rw [← hl]; exact (List.getElem?_eq_some_iff.1 ht).1
  obtain ⟨r, hr⟩ : ∃ r, ns[k]? = some r := ⟨ns[k], List.getElem?_eq_getElem hk⟩
  obtain ⟨e1, e2, e3, _⟩ := hm k t r ht hr
  have h9 : (ns.map T9.pl)[k]? = some r.pl := by rw [List.getElem?_map, hr]; rfl
  rw [hA.pl, chL_at (by omega)] at h9
  simp only [T9.pl, Option.some.injEq, Prod.mk.injEq] at h9
  obtain ⟨g1, g2, g3⟩ := h9
  refine ⟨?_, ?_, ?_⟩
  ·rw [e1, ← g1, hst, hP, aN_at]
  ·rw [e2, ← g2, List.getD_eq_getElem?_getD, List.getElem?_eq_getElem (show k < c.ws.length by omega)]; rfl
  ·rw [e3, ← g3, hst]; omega
 have hgd : ∀ t ∈ ts, (inQ t.f ((st + c.wl : Nat) : Int) = true ∧ inQ t.t ((st + c.wl : Nat) : Int) = true) ∧ 0 ≤ t.g ∧ p.st ≤ t.t := fun t ht => by
  obtain ⟨k, hk⟩ := List.getElem?_of_mem ht
  have hkl : k < c.wl := by rw [← hnl, ← hl]; exact (List.getElem?_eq_some_iff.1 hk).1
  obtain ⟨e1, e2, e3⟩ := hts k t hk
  have ha : aN st P k < st + c.wl := by
   cases k with
   | zero => simp only [aN]; omega
   | succ k => simp only [aN]; omega
  have hg := List.all_eq_true.1 hws t.g (List.mem_of_getElem? e2)
  simp only [inQ, Bool.and_eq_true, decide_eq_true_eq] at hg ⊢
  rw [e1, e3, hst]
  omega
 have hgs : ∀ t ∈ ts, t.g < p.sy := fun t ht => by
  obtain ⟨k, hk⟩ := List.getElem?_of_mem ht
  have hg := List.all_eq_true.1 hws t.g (List.mem_of_getElem? (hts k t hk).2.1)
  simp only [inQ, Bool.and_eq_true, decide_eq_true_eq] at hg
  exact hg.2
 have haw : aN st P c.wl < st + c.wl := by
  cases hwl0 : c.wl with
  | zero => simp only [aN]; omega
  | succ k => simp only [aN]; omega
 refine ⟨st, P, s, ts, hst, hP, hlt, hsf, hl, by omega, hts, fun t ht => (hc t ht).2.2, ⟨hsi, ?_, rfl, htr, hl, fun t ht => (hc t ht).1, (by show (1 : Nat) ≤ 9223372036854775807; decide), by dsimp only; omega⟩, ?_, hgd, by omega⟩
 ·have hf := hA.f
  rw [hst, hP, aN_at] at hf
  exact hf
 ·unfold autoE
  dsimp only
  have hsh : ashapeB ((st + c.wl : Nat) : Int) p.sy [((aN st P c.wl : Nat) : Int)] ts = true := by
   unfold ashapeB
   rw [if_neg (by omega)]
   rw [finB_of (fun j hj => by
    have hj0 : j = 0 := by simp at hj; exact hj
    subst hj0
    exact finOk_zero (y := ((aN st P c.wl : Nat) : Int)) rfl (by simp only [inQ, Bool.and_eq_true, decide_eq_true_eq]; omega) rfl), Bool.true_and]
   refine List.all_eq_true.2 fun t ht => ?_
   obtain ⟨⟨h1, h2⟩, h3, _⟩ := hgd t ht
   have h4 := hgs t ht
   unfold trB
   rw [h1, h2, decide_eq_true (show -1 ≤ t.g by omega), decide_eq_true h4]; rfl
  rw [if_neg (fun h => h hse), if_neg (by omega), if_neg (by rw [hsh]; decide), if_pos (List.all_eq_true.2 fun t ht => decide_eq_true (hc t ht).2.1)]
theorem qvalue_is {W : World} {S : PS} {p : PV} {c d : CV} {sq : SF} {fa ta : Option Addr} {tc n st P : Nat} {s : SV} {ts : List TV} (hok : S.ok) (hs : SIs W S sq) (hQ : QA W S p c sq fa ta tc n st P s ts) (hcl : c.ws.length = c.wl) (hd : CIn W d) (hdm : d.wl ≤ 9223372036854775807) (hdE : stepE p d = 0) :
  Calls Try.prog 22 #[.agg #[.int .i64 sq.tag, .int .i64 sq.dim, .slice sq.a sq.len sq.cap, .int .i64 (p.st + (c.wl : Int)), .int .i64 p.sy, .slice fa 1 1, .slice ta n tc], .bool false, .int .i64 d.p, .slice d.wa d.wl d.wc] W fun e w' => ∃ f : WF, e = .returned (.tuple #[f.val, .int .i64 0]) ∧ XIs w' S f (if d.p = c.p ∧ d.ws = c.ws then oneX S else zeroX S) ∧ Below W.heap.size W w' := by
 have hsf := hQ.hsf
 subst hsf
 obtain ⟨_, hdp, _, hdw⟩ := stepE_conf hdE
 rw [hQ.hst] at hdp
 obtain ⟨D, hD, hDlt⟩ := inQ_nat hdp
 have e9 : p.st + (c.wl : Int) = ((st + c.wl : Nat) : Int) := by rw [hQ.hst]; omega
 rw [e9]
 have ha := hQ.ain
 have hask : askE ⟨s, ((st + c.wl : Nat) : Int), p.sy, fa, 1, 1, [((aN st P c.wl : Nat) : Int)], ta, n, tc, ts⟩ [d.p] d.ws = 0 := by
  unfold askE
  rw [if_neg (fun h => h hQ.aE), if_pos, if_pos hdw]
  simp only [List.all_cons, List.all_nil, Bool.and_true, inQ, Bool.and_eq_true, decide_eq_true_eq]
  omega
 refine (value10_c 2 2 s (st + c.wl) p.sy fa 1 1 [((aN st P c.wl : Nat) : Int)] ta n tc ts W ha.s ha.frow ha.flen ha.trow ha.tlen ha.tin ha.fmax ha.tmax S hs hok hQ.n4 false d.p D hD (by omega) d.wa d.wl d.wc d.ws hd.row hd.len hdm (fun _ => oneX S) (fun t ht => (hQ.gd t ht).1) hQ.hx (fun t ht => (hQ.gd t ht).2.1) hask).mono ?_
 rintro e w' ⟨f, rfl, hx, hb⟩
 refine ⟨f, rfl, ?_, hb⟩
 obtain ⟨v1, v2, _⟩ := chain_val (n := st + c.wl) hok hQ.hlt hQ.hts hQ.hwl (by rw [hcl]) d.ws
 rw [hcl] at v1 v2
 by_cases h : d.p = c.p ∧ d.ws = c.ws
 ·rw [if_pos h]
  have hDP : D = aN st P 0 := by
   have h1 := hQ.hcp
   simp only [aN]; omega
  rw [hDP, v1 0 (Nat.zero_le _) h.2] at hx
  exact hx
 ·rw [if_neg h]
  rw [v2 D (by omega) fun k hk he hu => ?_] at hx
  ·exact hx
  ·cases k with
   | zero =>
    refine h ⟨?_, hu⟩
    have h1 := hQ.hcp
    simp only [aN] at he; omega
   | succ k => simp only [aN] at he; omega
theorem qcheck_is {W : World} {S : PS} {px : RV → PX} {p : PV} {c : CV} {sq : SF} {fa ta : Option Addr} {tc n st P ds d : Nat} {s : SV} {ts : List TV} (hp : PvIn W ds d p) (hpk : PdsOk W S px p) (hs : SIs W S sq) (hQ : QA W S p c sq fa ta tc n st P s ts) :
  Calls Try.prog 16 #[p.val, .agg #[.int .i64 sq.tag, .int .i64 sq.dim, .slice sq.a sq.len sq.cap, .int .i64 (p.st + (c.wl : Int)), .int .i64 p.sy, .slice fa 1 1, .slice ta n tc]] W fun e w' => e = .returned (.int .i64 0) ∧ Below W.heap.size W w' := by
 have hsf := hQ.hsf
 subst hsf
 have e9 : p.st + (c.wl : Int) = ((st + c.wl : Nat) : Int) := by rw [hQ.hst]; omega
 rw [e9]
 have h0 : queryE p ⟨s, ((st + c.wl : Nat) : Int), p.sy, fa, 1, 1, [((aN st P c.wl : Nat) : Int)], ta, n, tc, ts⟩ true = 0 := by
  unfold queryE
  rw [if_neg (fun h => h hpk.chk), if_neg (fun h => h hQ.aE), if_neg, if_pos]
  ·refine List.all_eq_true.2 fun t ht => ?_
   obtain ⟨_, h1, h2⟩ := hQ.gd t ht
   unfold qtrB
   rw [decide_eq_true h1, decide_eq_true h2]; rfl
  ·rintro (h | h | h)
   ·cases h
   ·exact h rfl
   ·have h1 := hQ.hst
    dsimp only at h; omega
 refine (queryR_is ds d 2 2 p S S true _ W hp hQ.ain (fun _ => hpk.si) (fun _ => hs) ⟨fun _ => rfl, fun _ => rfl⟩).mono fun e w' h => ⟨?_, h.2⟩
 rw [h.1, h0]
end Go.Proofs.Ytpkcaabbcoiiiaa
namespace Go.Proofs.Ytpkcaabbcoiiiaa
open Go Go.RowKit
theorem goes_16 : goesIn Try.prog 16 = true := by kernel_rfl
theorem goes_17 : goesIn Try.prog 17 = true := by kernel_rfl
theorem goes_18 : goesIn Try.prog 18 = true := by kernel_rfl
theorem ex_one {w : World} {b1 b2 : Nat} {a : Option Addr} (hp : PvIn w 1 1 (exP b1 b2)) (hr : Row w a [0, 2]) : Calls Try.prog 18 #[(exP b1 b2).val, .agg #[.int .i64 1, .slice a 2 2]] w fun e w' => ∃ (sq : SF) (B T tc : Nat), e = .returned (.tuple #[.agg #[.int .i64 sq.tag, .int .i64 sq.dim, .slice sq.a sq.len sq.cap, .int .i64 4, .int .i64 3, .slice (some ⟨B, 0, none⟩) 1 1, .slice (some ⟨T, 0, none⟩) 2 tc], .int .i64 0]) ∧ w.heap.size ≤ B ∧ w.heap.size ≤ T ∧ w'.cell? ⟨B, 0, none⟩ = some (.int .i64 3) ∧ w'.cell? ⟨T, 9, none⟩ = some (.int .i64 2) ∧ w'.cell? ⟨T, 10, none⟩ = some (.int .i64 2) ∧ Below w.heap.size w w' := by
 obtain ⟨S, px, hpx⟩ := pdsOk_ex hp
 have hE : pdsE (exP b1 b2) = 0 := by
  have h9 := (ex_ready (w := w) (b1 := b1) (b2 := b2) (b3 := 0) _ rfl).chk
  by_cases h8 : pdsE (exP b1 b2) = 0
  ·exact h8
  ·unfold stepE at h9; rw [if_pos h8] at h9; exact h9
 refine (queryOne_c 1 1 (exP b1 b2) 1 a 2 2 [0, 2] w hp hr rfl (by decide) S px hpx).mono ?_
 have hs : stepE (exP b1 b2) ⟨1, a, 2, 2, [0, 2]⟩ = 0 := by
  unfold stepE
  rw [hE]; rfl
 have ho : qoneE (exP b1 b2) ⟨1, a, 2, 2, [0, 2]⟩ = 0 := by
  unfold qoneE
  rw [hs]; rfl
 rintro e w' ⟨hb, ⟨h1, _⟩ | ⟨_, sq, B, ta, tc, ns, rfl, hB, _, hrow, hns, hown, _⟩⟩
 ·exact absurd ho h1
 ·have hc : chL (2 : Int) 1 [0, 2] 2 = [(1, 0, 2), (2, 2, 3)] := by rfl
  have hns' : ns.map T9.pl = [(1, 0, 2), (2, 2, 3)] := hns.trans hc
  match ns, hns' with
  | [⟨f1, g1, t1, x1⟩, ⟨f2, g2, t2, x2⟩], hns' =>
   simp only [List.map_cons, List.map_nil, List.cons.injEq, Prod.mk.injEq, and_true] at hns'
   obtain ⟨⟨rfl, rfl, rfl⟩, rfl, rfl, rfl⟩ := hns'
   rcases ownsRow_cells hown with ⟨_, h0⟩ | ⟨T, rfl, hT, hc9⟩
   ·exact absurd h0 (by simp)
   ·refine ⟨sq, B, T, tc, rfl, hB, hT, ?_, hc9 9 _ rfl, hc9 10 _ rfl, hb⟩
    obtain ⟨b, off, y, e1, hy, hyc⟩ := hrow.at1 (i := 0) (by simp)
    cases e1
    cases hy
    exact hyc
  | [], h => simp at h
  | [_], h => simp at h
  | _ :: _ :: _ :: _, h => simp at h
theorem awakeQ_is (w : World) :
  Calls Try.prog 17 #[] w (fun e w' => e = .returned (.bool (true)) ∧ Below w.heap.size w w') := by
 refine enterF (args := []) Try.func17 rfl Try.ntmps17 rfl ?_
 have hS := St.start w
 refine seqF (regF ?_)
 refine op_assign rfl rfl ?_
 refine endF (XF.thenN ?_)
 refine seqF (regF ?_)
 refine op_call (vs := []) hS goes_44 rfl (example_is _) rfl ?_
 rintro e W1 ⟨b1, b2, rfl, hex, hb⟩
 refine ⟨_, rfl, hb, fun hS' => ?_⟩
 clear hS; have hS := hS'; clear hS' hb
 refine op_buildSlice (us := [(0, .int .i64 _), (1, .int .i64 _)]) hS Try.underlying29 Try.sizeOf3 Try.zeroValue3 rfl rfl rfl (bs_29_2 _ _) rfl ?_
 clear hS; intro B2 W2 hS
 refine op_build (us := [(0, .int .i64 _), (1, .slice _ _ _)]) rfl (bld_49_0_1 _ _ _ _) rfl ?_
 have hp9 := hex _ (hS.since 0 rfl)
 refine op_call (vs := [_, _]) hS goes_18 rfl (ex_one hp9 (row2 (hS.at_ 0 rfl))) rfl ?_
 rintro e W3 ⟨sq, BF, BT, tc, rfl, hB9, hT9, kB, kT1, kT2, hb⟩
 refine ⟨_, rfl, hb, fun hS' => ?_⟩
 clear hS; have hS := hS'; clear hS'
 refine op_move rfl rfl ?_
 iterate 2 refine op_extract rfl rfl rfl ?_
 refine op_alloc (cs := [_, _, _, _, _, _, _]) hS Try.zeroValue60 rfl rfl ?_
 clear hS; intro B4 W4 hS
 refine op_storeA (i := 0) (vs := [_, _, _, _, _, _, _]) (cs' := [_, _, _, _, _, _, _]) (O' := [_, _]) hS Try.sizeOf60 rfl rfl rfl rfl rfl rfl rfl ?_
 clear hS; intro W5 hS
 refine op_assign rfl rfl ?_
 refine endF (XF.thenN ?_)
 refine seqF ?_
 have k1 := (hS.since 0 rfl).cell hB9 kB
 have k2 := (hS.since 0 rfl).cell hT9 kT1
 have k3 := (hS.since 0 rfl).cell hT9 kT2
 refine regF ?_
 refine op_move rfl rfl ?_
 refine op_eql rfl rfl rfl ?_
 refine op_move rfl rfl ?_
 refine op_cases (d := 12) rfl (fun hc => ?_) (fun hc => absurd (of_decide_eq_false hc) (by decide))
 have hc := of_decide_eq_true hc
 refine op_wantedF (d := 12) rfl rfl ?_
 refine op_field (o' := 3) fa_60_1 rfl rfl rfl ?_
 refine op_wantedF (d := 12) rfl rfl ?_
 refine op_load Try.isAgg3 rfl (cell_own (hS.at_ 0 rfl) rfl) rfl ?_
 refine op_wantedF (d := 12) rfl rfl ?_
 refine op_eql rfl rfl rfl ?_
 refine op_pickT rfl rfl rfl ?_
 refine op_move rfl rfl ?_
 refine op_cases (d := 17) rfl (fun hc => ?_) (fun hc => absurd (of_decide_eq_false hc) (by decide))
 have hc := of_decide_eq_true hc
 refine op_wantedF (d := 17) rfl rfl ?_
 refine op_field (o' := 6) fa_60_4 rfl rfl rfl ?_
 refine op_wantedF (d := 17) rfl rfl ?_
 refine op_load Try.isAgg58 rfl (cell_own (hS.at_ 0 rfl) rfl) rfl ?_
 refine op_wantedF (d := 17) rfl rfl ?_
 refine op_len Try.underlying58 rfl rfl ?_
 refine op_wantedF (d := 17) rfl rfl ?_
 refine op_eql rfl rfl rfl ?_
 refine op_pickT rfl rfl rfl ?_
 refine op_move rfl rfl ?_
 refine op_cases (d := 23) rfl (fun hc => ?_) (fun hc => absurd (of_decide_eq_false hc) (by decide))
 have hc := of_decide_eq_true hc
 refine op_wantedF (d := 23) rfl rfl ?_
 refine op_field (o' := 6) fa_60_4 rfl rfl rfl ?_
 refine op_wantedF (d := 23) rfl rfl ?_
 refine op_load Try.isAgg58 rfl (cell_own (hS.at_ 0 rfl) rfl) rfl ?_
 refine op_wantedF (d := 23) rfl rfl ?_
 refine op_indexA (j := 1) Try.underlying58 Try.sizeOf100 rfl rfl rfl (by omega) rfl rfl ?_
 refine op_wantedF (d := 23) rfl rfl ?_
 refine op_field fa_100_1 rfl rfl rfl ?_
 refine op_wantedF (d := 23) rfl rfl ?_
 refine op_load Try.isAgg3 rfl (k3) rfl ?_
 refine op_wantedF (d := 23) rfl rfl ?_
 refine op_eql rfl rfl rfl ?_
 refine op_pickT rfl rfl rfl ?_
 refine op_move rfl rfl ?_
 refine op_cases (d := 31) rfl (fun hc => ?_) (fun hc => absurd (of_decide_eq_false hc) (by decide))
 have hc := of_decide_eq_true hc
 refine op_wantedF (d := 31) rfl rfl ?_
 refine op_field (o' := 6) fa_60_4 rfl rfl rfl ?_
 refine op_wantedF (d := 31) rfl rfl ?_
 refine op_load Try.isAgg58 rfl (cell_own (hS.at_ 0 rfl) rfl) rfl ?_
 refine op_wantedF (d := 31) rfl rfl ?_
 refine op_indexA (j := 1) Try.underlying58 Try.sizeOf100 rfl rfl rfl (by omega) rfl rfl ?_
 refine op_wantedF (d := 31) rfl rfl ?_
 refine op_field fa_100_0 rfl (Nat.add_zero _) rfl ?_
 refine op_wantedF (d := 31) rfl rfl ?_
 refine op_load Try.isAgg3 rfl (k2) rfl ?_
 refine op_wantedF (d := 31) rfl rfl ?_
 refine op_eql rfl rfl rfl ?_
 refine op_pickT rfl rfl rfl ?_
 refine op_move rfl rfl ?_
 refine op_cases (d := 39) rfl (fun hc => ?_) (fun hc => absurd (of_decide_eq_false hc) (by decide))
 have hc := of_decide_eq_true hc
 refine op_wantedF (d := 39) rfl rfl ?_
 refine op_field (o' := 5) fa_60_3 rfl rfl rfl ?_
 refine op_wantedF (d := 39) rfl rfl ?_
 refine op_load Try.isAgg29 rfl (cell_own (hS.at_ 0 rfl) rfl) rfl ?_
 refine op_wantedF (d := 39) rfl rfl ?_
 refine op_len Try.underlying29 rfl rfl ?_
 refine op_wantedF (d := 39) rfl rfl ?_
 refine op_eql rfl rfl rfl ?_
 refine op_pickT rfl rfl rfl ?_
 refine op_move rfl rfl ?_
 refine op_cases (d := 45) rfl (fun hc => ?_) (fun hc => absurd (of_decide_eq_false hc) (by decide))
 have hc := of_decide_eq_true hc
 refine op_wantedF (d := 45) rfl rfl ?_
 refine op_field (o' := 5) fa_60_3 rfl rfl rfl ?_
 refine op_wantedF (d := 45) rfl rfl ?_
 refine op_load Try.isAgg29 rfl (cell_own (hS.at_ 0 rfl) rfl) rfl ?_
 refine op_wantedF (d := 45) rfl rfl ?_
 refine op_indexA (j := 0) Try.underlying29 Try.sizeOf3 rfl rfl rfl (by omega) (Nat.add_zero _) rfl ?_
 refine op_wantedF (d := 45) rfl rfl ?_
 refine op_load Try.isAgg3 rfl (k1) rfl ?_
 refine op_wantedF (d := 45) rfl rfl ?_
 refine op_eql rfl rfl rfl ?_
 refine op_pickT rfl rfl rfl ?_
 refine op_assign rfl rfl ?_
 refine endF (XF.thenN ?_)
 refine retF ?_
 refine XF.res (res1 Try.results17 rfl) ?_
 exact ⟨rfl, hS.below⟩
end Go.Proofs.Ytpkcaabbcoiiiaa
namespace Go.Proofs.Ytpkcaabbcoiiiaa
open Go Go.RowKit
theorem goes_19 : goesIn Try.prog 19 = true := by kernel_rfl
theorem goes_20 : goesIn Try.prog 20 = true := by kernel_rfl
theorem goes_22 : goesIn Try.prog 22 = true := by kernel_rfl
theorem queryOnes_walk0 (ds d9 : Nat) (p : PV) (c d : CV) (w : World) (hp : PvIn w ds d9 p) (hcc : CIn w c) (hcm : c.wl ≤ 9223372036854775807) (hd : CIn w d) (hdm : d.wl ≤ 9223372036854775807) :
  Calls Try.prog 5 #[p.val, c.val, d.val] w (fun e w' => e = .returned (.bool (true)) ∧ Below w.heap.size w w') := by
 refine enterF (args := [p.val, c.val, d.val]) Try.func5 rfl Try.ntmps5 rfl ?_
 have hS := St.start w
 obtain ⟨S, px, hpx⟩ := pdsOk_ex hp
 refine seqF (regF ?_)
 refine op_box (cs := [_, _, _, _, _, _]) hS rfl rfl rfl ?_
 clear hS; intro B1 W1 hS
 refine op_box (cs := [_, _]) hS rfl rfl rfl ?_
 clear hS; intro B2 W2 hS
 refine op_box (cs := [_, _]) hS rfl rfl rfl ?_
 clear hS; intro B3 W3 hS
 refine op_assign rfl rfl ?_
 refine endF (XF.thenN ?_)
 refine seqF ?_
 refine seqF (regF ?_)
 refine op_call (vs := []) hS goes_17 rfl (awakeQ_is _) rfl ?_
 rintro e W4 ⟨rfl, hb⟩
 refine ⟨_, rfl, hb, fun hS' => ?_⟩
 clear hS; have hS := hS'; clear hS' hb
 refine op_not rfl rfl ?_
 refine endF (XF.thenN ?_)
 refine condN rfl ?_
 refine skipF ?_
 refine XF.thenN ?_
 refine seqF ?_
 by_cases hE : qoneE p c = 0
 ·have hsE := qoneE_step hE
  have hpE := (stepE_conf hsE).1
  have hpk := hpx hpE
  have hRoot := hS.below
  have hR3 := hRoot
  have kp3 : CellsAt W4 B1 0 p.six := CellsAt.own (j := 0) (m := 6) (hS.at_ 2 rfl) rfl
  have kc3 : CellsAt W4 B2 0 [.int .i64 c.p, .slice c.wa c.wl c.wc] := CellsAt.own (j := 0) (m := 2) (hS.at_ 1 rfl) rfl
  have kd3 : CellsAt W4 B3 0 [.int .i64 d.p, .slice d.wa d.wl d.wc] := CellsAt.own (j := 0) (m := 2) (hS.at_ 0 rfl) rfl
  have hp3 := hp.below hRoot
  have hc3 := hcc.below hRoot
  have hd3 := hd.below hRoot
  have hk3 := hpk.below hRoot
  clear hS; have hS := St.start W4
  refine regF ?_
  refine op_loadA (vs := [_, _, _, _, _, _]) Try.isAgg28 Try.sizeOf28 rfl (kp3) rfl ?_
  refine op_loadA (vs := [_, _]) Try.isAgg49 Try.sizeOf49 rfl (kc3) rfl ?_
  refine op_call (vs := [_, _]) hS goes_18 rfl ((queryOne_c ds d9 p c.p c.wa c.wl c.wc c.ws _ (hp3.below hS.below) (hc3.row.below hS.below) hcc.len hcm S px (fun h => (hk3).below hS.below)).mono fun e w2 h => qgood_of hpk.ok h hE) rfl ?_
  rintro e W5 ⟨sq1, Bf1, ta1, tc1, ns1, rfl, hA1, hs1, hb⟩
  refine ⟨_, rfl, hb, fun hS' => ?_⟩
  clear hS; have hS := hS'; clear hS'
  have hb1 := hb
  clear hb
  refine op_move rfl rfl ?_
  iterate 2 refine op_extract rfl rfl rfl ?_
  refine op_alloc (cs := [_, _, _, _, _, _, _]) hS Try.zeroValue60 rfl rfl ?_
  clear hS; intro B6 W6 hS
  refine op_storeA (i := 0) (vs := [_, _, _, _, _, _, _]) (cs' := [_, _, _, _, _, _, _]) (O' := [_]) hS Try.sizeOf60 rfl rfl rfl rfl rfl rfl rfl ?_
  clear hS; intro W7 hS
  refine op_assign rfl rfl ?_
  refine endF (XF.thenN ?_)
  refine seqF ?_
  have hRoot := hS.below
  have hR4 := hRoot
  have kp4 := CellsAt.agree hS.agree (Nat.zero_le _) kp3
  have kc4 := CellsAt.agree hS.agree (Nat.zero_le _) kc3
  have kd4 := CellsAt.agree hS.agree (Nat.zero_le _) kd3
  have hp4 := hp3.below hRoot
  have hc4 := hc3.below hRoot
  have hd4 := hd3.below hRoot
  have hk4 := hk3.below hRoot
  have hA4 := hA1.below (below_join rfl hb1 hS.below (hS.since 0 rfl))
  have hs4 := hs1.below (below_join rfl hb1 hS.below (hS.since 0 rfl))
  have ka4 : CellsAt W7 B6 0 [.int .i64 sq1.tag, .int .i64 sq1.dim, .slice sq1.a sq1.len sq1.cap, .int .i64 (p.st + (c.wl : Int)), .int .i64 p.sy, .slice (some ⟨Bf1, 0, none⟩) 1 1, .slice ta1 ns1.length tc1] := CellsAt.own (j := 0) (m := 7) (hS.at_ 0 rfl) rfl
  clear hA1 hs1 hb1
  clear hS; have hS := St.start W7
  refine regF ?_
  refine op_loadA (vs := [_, _, _, _, _, _]) Try.isAgg28 Try.sizeOf28 rfl (kp4) rfl ?_
  refine op_loadA (vs := [_, _]) Try.isAgg49 Try.sizeOf49 rfl (kc4) rfl ?_
  refine op_call (vs := [_, _]) hS goes_19 rfl ((queryOneR_c ds d9 p c.p c.wa c.wl c.wc c.ws _ (hp4.below hS.below) (hc4.row.below hS.below) hcc.len hcm S px (fun h => (hk4).below hS.below)).mono fun e w2 h => qgood_of hpk.ok h hE) rfl ?_
  rintro e W8 ⟨sq2, Bf2, ta2, tc2, ns2, rfl, hA2, hs2, hb⟩
  refine ⟨_, rfl, hb, fun hS' => ?_⟩
  clear hS; have hS := hS'; clear hS'
  have hb1 := hb
  clear hb
  refine op_move rfl rfl ?_
  iterate 2 refine op_extract rfl rfl rfl ?_
  refine op_alloc (cs := [_, _, _, _, _, _, _]) hS Try.zeroValue60 rfl rfl ?_
  clear hS; intro B9 W9 hS
  refine op_storeA (i := 0) (vs := [_, _, _, _, _, _, _]) (cs' := [_, _, _, _, _, _, _]) (O' := [_]) hS Try.sizeOf60 rfl rfl rfl rfl rfl rfl rfl ?_
  clear hS; intro W10 hS
  refine op_assign rfl rfl ?_
  refine endF (XF.thenN ?_)
  iterate 2 refine seqF ?_
  have hRoot := hS.below
  have hR5 := hRoot
  have kp5 := CellsAt.agree hS.agree (Nat.zero_le _) kp4
  have kc5 := CellsAt.agree hS.agree (Nat.zero_le _) kc4
  have kd5 := CellsAt.agree hS.agree (Nat.zero_le _) kd4
  have ka5 := CellsAt.agree hS.agree (Nat.zero_le _) ka4
  have hp5 := hp4.below hRoot
  have hc5 := hc4.below hRoot
  have hd5 := hd4.below hRoot
  have hk5 := hk4.below hRoot
  have hA5 := hA4.below hRoot
  have hs5 := hs4.below hRoot
  have hB5 := hA2.below (below_join rfl hb1 hS.below (hS.since 0 rfl))
  have hnn : ns2.length = ns1.length := by have h9 := congrArg List.length (hA5.pl.trans hB5.pl.symm); rw [List.length_map, List.length_map] at h9; exact h9.symm
  have hn1 : ns1.length = c.wl := by have h9 := congrArg List.length hA5.pl; rw [List.length_map, chL_len] at h9; exact h9
  have hcw := (stepE_conf hsE).2.2.1
  have kb5 : CellsAt W10 B9 0 [.int .i64 sq2.tag, .int .i64 sq2.dim, .slice sq2.a sq2.len sq2.cap, .int .i64 (p.st + (c.wl : Int)), .int .i64 p.sy, .slice (some ⟨Bf2, 0, none⟩) 1 1, .slice ta2 ns1.length tc2] := by
   have h9 : CellsAt W10 B9 0 [.int .i64 sq2.tag, .int .i64 sq2.dim, .slice sq2.a sq2.len sq2.cap, .int .i64 (p.st + (c.wl : Int)), .int .i64 p.sy, .slice (some ⟨Bf2, 0, none⟩) 1 1, .slice ta2 ns2.length tc2] := CellsAt.own (j := 0) (m := 7) (hS.at_ 0 rfl) rfl
   rw [hnn] at h9; exact h9
  obtain ⟨stN, PN, s9, ts9, hQ5⟩ := qa_of (tc := tc1) hk5 hs5 hA5 hE hcc.len
  clear hA2 hs2 hb1
  clear hS; have hS := St.start W10
  refine regF ?_
  refine op_loadA (vs := [_, _, _, _, _, _, _]) Try.isAgg60 Try.sizeOf60 rfl (ka5) rfl ?_
  refine op_loadA (vs := [_, _, _, _, _, _, _]) Try.isAgg60 Try.sizeOf60 rfl (kb5) rfl ?_
  refine op_call (vs := [_, _]) hS goes_20 rfl (sameAu_eq (some S) (chL p.st c.p c.ws c.wl) [atF p.st c.p c.wl] sq1 sq2 (p.st + (c.wl : Int)) p.sy _ _ ta1 ta2 1 1 1 ns1.length tc1 tc2 ns1 ns2 _ (hA5.below hS.below) (hB5.below hS.below) rfl rfl (by decide) (by omega)) rfl ?_
  rintro e W11 ⟨rfl, hb⟩
  refine ⟨_, rfl, hb, fun hS' => ?_⟩
  clear hS; have hS := hS'; clear hS' hb
  refine op_not rfl rfl ?_
  refine op_move rfl rfl ?_
  refine op_wantedF (d := 33) rfl rfl ?_
  refine op_move rfl rfl ?_
  refine op_wantedF (d := 33) rfl rfl ?_
  refine op_move rfl rfl ?_
  refine op_wantedF (d := 33) rfl rfl ?_
  refine op_neq rfl rfl rfl ?_
  refine op_pickF rfl rfl rfl ?_
  refine endF (XF.thenN ?_)
  refine condF rfl (fun hc => absurd (of_decide_eq_true hc) (by exact fun h => h rfl)) (fun hc => ?_)
  have hc := of_decide_eq_false hc
  refine skipF ?_
  refine XF.thenN ?_
  refine seqF ?_
  refine seqF (regF ?_)
  refine op_move rfl rfl ?_
  refine op_neq rfl rfl rfl ?_
  refine op_move rfl rfl ?_
  refine op_cases (d := 40) rfl (fun hc => absurd (of_decide_eq_true hc) (by exact fun h => h rfl)) (fun hc => ?_)
  have hc := of_decide_eq_false hc
  refine op_wantedF (d := 40) rfl rfl ?_
  refine op_loadA (vs := [_, _, _, _, _, _]) Try.isAgg28 Try.sizeOf28 rfl ((CellsAt.agree hS.agree (Nat.zero_le _) kp5)) rfl ?_
  refine op_wantedF (d := 40) rfl rfl ?_
  refine op_loadA (vs := [_, _]) Try.isAgg49 Try.sizeOf49 rfl ((CellsAt.agree hS.agree (Nat.zero_le _) kd5)) rfl ?_
  refine op_wantedF (d := 40) rfl rfl ?_
  refine op_call (vs := [_, _]) hS goes_21 rfl (stepR_is ds d9 p d _ (hp5.below hS.below) (hd5.below hS.below)) rfl ?_
  rintro e W12 ⟨rfl, hb⟩
  refine ⟨_, rfl, hb, fun hS' => ?_⟩
  clear hS; have hS := hS'; clear hS' hb
  refine op_wantedF (d := 40) rfl rfl ?_
  refine op_neq rfl rfl rfl ?_
  refine op_pickF rfl rfl rfl ?_
  refine op_move rfl rfl ?_
  refine op_cases (d := 46) rfl (fun hc => ?_) (fun hc => ?_)
  ·have hg46 := of_decide_eq_true hc; clear hc
   iterate 4 refine op_notF (d := 46) rfl rfl rfl rfl ?_
   refine op_pickT rfl rfl rfl ?_
   refine op_move rfl rfl ?_
   iterate 4 refine op_notF (d := 52) rfl rfl rfl rfl ?_
   refine op_pickT rfl rfl rfl ?_
   refine endF (XF.thenN ?_)
   refine condT rfl ?_
   refine seqF (regF ?_)
   refine op_assign rfl rfl ?_
   refine endF (XF.thenN ?_)
   refine retF ?_
   refine XF.thenR ?_
   refine XF.res (res1 Try.results5 rfl) ?_
   exact ⟨rfl, (((hR3).trans (hR4.mono (hR3.size))).trans (hR5.mono (Nat.le_trans (hR3.size) hR4.size))).trans (hS.below.mono (Nat.le_trans (Nat.le_trans (hR3.size) hR4.size) hR5.size))⟩
  ·have hg46 := of_decide_eq_false hc; clear hc
   have hdE : stepE p d = 0 := by omega
   refine op_wantedF (d := 46) rfl rfl ?_
   refine op_field fa_49_1 rfl rfl rfl ?_
   refine op_wantedF (d := 46) rfl rfl ?_
   refine op_load Try.isAgg29 rfl ((CellsAt.agree hS.agree (Nat.zero_le _) kc5).2.1) rfl ?_
   refine op_wantedF (d := 46) rfl rfl ?_
   refine op_len Try.underlying29 rfl rfl ?_
   refine op_wantedF (d := 46) rfl rfl ?_
   refine op_gtr rfl rfl rfl ?_
   refine op_pickF rfl rfl rfl ?_
   refine op_move rfl rfl ?_
   refine op_cases (d := 52) rfl (fun hc => ?_) (fun hc => ?_)
   ·have hg52 := of_decide_eq_true hc; clear hc
    iterate 4 refine op_notF (d := 52) rfl rfl rfl rfl ?_
    refine op_pickT rfl rfl rfl ?_
    refine endF (XF.thenN ?_)
    refine condT rfl ?_
    refine seqF (regF ?_)
    refine op_assign rfl rfl ?_
    refine endF (XF.thenN ?_)
    refine retF ?_
    refine XF.thenR ?_
    refine XF.res (res1 Try.results5 rfl) ?_
    exact ⟨rfl, (((hR3).trans (hR4.mono (hR3.size))).trans (hR5.mono (Nat.le_trans (hR3.size) hR4.size))).trans (hS.below.mono (Nat.le_trans (Nat.le_trans (hR3.size) hR4.size) hR5.size))⟩
   ·have hg52 := of_decide_eq_false hc; clear hc
    refine op_wantedF (d := 52) rfl rfl ?_
    refine op_field fa_49_1 rfl rfl rfl ?_
    refine op_wantedF (d := 52) rfl rfl ?_
    refine op_load Try.isAgg29 rfl ((CellsAt.agree hS.agree (Nat.zero_le _) kd5).2.1) rfl ?_
    refine op_wantedF (d := 52) rfl rfl ?_
    refine op_len Try.underlying29 rfl rfl ?_
    refine op_wantedF (d := 52) rfl rfl ?_
    refine op_gtr rfl rfl rfl ?_
    refine op_pickF rfl rfl rfl ?_
    refine endF (XF.thenN ?_)
    refine condF rfl (fun hc => ?_) (fun hc => ?_)
    ·have hc57 := of_decide_eq_true hc; clear hc
     refine seqF (regF ?_)
     refine op_assign rfl rfl ?_
     refine endF (XF.thenN ?_)
     refine retF ?_
     refine XF.thenR ?_
     refine XF.res (res1 Try.results5 rfl) ?_
     exact ⟨rfl, (((hR3).trans (hR4.mono (hR3.size))).trans (hR5.mono (Nat.le_trans (hR3.size) hR4.size))).trans (hS.below.mono (Nat.le_trans (Nat.le_trans (hR3.size) hR4.size) hR5.size))⟩
    ·have hc57 := of_decide_eq_false hc; clear hc
     refine skipF ?_
     refine XF.thenN ?_
     refine seqF ?_
     have hRoot := hS.below
     have hR9 := hRoot
     have kp9 := CellsAt.agree hS.agree (Nat.zero_le _) kp5
     have kc9 := CellsAt.agree hS.agree (Nat.zero_le _) kc5
     have kd9 := CellsAt.agree hS.agree (Nat.zero_le _) kd5
     have ka9 := CellsAt.agree hS.agree (Nat.zero_le _) ka5
     have hp9 := hp5.below hRoot
     have hc9 := hc5.below hRoot
     have hd9 := hd5.below hRoot
     have hk9 := hk5.below hRoot
     have hs9 := hs5.below hRoot
     have hQ9 := hQ5.below hRoot
     clear hS; have hS := St.start W12
     refine regF ?_
     refine op_loadA (vs := [_, _, _, _, _, _, _]) Try.isAgg60 Try.sizeOf60 rfl (ka9) rfl ?_
     refine op_field fa_49_0 rfl (Nat.add_zero _) rfl ?_
     refine op_load Try.isAgg3 rfl (kc9.1) rfl ?_
     refine op_field fa_49_1 rfl rfl rfl ?_
     refine op_load Try.isAgg29 rfl (kc9.2.1) rfl ?_
     refine op_call (vs := [_, _, _, _]) hS goes_22 rfl (qvalue_is hpk.ok (hs9.below hS.below) (hQ9.below hS.below) hcc.len (hc9.below hS.below) hcm hsE) rfl ?_
     rintro e W13 ⟨fv1, rfl, hx1, hb⟩
     refine ⟨_, rfl, hb, fun hS' => ?_⟩
     clear hS; have hS := hS'; clear hS'
     rw [if_pos ⟨rfl, rfl⟩] at hx1
     have hb1 := hb
     clear hb
     refine op_move rfl rfl ?_
     iterate 2 refine op_extract rfl rfl rfl ?_
     refine op_alloc (cs := [_, _, _, _, _, _]) hS Try.zeroValue45 rfl rfl ?_
     clear hS; intro B14 W14 hS
     refine op_storeA (i := 0) (vs := [_, _, _, _, _, _]) (cs' := [_, _, _, _, _, _]) (O' := [_]) hS Try.sizeOf45 rfl rfl rfl rfl rfl rfl rfl ?_
     clear hS; intro W15 hS
     refine op_assign rfl rfl ?_
     refine endF (XF.thenN ?_)
     refine seqF ?_
     have hRoot := hS.below
     have hR10 := hRoot
     have kp10 := CellsAt.agree hS.agree (Nat.zero_le _) kp9
     have kc10 := CellsAt.agree hS.agree (Nat.zero_le _) kc9
     have kd10 := CellsAt.agree hS.agree (Nat.zero_le _) kd9
     have ka10 := CellsAt.agree hS.agree (Nat.zero_le _) ka9
     have hp10 := hp9.below hRoot
     have hc10 := hc9.below hRoot
     have hd10 := hd9.below hRoot
     have hk10 := hk9.below hRoot
     have hs10 := hs9.below hRoot
     have hQ10 := hQ9.below hRoot
     have hx10 := hx1.below (below_join rfl hb1 hS.below (hS.since 0 rfl))
     have kf10 : CellsAt W15 B14 0 fv1.six := CellsAt.own (j := 0) (m := 6) (hS.at_ 0 rfl) rfl
     clear hx1 hb1
     clear hS; have hS := St.start W15
     refine regF ?_
     refine op_loadA (vs := [_, _, _, _, _, _, _]) Try.isAgg60 Try.sizeOf60 rfl (ka10) rfl ?_
     refine op_field fa_49_0 rfl (Nat.add_zero _) rfl ?_
     refine op_load Try.isAgg3 rfl (kd10.1) rfl ?_
     refine op_field fa_49_1 rfl rfl rfl ?_
     refine op_load Try.isAgg29 rfl (kd10.2.1) rfl ?_
     refine op_call (vs := [_, _, _, _]) hS goes_22 rfl (qvalue_is hpk.ok (hs10.below hS.below) (hQ10.below hS.below) hcc.len (hd10.below hS.below) hdm hdE) rfl ?_
     rintro e W16 ⟨fv2, rfl, hx2, hb⟩
     refine ⟨_, rfl, hb, fun hS' => ?_⟩
     clear hS; have hS := hS'; clear hS'
     have hb1 := hb
     clear hb
     refine op_move rfl rfl ?_
     iterate 2 refine op_extract rfl rfl rfl ?_
     refine op_alloc (cs := [_, _, _, _, _, _]) hS Try.zeroValue45 rfl rfl ?_
     clear hS; intro B17 W17 hS
     refine op_storeA (i := 0) (vs := [_, _, _, _, _, _]) (cs' := [_, _, _, _, _, _]) (O' := [_]) hS Try.sizeOf45 rfl rfl rfl rfl rfl rfl rfl ?_
     clear hS; intro W18 hS
     refine op_assign rfl rfl ?_
     refine endF (XF.thenN ?_)
     iterate 2 refine seqF ?_
     have hRoot := hS.below
     have hR11 := hRoot
     have kp11 := CellsAt.agree hS.agree (Nat.zero_le _) kp10
     have kc11 := CellsAt.agree hS.agree (Nat.zero_le _) kc10
     have kd11 := CellsAt.agree hS.agree (Nat.zero_le _) kd10
     have ka11 := CellsAt.agree hS.agree (Nat.zero_le _) ka10
     have kf11 := CellsAt.agree hS.agree (Nat.zero_le _) kf10
     have hp11 := hp10.below hRoot
     have hc11 := hc10.below hRoot
     have hd11 := hd10.below hRoot
     have hk11 := hk10.below hRoot
     have hs11 := hs10.below hRoot
     have hQ11 := hQ10.below hRoot
     have hx11 := hx10.below hRoot
     have hy11 := hx2.below (below_join rfl hb1 hS.below (hS.since 0 rfl))
     have kg11 : CellsAt W18 B17 0 fv2.six := CellsAt.own (j := 0) (m := 6) (hS.at_ 0 rfl) rfl
     clear hx2 hb1
     clear hS; have hS := St.start W18
     refine regB (m := 20) followsM hS (by kernel_rfl) (by kernel_rfl) rfl ?_
     refine bl_cons 1 rfl (isV _) (stab_isV _) (rgV (li := [(12, _)]) rfl (w_free rfl) ⟨g_fr (by kernel_rfl) rfl, trivial⟩ (fun w hw => rn_move rfl) (at_top rfl)) ?_
     refine bl_cons 2 rfl (isV (.bool false)) (stab_isV _) (rgVe (li := [(76, _)]) rfl (w_free rfl) ⟨g_dep 0 (by kernel_rfl) (at_dep rfl rfl rfl), trivial⟩ (fun w hw => rn_neq rfl rfl) (by simp) (at_top rfl)) ?_
     refine bl_cons 3 rfl (isV _) (stab_isV _) (rgV (li := [(77, _)]) rfl (w_free rfl) ⟨g_dep 1 (by kernel_rfl) (at_dep rfl rfl rfl), trivial⟩ (fun w hw => rn_move rfl) (at_top rfl)) ?_
     refine bl_cons 4 rfl (isV _) (stab_isV _) (rgV (li := [(14, _)]) rfl (w_yes 78 rfl (by kernel_rfl) (by kernel_rfl) (at_dep rfl rfl rfl)) ⟨g_fr (by kernel_rfl) rfl, trivial⟩ (fun w hw => rn_move rfl) (at_top rfl)) ?_
     refine bl_cons 5 rfl (isV (.bool false)) (stab_isV _) (rgVe (li := [(79, _)]) rfl (w_yes 78 rfl (by kernel_rfl) (by kernel_rfl) (at_dep rfl rfl rfl)) ⟨g_dep 3 (by kernel_rfl) (at_dep rfl rfl rfl), trivial⟩ (fun w hw => rn_neq rfl rfl) (by simp) (at_top rfl)) ?_
     refine bl_cons 6 rfl (isV _) (stab_isV _) (rgV (li := [(78, _), (80, _)]) rfl (w_free rfl) ⟨g_dep 2 (by kernel_rfl) (at_dep rfl rfl rfl), g_dep 4 (by kernel_rfl) (at_dep rfl rfl rfl), trivial⟩ (fun w hw => rn_pickF rfl rfl) (at_top rfl)) ?_
     refine bl_cons 7 rfl (isV _) (stab_isV _) (rgV (li := [(81, _)]) rfl (w_free rfl) ⟨g_dep 5 (by kernel_rfl) (at_dep rfl rfl rfl), trivial⟩ (fun w hw => rn_move rfl) (at_top rfl)) ?_
     refine bl_cons 8 rfl (isV _) (stab_isV _) (rgV (li := [(3, _)]) rfl (w_yes 82 rfl (by kernel_rfl) (by kernel_rfl) (at_dep rfl rfl rfl)) ⟨g_fr (by kernel_rfl) rfl, trivial⟩ (fun w hw => rn_loadA (vs := [_, _, _, _, _, _]) Try.isAgg28 Try.sizeOf28 rfl (CellsAt.agree (below_agree hw 0) (Nat.zero_le _) (kp11))) (at_top rfl)) ?_
     refine bl_cons 9 rfl (isV _) (stab_isV _) (rgV (li := [(7, _)]) rfl (w_yes 82 rfl (by kernel_rfl) (by kernel_rfl) (at_dep rfl rfl rfl)) ⟨g_fr (by kernel_rfl) rfl, trivial⟩ (fun w hw => rn_loadA (vs := [_, _, _, _, _, _, _]) Try.isAgg60 Try.sizeOf60 rfl (CellsAt.agree (below_agree hw 0) (Nat.zero_le _) (ka11))) (at_top rfl)) ?_
     refine bl_cons 10 rfl (isV (.int .i64 0)) (stab_isV _) (rg_call [isV _, isV _] rfl goes_16 (w_yes 82 rfl (by kernel_rfl) (by kernel_rfl) (at_dep rfl rfl rfl)) ⟨p_tmp (g_dep 7 (by kernel_rfl) (at_dep rfl rfl rfl)), p_tmp (g_dep 8 (by kernel_rfl) (at_dep rfl rfl rfl)), trivial⟩ (fun vs w' hb hh => by have e := holds_isV (us := [_, _]) hh; subst e; exact (qcheck_is (hp11.below hb) (hk11.below hb) (hs11.below hb) (hQ11.below hb)).mono fun e w2 h => ⟨_, h.1, rfl, h.2⟩) (at_top rfl)) ?_
     refine bl_cons 11 rfl (isV (.bool false)) (stab_isV _) (rgVe (li := [(85, _)]) rfl (w_yes 82 rfl (by kernel_rfl) (by kernel_rfl) (at_dep rfl rfl rfl)) ⟨g_dep 9 (by kernel_rfl) (at_dep rfl rfl rfl), trivial⟩ (fun w hw => rn_neq rfl rfl) (by simp) (at_top rfl)) ?_
     refine bl_cons 12 rfl (isV _) (stab_isV _) (rgV (li := [(82, _), (86, _)]) rfl (w_free rfl) ⟨g_dep 6 (by kernel_rfl) (at_dep rfl rfl rfl), g_dep 10 (by kernel_rfl) (at_dep rfl rfl rfl), trivial⟩ (fun w hw => rn_pickF rfl rfl) (at_top rfl)) ?_
     refine bl_cons 13 rfl (isV _) (stab_isV _) (rgV (li := [(87, _)]) rfl (w_free rfl) ⟨g_dep 11 (by kernel_rfl) (at_dep rfl rfl rfl), trivial⟩ (fun w hw => rn_move rfl) (at_top rfl)) ?_
     refine bl_cons 14 rfl (isV _) (stab_isV _) (rgV (li := [(11, _)]) rfl (w_yes 88 rfl (by kernel_rfl) (by kernel_rfl) (at_dep rfl rfl rfl)) ⟨g_fr (by kernel_rfl) rfl, trivial⟩ (fun w hw => rn_loadA (vs := [_, _, _, _, _, _]) Try.isAgg45 Try.sizeOf45 rfl (CellsAt.agree (below_agree hw 0) (Nat.zero_le _) (kf11))) (at_top rfl)) ?_
     refine bl_cons 15 rfl (isV _) (stab_isV _) (rgV (li := [(3, _)]) rfl (w_yes 88 rfl (by kernel_rfl) (by kernel_rfl) (at_dep rfl rfl rfl)) ⟨g_fr (by kernel_rfl) rfl, trivial⟩ (fun w hw => rn_field fa_28_0 rfl (Nat.add_zero _)) (at_top rfl)) ?_
     refine bl_cons 16 rfl (isV _) (stab_isV _) (rgV (li := [(90, _)]) rfl (w_yes 88 rfl (by kernel_rfl) (by kernel_rfl) (at_dep rfl rfl rfl)) ⟨g_dep 14 (by kernel_rfl) (at_dep rfl rfl rfl), trivial⟩ (fun w hw => rn_loadA (vs := [_, _, _]) Try.isAgg25 Try.sizeOf25 rfl (CellsAt.agree (below_agree hw 0) (Nat.zero_le _) ((⟨kp11.1, kp11.2.1, kp11.2.2.1, trivial⟩ : CellsAt _ _ 0 [_, _, _])))) (at_top rfl)) ?_
     refine bl_cons 17 rfl (isNew W18.heap.size S (oneX S)) (stab_isNew) (rg_call [isV _] rfl goes_23 (w_yes 88 rfl (by kernel_rfl) (by kernel_rfl) (at_dep rfl rfl rfl)) ⟨p_tmp (g_dep 15 (by kernel_rfl) (at_dep rfl rfl rfl)), trivial⟩ (fun vs w' hb hh => by have e := holds_isV (us := [_]) hh; subst e; exact wret_gives hb.size (one10_is S p.s.f w' (hk11.si.below hb) hpk.ok)) (at_top rfl)) ?_
     refine bl_cons 18 rfl (isV (.bool true)) (stab_isV _) (rg_call [isV _, isNew W18.heap.size S (oneX S)] rfl goes_14 (w_yes 88 rfl (by kernel_rfl) (by kernel_rfl) (at_dep rfl rfl rfl)) ⟨p_tmp (g_dep 13 (by kernel_rfl) (at_dep rfl rfl rfl)), p_tmp (g_dep 16 (by kernel_rfl) (at_dep rfl rfl rfl)), trivial⟩ (fun vs w' hb hh => by
      obtain ⟨v1, v2, rfl, e1, f9, rfl, h9⟩ := holds2 hh
      have e1 : v1 = _ := e1
      subst e1
      exact (sameW_is (hx11.below hb) h9.is true ⟨fun _ => rfl, fun _ => rfl⟩).mono fun e w2 h => ⟨_, h.1, rfl, h.2⟩) (at_top rfl)) ?_
     refine bl_cons 19 rfl (isV (.bool false)) (stab_isV _) (rgVe (li := [(93, _)]) rfl (w_yes 88 rfl (by kernel_rfl) (by kernel_rfl) (at_dep rfl rfl rfl)) ⟨g_dep 17 (by kernel_rfl) (at_dep rfl rfl rfl), trivial⟩ (fun w hw => rn_not rfl) (rfl) (at_top rfl)) ?_
     refine bl_cons 20 rfl (isV _) (stab_isV _) (rgV (li := [(88, _), (94, _)]) rfl (w_free rfl) ⟨g_dep 12 (by kernel_rfl) (at_dep rfl rfl rfl), g_dep 18 (by kernel_rfl) (at_dep rfl rfl rfl), trivial⟩ (fun w hw => rn_pickF rfl rfl) (at_top rfl)) ?_
     refine bl_nil ?_
     intro W19 hbR hS'
     clear hS; have hS := hS'; clear hS'
     iterate 16 refine fin_v ?_
     refine fin_p ?_; intro _ _
     iterate 3 refine fin_v ?_
     refine fin_nil ?_
     refine XF.thenN ?_
     refine condN rfl ?_
     refine skipF ?_
     refine XF.thenN ?_
     refine seqF ?_
     by_cases hcd : c.p = d.p ∧ c.ws = d.ws
     ·skip
      refine regB (m := 11) followsM hS (by kernel_rfl) (by kernel_rfl) rfl ?_
      refine bl_cons 1 rfl (isV _) (stab_isV _) (rgV (li := [(4, _)]) rfl (w_free rfl) ⟨g_fr (by kernel_rfl) rfl, trivial⟩ (fun w hw => rn_loadA (vs := [_, _]) Try.isAgg49 Try.sizeOf49 rfl (CellsAt.agree (below_agree hw 0) (Nat.zero_le _) ((CellsAt.agree hS.agree (Nat.zero_le _) kc11)))) (at_top rfl)) ?_
      refine bl_cons 2 rfl (isV _) (stab_isV _) (rgV (li := [(5, _)]) rfl (w_free rfl) ⟨g_fr (by kernel_rfl) rfl, trivial⟩ (fun w hw => rn_loadA (vs := [_, _]) Try.isAgg49 Try.sizeOf49 rfl (CellsAt.agree (below_agree hw 0) (Nat.zero_le _) ((CellsAt.agree hS.agree (Nat.zero_le _) kd11)))) (at_top rfl)) ?_
      refine bl_cons 3 rfl (isV (.bool true)) (stab_isV _) (rg_call [isV _, isV _] rfl goes_24 (w_free rfl) ⟨p_tmp (g_dep 0 (by kernel_rfl) (at_dep rfl rfl rfl)), p_tmp (g_dep 1 (by kernel_rfl) (at_dep rfl rfl rfl)), trivial⟩ (fun vs w' hb hh => by have e := holds_isV (us := [_, _]) hh; subst e; exact (sameC_c c.p c.wa c.wl c.wc c.ws d.p d.wa d.wl d.wc d.ws w' (hc11.row.below (hS.below.trans (hb.mono hS.below.size))) hcc.len (hd11.row.below (hS.below.trans (hb.mono hS.below.size))) hd.len hcm).mono fun e w2 h => ⟨_, by rw [h.1, decide_eq_true hcd], rfl, h.2⟩) (at_top rfl)) ?_
      refine bl_cons 4 rfl (isV _) (stab_isV _) (rgV (li := [(98, _)]) rfl (w_free rfl) ⟨g_dep 2 (by kernel_rfl) (at_dep rfl rfl rfl), trivial⟩ (fun w hw => rn_move rfl) (at_top rfl)) ?_
      refine bl_cons 5 rfl (isV undef) (stab_isV _) (rg_no rfl (w_no 99 rfl (by kernel_rfl) (by kernel_rfl) (at_dep rfl rfl rfl) rfl) (at_top rfl)) ?_
      refine bl_cons 6 rfl (isV undef) (stab_isV _) (rg_no rfl (w_no 99 rfl (by kernel_rfl) (by kernel_rfl) (at_dep rfl rfl rfl) rfl) (at_top rfl)) ?_
      refine bl_cons 7 rfl (isV undef) (stab_isV _) (rg_no rfl (w_no 99 rfl (by kernel_rfl) (by kernel_rfl) (at_dep rfl rfl rfl) rfl) (at_top rfl)) ?_
      refine bl_cons 8 rfl (isV undef) (stab_isV _) (rg_no rfl (w_no 99 rfl (by kernel_rfl) (by kernel_rfl) (at_dep rfl rfl rfl) rfl) (at_top rfl)) ?_
      refine bl_cons 9 rfl (isV undef) (stab_isV _) (rg_no rfl (w_no 99 rfl (by kernel_rfl) (by kernel_rfl) (at_dep rfl rfl rfl) rfl) (at_top rfl)) ?_
      refine bl_cons 10 rfl (isV _) (stab_isV _) (rgV (li := [(99, _)]) rfl (w_free rfl) ⟨g_dep 3 (by kernel_rfl) (at_dep rfl rfl rfl), trivial⟩ (fun w hw => rn_pickT rfl rfl) (at_top rfl)) ?_
      refine bl_cons 11 rfl (isV _) (stab_isV _) (rgV (li := [(105, _)]) rfl (w_free rfl) ⟨g_dep 9 (by kernel_rfl) (at_dep rfl rfl rfl), trivial⟩ (fun w hw => rn_assign rfl) (at_top rfl)) ?_
      refine bl_nil ?_
      intro W20 hbR hS'
      clear hS; have hS := hS'; clear hS'
      iterate 11 refine fin_v ?_
      refine fin_nil ?_
      refine XF.thenN ?_
      refine retF ?_
      refine XF.res (res1 Try.results5 rfl) ?_
      exact ⟨rfl, ((((((hR3).trans (hR4.mono (hR3.size))).trans (hR5.mono (Nat.le_trans (hR3.size) hR4.size))).trans (hR9.mono (Nat.le_trans (Nat.le_trans (hR3.size) hR4.size) hR5.size))).trans (hR10.mono (Nat.le_trans (Nat.le_trans (Nat.le_trans (hR3.size) hR4.size) hR5.size) hR9.size))).trans (hR11.mono (Nat.le_trans (Nat.le_trans (Nat.le_trans (Nat.le_trans (hR3.size) hR4.size) hR5.size) hR9.size) hR10.size))).trans (hS.below.mono (Nat.le_trans (Nat.le_trans (Nat.le_trans (Nat.le_trans (Nat.le_trans (hR3.size) hR4.size) hR5.size) hR9.size) hR10.size) hR11.size))⟩
     ·skip
      refine regB (m := 11) followsM hS (by kernel_rfl) (by kernel_rfl) rfl ?_
      refine bl_cons 1 rfl (isV _) (stab_isV _) (rgV (li := [(4, _)]) rfl (w_free rfl) ⟨g_fr (by kernel_rfl) rfl, trivial⟩ (fun w hw => rn_loadA (vs := [_, _]) Try.isAgg49 Try.sizeOf49 rfl (CellsAt.agree (below_agree hw 0) (Nat.zero_le _) ((CellsAt.agree hS.agree (Nat.zero_le _) kc11)))) (at_top rfl)) ?_
      refine bl_cons 2 rfl (isV _) (stab_isV _) (rgV (li := [(5, _)]) rfl (w_free rfl) ⟨g_fr (by kernel_rfl) rfl, trivial⟩ (fun w hw => rn_loadA (vs := [_, _]) Try.isAgg49 Try.sizeOf49 rfl (CellsAt.agree (below_agree hw 0) (Nat.zero_le _) ((CellsAt.agree hS.agree (Nat.zero_le _) kd11)))) (at_top rfl)) ?_
      refine bl_cons 3 rfl (isV (.bool false)) (stab_isV _) (rg_call [isV _, isV _] rfl goes_24 (w_free rfl) ⟨p_tmp (g_dep 0 (by kernel_rfl) (at_dep rfl rfl rfl)), p_tmp (g_dep 1 (by kernel_rfl) (at_dep rfl rfl rfl)), trivial⟩ (fun vs w' hb hh => by have e := holds_isV (us := [_, _]) hh; subst e; exact (sameC_c c.p c.wa c.wl c.wc c.ws d.p d.wa d.wl d.wc d.ws w' (hc11.row.below (hS.below.trans (hb.mono hS.below.size))) hcc.len (hd11.row.below (hS.below.trans (hb.mono hS.below.size))) hd.len hcm).mono fun e w2 h => ⟨_, by rw [h.1, decide_eq_false hcd], rfl, h.2⟩) (at_top rfl)) ?_
      refine bl_cons 4 rfl (isV _) (stab_isV _) (rgV (li := [(98, _)]) rfl (w_free rfl) ⟨g_dep 2 (by kernel_rfl) (at_dep rfl rfl rfl), trivial⟩ (fun w hw => rn_move rfl) (at_top rfl)) ?_
      refine bl_cons 5 rfl (isV _) (stab_isV _) (rgV (li := [(13, _)]) rfl (w_yes 99 rfl (by kernel_rfl) (by kernel_rfl) (at_dep rfl rfl rfl)) ⟨g_fr (by kernel_rfl) rfl, trivial⟩ (fun w hw => rn_loadA (vs := [_, _, _, _, _, _]) Try.isAgg45 Try.sizeOf45 rfl (CellsAt.agree (below_agree hw 0) (Nat.zero_le _) ((CellsAt.agree hS.agree (Nat.zero_le _) kg11)))) (at_top rfl)) ?_
      refine bl_cons 6 rfl (isV _) (stab_isV _) (rgV (li := [(3, _)]) rfl (w_yes 99 rfl (by kernel_rfl) (by kernel_rfl) (at_dep rfl rfl rfl)) ⟨g_fr (by kernel_rfl) rfl, trivial⟩ (fun w hw => rn_field fa_28_0 rfl (Nat.add_zero _)) (at_top rfl)) ?_
      refine bl_cons 7 rfl (isV _) (stab_isV _) (rgV (li := [(101, _)]) rfl (w_yes 99 rfl (by kernel_rfl) (by kernel_rfl) (at_dep rfl rfl rfl)) ⟨g_dep 5 (by kernel_rfl) (at_dep rfl rfl rfl), trivial⟩ (fun w hw => rn_loadA (vs := [_, _, _]) Try.isAgg25 Try.sizeOf25 rfl (CellsAt.agree (below_agree hw 0) (Nat.zero_le _) ((CellsAt.agree hS.agree (Nat.zero_le _) (⟨kp11.1, kp11.2.1, kp11.2.2.1, trivial⟩ : CellsAt _ _ 0 [_, _, _]))))) (at_top rfl)) ?_
      refine bl_cons 8 rfl (isNew W19.heap.size S (zeroX S)) (stab_isNew) (rg_call [isV _] rfl goes_25 (w_yes 99 rfl (by kernel_rfl) (by kernel_rfl) (at_dep rfl rfl rfl)) ⟨p_tmp (g_dep 6 (by kernel_rfl) (at_dep rfl rfl rfl)), trivial⟩ (fun vs w' hb hh => by have e := holds_isV (us := [_]) hh; subst e; exact wret_gives hb.size (zero10_is S p.s.f w' (hk11.si.below (hS.below.trans (hb.mono hS.below.size))) hpk.ok)) (at_top rfl)) ?_
      refine bl_cons 9 rfl (isV (.bool true)) (stab_isV _) (rg_call [isV _, isNew W19.heap.size S (zeroX S)] rfl goes_14 (w_yes 99 rfl (by kernel_rfl) (by kernel_rfl) (at_dep rfl rfl rfl)) ⟨p_tmp (g_dep 4 (by kernel_rfl) (at_dep rfl rfl rfl)), p_tmp (g_dep 7 (by kernel_rfl) (at_dep rfl rfl rfl)), trivial⟩ (fun vs w' hb hh => by
       obtain ⟨v1, v2, rfl, e1, f9, rfl, h9⟩ := holds2 hh
       have e1 : v1 = _ := e1
       subst e1
       have hy := hy11
       rw [if_neg (fun h => hcd ⟨h.1.symm, h.2.symm⟩)] at hy
       exact (sameW_is (hy.below (hS.below.trans (hb.mono hS.below.size))) h9.is true ⟨fun _ => rfl, fun _ => rfl⟩).mono fun e w2 h => ⟨_, h.1, rfl, h.2⟩) (at_top rfl)) ?_
      refine bl_cons 10 rfl (isV _) (stab_isV _) (rgV (li := [(99, _), (104, _)]) rfl (w_free rfl) ⟨g_dep 3 (by kernel_rfl) (at_dep rfl rfl rfl), g_dep 8 (by kernel_rfl) (at_dep rfl rfl rfl), trivial⟩ (fun w hw => rn_pickF rfl rfl) (at_top rfl)) ?_
      refine bl_cons 11 rfl (isV _) (stab_isV _) (rgV (li := [(105, _)]) rfl (w_free rfl) ⟨g_dep 9 (by kernel_rfl) (at_dep rfl rfl rfl), trivial⟩ (fun w hw => rn_assign rfl) (at_top rfl)) ?_
      refine bl_nil ?_
      intro W21 hbR hS'
      clear hS; have hS := hS'; clear hS'
      iterate 7 refine fin_v ?_
      refine fin_p ?_; intro _ _
      iterate 3 refine fin_v ?_
      refine fin_nil ?_
      refine XF.thenN ?_
      refine retF ?_
      refine XF.res (res1 Try.results5 rfl) ?_
      exact ⟨rfl, ((((((hR3).trans (hR4.mono (hR3.size))).trans (hR5.mono (Nat.le_trans (hR3.size) hR4.size))).trans (hR9.mono (Nat.le_trans (Nat.le_trans (hR3.size) hR4.size) hR5.size))).trans (hR10.mono (Nat.le_trans (Nat.le_trans (Nat.le_trans (hR3.size) hR4.size) hR5.size) hR9.size))).trans (hR11.mono (Nat.le_trans (Nat.le_trans (Nat.le_trans (Nat.le_trans (hR3.size) hR4.size) hR5.size) hR9.size) hR10.size))).trans (hS.below.mono (Nat.le_trans (Nat.le_trans (Nat.le_trans (Nat.le_trans (Nat.le_trans (hR3.size) hR4.size) hR5.size) hR9.size) hR10.size) hR11.size))⟩
 ·skip
  refine regF ?_
  refine op_loadA (vs := [_, _, _, _, _, _]) Try.isAgg28 Try.sizeOf28 rfl (CellsAt.own (j := 0) (m := 6) (hS.at_ 2 rfl) rfl) rfl ?_
  refine op_loadA (vs := [_, _]) Try.isAgg49 Try.sizeOf49 rfl (CellsAt.own (j := 0) (m := 2) (hS.at_ 1 rfl) rfl) rfl ?_
  refine op_call (vs := [_, _]) hS goes_18 rfl ((queryOne_c ds d9 p c.p c.wa c.wl c.wc c.ws _ (hp.below hS.below) (hcc.row.below hS.below) hcc.len hcm S px (fun h => (hpx h).below hS.below)).mono fun e w2 h => qbad_of h hE) rfl ?_
  rintro e W22 ⟨rfl, hb⟩
  refine ⟨_, rfl, hb, fun hS' => ?_⟩
  clear hS; have hS := hS'; clear hS' hb
  refine op_move rfl rfl ?_
  iterate 2 refine op_extract rfl rfl rfl ?_
  refine op_alloc (cs := [_, _, _, _, _, _, _]) hS Try.zeroValue60 rfl rfl ?_
  clear hS; intro B23 W23 hS
  refine op_storeA (i := 0) (vs := [_, _, _, _, _, _, _]) (cs' := [_, _, _, _, _, _, _]) (O' := [_, _, _, _]) hS Try.sizeOf60 rfl rfl rfl rfl rfl rfl rfl ?_
  clear hS; intro W24 hS
  refine op_assign rfl rfl ?_
  refine endF (XF.thenN ?_)
  refine seqF (regF ?_)
  refine op_loadA (vs := [_, _, _, _, _, _]) Try.isAgg28 Try.sizeOf28 rfl (CellsAt.own (j := 0) (m := 6) (hS.at_ 3 rfl) rfl) rfl ?_
  refine op_loadA (vs := [_, _]) Try.isAgg49 Try.sizeOf49 rfl (CellsAt.own (j := 0) (m := 2) (hS.at_ 2 rfl) rfl) rfl ?_
  refine op_call (vs := [_, _]) hS goes_19 rfl ((queryOneR_c ds d9 p c.p c.wa c.wl c.wc c.ws _ (hp.below hS.below) (hcc.row.below hS.below) hcc.len hcm S px (fun h => (hpx h).below hS.below)).mono fun e w2 h => qbad_of h hE) rfl ?_
  rintro e W25 ⟨rfl, hb⟩
  refine ⟨_, rfl, hb, fun hS' => ?_⟩
  clear hS; have hS := hS'; clear hS' hb
  refine op_move rfl rfl ?_
  iterate 2 refine op_extract rfl rfl rfl ?_
  refine op_alloc (cs := [_, _, _, _, _, _, _]) hS Try.zeroValue60 rfl rfl ?_
  clear hS; intro B26 W26 hS
  refine op_storeA (i := 0) (vs := [_, _, _, _, _, _, _]) (cs' := [_, _, _, _, _, _, _]) (O' := [_, _, _, _, _]) hS Try.sizeOf60 rfl rfl rfl rfl rfl rfl rfl ?_
  clear hS; intro W27 hS
  refine op_assign rfl rfl ?_
  refine endF (XF.thenN ?_)
  refine seqF ?_
  refine seqF (regF ?_)
  refine op_loadA (vs := [_, _, _, _, _, _, _]) Try.isAgg60 Try.sizeOf60 rfl (CellsAt.own (j := 0) (m := 7) (hS.at_ 1 rfl) rfl) rfl ?_
  refine op_loadA (vs := [_, _, _, _, _, _, _]) Try.isAgg60 Try.sizeOf60 rfl (CellsAt.own (j := 0) (m := 7) (hS.at_ 0 rfl) rfl) rfl ?_
  refine op_call (vs := [_, _]) hS goes_20 rfl (sameAu_eq none [] [] ⟨0, 0, none, 0, 0⟩ ⟨0, 0, none, 0, 0⟩ 0 0 none none none none 0 0 0 0 0 0 [] [] _ (auo_none _ _ _) (auo_none _ _ _) rfl rfl (by decide) (by decide)) rfl ?_
  rintro e W28 ⟨rfl, hb⟩
  refine ⟨_, rfl, hb, fun hS' => ?_⟩
  clear hS; have hS := hS'; clear hS' hb
  refine op_not rfl rfl ?_
  refine op_move rfl rfl ?_
  refine op_wantedF (d := 33) rfl rfl ?_
  refine op_move rfl rfl ?_
  refine op_wantedF (d := 33) rfl rfl ?_
  refine op_move rfl rfl ?_
  refine op_wantedF (d := 33) rfl rfl ?_
  refine op_neq rfl rfl rfl ?_
  refine op_pickF rfl rfl rfl ?_
  refine endF (XF.thenN ?_)
  refine condF rfl (fun hc => absurd (of_decide_eq_true hc) (by exact fun h => h rfl)) (fun hc => ?_)
  have hc := of_decide_eq_false hc
  refine skipF ?_
  refine XF.thenN ?_
  refine seqF ?_
  refine seqF (regF ?_)
  refine op_move rfl rfl ?_
  refine op_neq rfl rfl rfl ?_
  refine op_move rfl rfl ?_
  refine op_cases (d := 40) rfl (fun hc => ?_) (fun hc => absurd (of_decide_eq_false hc) (by exact fun h => h hE))
  have hc := of_decide_eq_true hc
  iterate 4 refine op_notF (d := 40) rfl rfl rfl rfl ?_
  refine op_pickT rfl rfl rfl ?_
  refine op_move rfl rfl ?_
  iterate 4 refine op_notF (d := 46) rfl rfl rfl rfl ?_
  refine op_pickT rfl rfl rfl ?_
  refine op_move rfl rfl ?_
  iterate 4 refine op_notF (d := 52) rfl rfl rfl rfl ?_
  refine op_pickT rfl rfl rfl ?_
  refine endF (XF.thenN ?_)
  refine condT rfl ?_
  refine seqF (regF ?_)
  refine op_assign rfl rfl ?_
  refine endF (XF.thenN ?_)
  refine retF ?_
  refine XF.thenR ?_
  refine XF.res (res1 Try.results5 rfl) ?_
  exact ⟨rfl, hS.below⟩
theorem queryOnes_walk (n : Nat) (p : PV) (c d : CV) (w : World) (hp : PvIn w n n p) (hc : CIn w c ∧ c.wl ≤ 9223372036854775807) (hd : CIn w d ∧ d.wl ≤ 9223372036854775807) : Calls Try.prog 5 #[p.val, c.val, d.val] w (fun e w' => e = .returned (.bool (true)) ∧ Below w.heap.size w w') := queryOnes_walk0 n n p c d w hp hc.1 hc.2 hd.1 hd.2
end Go.Proofs.Ytpkcaabbcoiiiaa
