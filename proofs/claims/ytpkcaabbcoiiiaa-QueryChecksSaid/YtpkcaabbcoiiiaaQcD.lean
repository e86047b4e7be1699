import Derived.Orders
import Derived.Below
import Derived.Deep.RegionHeld
import Derived.WalkKit
import Derived.KernelRfl
import Derived.Laws.Rows
import Derived.Laws.AppendOwn
import Derived.Laws.Strings
import Derived.Laws.Small
import Derived.Lib.Hide
import Derived.IntWalk
import Derived.Laws.Tables
import Derived.Laws.Concat
import Derived.Laws.MakeOwn
import Derived.Test.YtpkcaabbcoiiiaaProg
import Derived.Lib.TrailingZeros
import Derived.Test.YtpkcaabbcoiiiaaRows
import Derived.Lib.LaidTab
import Derived.Lib.ItoaNum
import Derived.Stop.LaidErr
import Derived.WalkSmall
import Derived.LaidMore
import Derived.Shelf.Spec.TrailingZeros
import Derived.Laws.BitsAllLaws
import Derived.Laws.Bits64
import Derived.Deep.QuietTactic
import Derived.BigQuiet
import Derived.RegionTactic
import Derived.BigRegion
import Derived.Deep.RegionHeld3
import Derived.ChangeAlike
import Derived.Laws.Bits128
import Derived.Deep.AppendLies
import Derived.Sort.Grow
import Derived.RangeFuncNested
import Derived.RangeFuncBound
import Derived.RangeFuncCalls
import Derived.RangeFuncLeaves
import Derived.Shelf.Abstract
import Derived.Shelf.RegionOpen
import Derived.OwnWalkIn
import Derived.TacticsInMore
import Derived.LoopNIn
import Derived.LoopIn
import Derived.Maps.AppendAt
import Derived.Ground.Names2Prog
import Derived.Shelf.Slices.Clone
import Derived.Lib.OthersKept
import Derived.Laws.IdiomStrings
import Derived.StillTailTactics
import Derived.Deep.RegionLaw
import Derived.Deep.DeepCutAuto
import Derived.Deep.CutRange
import Derived.Deep.RegionWith
import Derived.Laws.Bits64b
import Derived.Deep.DrawnRows
import Derived.Lib.SliceRun
import Derived.Laws.OwnMore
import Derived.OwnWalk
import Derived.WalkSpells
import Derived.Lib.Join
import Derived.Lib.OwnBridge
import Derived.WideKeyEntry
import Derived.DeepKeys4
import Derived.Lib.AppendZeros
import Derived.Lib.ItoaLen
import Derived.Lib.UnsafeStr
import Derived.Lib.AppendIntMem
import Derived.Deep.Slices
import Derived.Deep.Fields
import Derived.ChangeSame
import Derived.Lib.SmallJoins
import Derived.ChangeSlices
import Derived.ProofKit
import Derived.Test.YtpkcaabbcoiiiaaQcA
import Derived.Test.YtpkcaabbcoiiiaaQcB
import Derived.Test.YtpkcaabbcoiiiaaQcC
set_option maxRecDepth 100000
set_option maxHeartbeats 4000000
set_option linter.unusedVariables false
set_option linter.unusedVariables false
set_option linter.unusedSimpArgs false
set_option linter.unusedSectionVars false
set_option linter.unnecessarySimpa false
namespace Go.Proofs.Ytpkcaabbcoiiiaa
open Go Go.RowKit
theorem fa_100_0 (w : World) (b o : Nat) : (Instr.fieldAt 100 (.pointer (some ⟨b, o, none⟩)) 0).run Try.prog w = .ok (.pointer (some ⟨b, o + 0, none⟩)) w := by
 simp [Instr.fieldAt, run_underlying Try.underlying100, Instr.sureAddr, go_sem, Addr.add_lit]
theorem fa_100_1 (w : World) (b o : Nat) : (Instr.fieldAt 100 (.pointer (some ⟨b, o, none⟩)) 1).run Try.prog w = .ok (.pointer (some ⟨b, o + 1, none⟩)) w := by
 simp [Instr.fieldAt, run_underlying Try.underlying100, Instr.sureAddr, go_sem, Addr.add_lit]
theorem fa_100_2 (w : World) (b o : Nat) : (Instr.fieldAt 100 (.pointer (some ⟨b, o, none⟩)) 2).run Try.prog w = .ok (.pointer (some ⟨b, o + 2, none⟩)) w := by
 simp [Instr.fieldAt, run_underlying Try.underlying100, Instr.sureAddr, go_sem, Addr.add_lit]
theorem fa_100_3 (w : World) (b o : Nat) : (Instr.fieldAt 100 (.pointer (some ⟨b, o, none⟩)) 3).run Try.prog w = .ok (.pointer (some ⟨b, o + 3, none⟩)) w := by
 simp [Instr.fieldAt, run_underlying Try.underlying100, Instr.sureAddr, go_sem, Addr.add_lit]
theorem fa_60_0 (w : World) (b o : Nat) : (Instr.fieldAt 60 (.pointer (some ⟨b, o, none⟩)) 0).run Try.prog w = .ok (.pointer (some ⟨b, o + 0, none⟩)) w := by
 simp [Instr.fieldAt, run_underlying Try.underlying60, Instr.sureAddr, go_sem, Addr.add_lit]
theorem fa_60_1 (w : World) (b o : Nat) : (Instr.fieldAt 60 (.pointer (some ⟨b, o, none⟩)) 1).run Try.prog w = .ok (.pointer (some ⟨b, o + 3, none⟩)) w := by
 simp [Instr.fieldAt, run_underlying Try.underlying60, Instr.sureAddr, go_sem, Addr.add_lit]
theorem fa_60_2 (w : World) (b o : Nat) : (Instr.fieldAt 60 (.pointer (some ⟨b, o, none⟩)) 2).run Try.prog w = .ok (.pointer (some ⟨b, o + 4, none⟩)) w := by
 simp [Instr.fieldAt, run_underlying Try.underlying60, Instr.sureAddr, go_sem, Addr.add_lit]
theorem fa_60_3 (w : World) (b o : Nat) : (Instr.fieldAt 60 (.pointer (some ⟨b, o, none⟩)) 3).run Try.prog w = .ok (.pointer (some ⟨b, o + 5, none⟩)) w := by
 simp [Instr.fieldAt, run_underlying Try.underlying60, Instr.sureAddr, go_sem, Addr.add_lit]
theorem fa_60_4 (w : World) (b o : Nat) : (Instr.fieldAt 60 (.pointer (some ⟨b, o, none⟩)) 4).run Try.prog w = .ok (.pointer (some ⟨b, o + 6, none⟩)) w := by
 simp [Instr.fieldAt, run_underlying Try.underlying60, Instr.sureAddr, go_sem, Addr.add_lit]
theorem goes_69 : goesIn Try.prog 69 = true := by kernel_rfl
theorem goes_73 : goesIn Try.prog 73 = true := by kernel_rfl
theorem goes_97 : goesIn Try.prog 97 = true := by kernel_rfl
theorem isStW_is (a : AV) (n : Int) (w : World) :
  Calls Try.prog 97 #[a.val, .int .i64 n] w (fun e w' => e = .returned (.bool (inQ n a.st)) ∧ Below w.heap.size w w') := by
 refine enterF (args := [a.val, .int .i64 n]) Try.func97 rfl Try.ntmps97 rfl ?_
 have hS := St.start w
 refine seqF (regF ?_)
 refine op_box (cs := [_, _, _, _, _, _, _]) hS rfl rfl rfl ?_
 clear hS; intro B1 W1 hS
 refine op_assign rfl rfl ?_
 refine endF (XF.thenN ?_)
 refine seqF (regF ?_)
 refine op_move rfl rfl ?_
 refine op_geq rfl rfl rfl ?_
 refine op_move rfl rfl ?_
 refine op_cases (d := 7) rfl (fun hc => ?_) (fun hc => ?_)
 ·have hg7 := of_decide_eq_true hc; clear hc
  refine op_wantedF (d := 7) rfl rfl ?_
  refine op_move rfl rfl ?_
  refine op_wantedF (d := 7) rfl rfl ?_
  refine op_field (o' := 3) fa_60_1 rfl rfl rfl ?_
  refine op_wantedF (d := 7) rfl rfl ?_
  refine op_load Try.isAgg3 rfl (cell_own (hS.at_ 0 rfl) rfl) rfl ?_
  refine op_wantedF (d := 7) rfl rfl ?_
  refine op_lss rfl rfl rfl ?_
  refine op_pickT rfl rfl rfl ?_
  refine op_assign rfl rfl ?_
  refine endF (XF.thenN ?_)
  refine retF ?_
  refine XF.res (res1 Try.results97 rfl) ?_
  exact ⟨rbool (by simp [inQ, show 0 ≤ n from hg7]), hS.below⟩
 ·have hg7 := of_decide_eq_false hc; clear hc
  refine op_notF (d := 7) rfl rfl rfl rfl ?_
  refine op_notF (d := 7) rfl rfl rfl rfl ?_
  refine op_notF (d := 7) rfl rfl rfl rfl ?_
  refine op_notF (d := 7) rfl rfl rfl rfl ?_
  refine op_pickF rfl rfl rfl ?_
  refine op_assign rfl rfl ?_
  refine endF (XF.thenN ?_)
  refine retF ?_
  refine XF.res (res1 Try.results97 rfl) ?_
  exact ⟨rbool (by simp [inQ]; omega), hS.below⟩
theorem stR_is (a : AV) (n : Int) (w : World) :
  Calls Try.prog 73 #[a.val, .int .i64 n] w (fun e w' => e = .returned (.bool (inQ n a.st)) ∧ Below w.heap.size w w') := by
 refine enterF (args := [a.val, .int .i64 n]) Try.func73 rfl Try.ntmps73 rfl ?_
 have hS := St.start w
 refine seqF (regF ?_)
 refine op_box (cs := [_, _, _, _, _, _, _]) hS rfl rfl rfl ?_
 clear hS; intro B1 W1 hS
 refine op_assign rfl rfl ?_
 refine endF (XF.thenN ?_)
 refine seqF (regF ?_)
 refine op_move rfl rfl ?_
 refine op_geq rfl rfl rfl ?_
 refine op_move rfl rfl ?_
 refine op_cases (d := 7) rfl (fun hc => ?_) (fun hc => ?_)
 ·have hg7 := of_decide_eq_true hc; clear hc
  refine op_wantedF (d := 7) rfl rfl ?_
  refine op_move rfl rfl ?_
  refine op_wantedF (d := 7) rfl rfl ?_
  refine op_field (o' := 3) fa_60_1 rfl rfl rfl ?_
  refine op_wantedF (d := 7) rfl rfl ?_
  refine op_load Try.isAgg3 rfl (cell_own (hS.at_ 0 rfl) rfl) rfl ?_
  refine op_wantedF (d := 7) rfl rfl ?_
  refine op_lss rfl rfl rfl ?_
  refine op_pickT rfl rfl rfl ?_
  refine op_assign rfl rfl ?_
  refine endF (XF.thenN ?_)
  refine retF ?_
  refine XF.res (res1 Try.results73 rfl) ?_
  exact ⟨rbool (by simp [inQ, show 0 ≤ n from hg7]), hS.below⟩
 ·have hg7 := of_decide_eq_false hc; clear hc
  refine op_notF (d := 7) rfl rfl rfl rfl ?_
  refine op_notF (d := 7) rfl rfl rfl rfl ?_
  refine op_notF (d := 7) rfl rfl rfl rfl ?_
  refine op_notF (d := 7) rfl rfl rfl rfl ?_
  refine op_pickF rfl rfl rfl ?_
  refine op_assign rfl rfl ?_
  refine endF (XF.thenN ?_)
  refine retF ?_
  refine XF.res (res1 Try.results73 rfl) ?_
  exact ⟨rbool (by simp [inQ]; omega), hS.below⟩
theorem ashapeW_c (ds d : Nat) (s : SV) (st sy : Int) (fa : Option Addr) (fl fc : Nat) (fs : List Int) (ta : Option Addr) (tl tc : Nat) (ts : List TV) (w : World) (hs : SIn w ds s) (hfrow : Row w fa fs) (hflen : fs.length = fl) (htrow : TRow w ta ts) (htlen : ts.length = tl) (htin : ∀ t ∈ ts, WIn w d t.x) (hfm : fl ≤ 9223372036854775807) (htm : tl ≤ 9223372036854775807) :
  Calls Try.prog 69 #[.agg #[.int .i64 s.f.tag, .int .i64 s.f.dim, .slice s.f.a s.f.len s.f.cap, .int .i64 st, .int .i64 sy, .slice fa fl fc, .slice ta tl tc]] w (fun e w' => e = .returned (.bool (ashapeB st sy fs ts)) ∧ Below w.heap.size w w') := by
 refine enterF (args := [.agg #[.int .i64 s.f.tag, .int .i64 s.f.dim, .slice s.f.a s.f.len s.f.cap, .int .i64 st, .int .i64 sy, .slice fa fl fc, .slice ta tl tc]]) Try.func69 rfl Try.ntmps69 rfl ?_
 have hS := St.start w
 refine seqF (regF ?_)
 refine op_box (cs := [_, _, _, _, _, _, _]) hS rfl rfl rfl ?_
 clear hS; intro B1 W1 hS
 refine op_assign rfl rfl ?_
 refine endF (XF.thenN ?_)
 refine seqF ?_
 refine seqF (regF ?_)
 refine op_field (o' := 3) fa_60_1 rfl rfl rfl ?_
 refine op_load Try.isAgg3 rfl (cell_own (hS.at_ 0 rfl) rfl) rfl ?_
 refine op_lss rfl rfl rfl ?_
 refine op_move rfl rfl ?_
 refine op_cases (d := 10) rfl (fun hc => ?_) (fun hc => ?_)
 ·have hg10 := of_decide_eq_true hc; clear hc
  refine op_notF (d := 10) rfl rfl rfl rfl ?_
  refine op_notF (d := 10) rfl rfl rfl rfl ?_
  refine op_notF (d := 10) rfl rfl rfl rfl ?_
  refine op_pickT rfl rfl rfl ?_
  refine op_move rfl rfl ?_
  refine op_notF (d := 15) rfl rfl rfl rfl ?_
  refine op_notF (d := 15) rfl rfl rfl rfl ?_
  refine op_notF (d := 15) rfl rfl rfl rfl ?_
  refine op_pickT rfl rfl rfl ?_
  refine op_move rfl rfl ?_
  refine op_notF (d := 20) rfl rfl rfl rfl ?_
  refine op_notF (d := 20) rfl rfl rfl rfl ?_
  refine op_notF (d := 20) rfl rfl rfl rfl ?_
  refine op_pickT rfl rfl rfl ?_
  refine endF (XF.thenN ?_)
  refine condT rfl ?_
  refine seqF (regF ?_)
  refine op_assign rfl rfl ?_
  refine endF (XF.thenN ?_)
  refine retF ?_
  refine XF.thenR ?_
  refine XF.res (res1 Try.results69 rfl) ?_
  exact ⟨rbool (by unfold ashapeB; rw [if_pos (by omega)]), hS.below⟩
 ·have hg10 := of_decide_eq_false hc; clear hc
  refine op_wantedF (d := 10) rfl rfl ?_
  refine op_field (o' := 3) fa_60_1 rfl rfl rfl ?_
  refine op_wantedF (d := 10) rfl rfl ?_
  refine op_load Try.isAgg3 rfl (cell_own (hS.at_ 0 rfl) rfl) rfl ?_
  refine op_wantedF (d := 10) rfl rfl ?_
  refine op_gtr rfl rfl rfl ?_
  refine op_pickF rfl rfl rfl ?_
  refine op_move rfl rfl ?_
  refine op_cases (d := 15) rfl (fun hc => ?_) (fun hc => ?_)
  ·have hg15 := of_decide_eq_true hc; clear hc
   refine op_notF (d := 15) rfl rfl rfl rfl ?_
   refine op_notF (d := 15) rfl rfl rfl rfl ?_
   refine op_notF (d := 15) rfl rfl rfl rfl ?_
   refine op_pickT rfl rfl rfl ?_
   refine op_move rfl rfl ?_
   refine op_notF (d := 20) rfl rfl rfl rfl ?_
   refine op_notF (d := 20) rfl rfl rfl rfl ?_
   refine op_notF (d := 20) rfl rfl rfl rfl ?_
   refine op_pickT rfl rfl rfl ?_
   refine endF (XF.thenN ?_)
   refine condT rfl ?_
   refine seqF (regF ?_)
   refine op_assign rfl rfl ?_
   refine endF (XF.thenN ?_)
   refine retF ?_
   refine XF.thenR ?_
   refine XF.res (res1 Try.results69 rfl) ?_
   exact ⟨rbool (by unfold ashapeB; rw [if_pos (by omega)]), hS.below⟩
  ·have hg15 := of_decide_eq_false hc; clear hc
   refine op_wantedF (d := 15) rfl rfl ?_
   refine op_field (o' := 4) fa_60_2 rfl rfl rfl ?_
   refine op_wantedF (d := 15) rfl rfl ?_
   refine op_load Try.isAgg3 rfl (cell_own (hS.at_ 0 rfl) rfl) rfl ?_
   refine op_wantedF (d := 15) rfl rfl ?_
   refine op_lss rfl rfl rfl ?_
   refine op_pickF rfl rfl rfl ?_
   refine op_move rfl rfl ?_
   refine op_cases (d := 20) rfl (fun hc => ?_) (fun hc => ?_)
   ·have hg20 := of_decide_eq_true hc; clear hc
    refine op_notF (d := 20) rfl rfl rfl rfl ?_
    refine op_notF (d := 20) rfl rfl rfl rfl ?_
    refine op_notF (d := 20) rfl rfl rfl rfl ?_
    refine op_pickT rfl rfl rfl ?_
    refine endF (XF.thenN ?_)
    refine condT rfl ?_
    refine seqF (regF ?_)
    refine op_assign rfl rfl ?_
    refine endF (XF.thenN ?_)
    refine retF ?_
    refine XF.thenR ?_
    refine XF.res (res1 Try.results69 rfl) ?_
    exact ⟨rbool (by unfold ashapeB; rw [if_pos (by omega)]), hS.below⟩
   ·have hg20 := of_decide_eq_false hc; clear hc
    refine op_wantedF (d := 20) rfl rfl ?_
    refine op_field (o' := 4) fa_60_2 rfl rfl rfl ?_
    refine op_wantedF (d := 20) rfl rfl ?_
    refine op_load Try.isAgg3 rfl (cell_own (hS.at_ 0 rfl) rfl) rfl ?_
    refine op_wantedF (d := 20) rfl rfl ?_
    refine op_gtr rfl rfl rfl ?_
    refine op_pickF rfl rfl rfl ?_
    refine endF (XF.thenN ?_)
    refine condF rfl (fun hc => ?_) (fun hc => ?_)
    ·have hc24 := of_decide_eq_true hc; clear hc
     refine seqF (regF ?_)
     refine op_assign rfl rfl ?_
     refine endF (XF.thenN ?_)
     refine retF ?_
     refine XF.thenR ?_
     refine XF.res (res1 Try.results69 rfl) ?_
     exact ⟨rbool (by unfold ashapeB; rw [if_pos (by omega)]), hS.below⟩
    ·have hc24 := of_decide_eq_false hc; clear hc
     have h2 : ¬ (st < 0 ∨ 4096 < st ∨ sy < 0 ∨ 4096 < sy) := by omega
     refine skipF ?_
     refine XF.thenN ?_
     refine seqF ?_
     refine seqF (regF ?_)
     refine op_field (o' := 5) fa_60_3 rfl rfl rfl ?_
     refine op_load Try.isAgg29 rfl (cell_own (hS.at_ 0 rfl) rfl) rfl ?_
     refine op_len Try.underlying29 rfl rfl ?_
     refine op_move rfl rfl ?_
     refine endF (XF.thenN ?_)
     refine blockF ?_
     refine loopF (fun m l W => ∃ i : Nat, i ≤ fl ∧ m = fl - i ∧ l = [(1, .pointer (some ⟨B1, 0, none⟩)), (26, .slice fa fl fc), (27, .int .i64 (fl : Int)), (28, .int .i64 (i : Int))] ∧ (∀ j, j < i → finOk st fs j = true) ∧ St w [(B1, [.int .i64 s.f.tag, .int .i64 s.f.dim, .slice s.f.a s.f.len s.f.cap, .int .i64 st, .int .i64 sy, .slice fa fl fc, .slice ta tl tc], 60)] [] [] W) (fl - 0) ([(1, _), (26, _), (27, _), (28, _)]) ⟨rfl, rfl, rfl, rfl, trivial⟩ (⟨0, Nat.zero_le _, rfl, rfl, fun j hj => absurd hj (Nat.not_lt_zero _), hS.clear⟩) ?_
     clear hS
     rintro m l W ⟨i, hi, rfl, rfl, hall, hS⟩
     refine seqF (regF ?_)
     refine op_lss rfl rfl rfl ?_
     refine endF (XF.thenN ?_)
     refine seqF ?_
     refine condF rfl (fun hc => ?_) (fun hc => ?_)
     ·have hc29 := of_decide_eq_true hc; clear hc
      have hk : i < fl := by omega
      obtain ⟨b, off, y, rfl, hy, hyc⟩ := hfrow.at1 (show i < fs.length by omega)
      have k1 := hS.old hyc
      refine skipF ?_
      refine XF.thenN ?_
      refine seqF ?_
      refine blockF ?_
      refine seqF (regF ?_)
      refine op_move rfl rfl ?_
      refine op_indexA  Try.underlying29 Try.sizeOf3 rfl rfl rfl (by omega) rfl rfl ?_
      refine op_load Try.isAgg3 rfl (k1) rfl ?_
      refine op_assign rfl rfl ?_
      refine op_assign rfl rfl ?_
      refine endF (XF.thenN ?_)
      refine seqF (regF ?_)
      refine op_loadA (vs := [_, _, _, _, _, _, _]) Try.isAgg60 Try.sizeOf60 rfl (CellsAt.own (j := 0) (m := 7) (hS.at_ 0 rfl) rfl) rfl ?_
      refine op_move rfl rfl ?_
      refine op_call (vs := [_, _]) hS goes_97 rfl (isStW_is ⟨s, st, sy, _, fl, fc, fs, ta, tl, tc, ts⟩ y _) rfl ?_
      rintro e W2 ⟨rfl, hb⟩
      refine ⟨_, rfl, hb, fun hS' => ?_⟩
      clear hS; have hS := hS'; clear hS' hb
      refine op_not rfl rfl ?_
      refine op_move rfl rfl ?_
      refine op_cases (d := 37) rfl (fun hc => ?_) (fun hc => ?_)
      ·have hg37 := hc; clear hc
       have e1 : inQ y st = false := by simpa using hg37
       refine op_notF (d := 37) rfl rfl rfl rfl ?_
       refine op_notF (d := 37) rfl rfl rfl rfl ?_
       refine op_notF (d := 37) rfl rfl rfl rfl ?_
       refine op_unF (d := 40) rfl rfl rfl ?_
       refine op_unF (d := 40) rfl rfl rfl ?_
       refine op_unF (d := 40) rfl rfl rfl ?_
       refine op_unF (d := 40) rfl rfl rfl ?_
       refine op_unF (d := 40) rfl rfl rfl ?_
       refine op_unF (d := 40) rfl rfl rfl ?_
       refine op_unF (d := 40) rfl rfl rfl ?_
       refine op_unF (d := 40) rfl rfl rfl ?_
       refine op_notF (d := 37) rfl rfl rfl rfl ?_
       refine op_pickT rfl rfl rfl ?_
       refine endF (XF.thenN ?_)
       refine condT rfl ?_
       refine seqF (regF ?_)
       refine op_assign rfl rfl ?_
       refine endF (XF.thenN ?_)
       refine retF ?_
       refine XF.blkR ?_
       refine XF.thenR ?_
       refine XF.thenR ?_
       refine XF.blkR ?_
       refine XF.thenR ?_
       refine XF.res (res1 Try.results69 rfl) ?_
       exact ⟨rbool (by unfold ashapeB; rw [if_neg h2, finB_no (i := i) (by omega) (finOk_out hy e1), Bool.false_and]), hS.below⟩
      ·have hg37 := hc; clear hc
       have e1 : inQ y st = true := by simpa using hg37
       refine op_wantedF (d := 37) rfl rfl ?_
       refine op_move rfl rfl ?_
       refine op_wantedF (d := 37) rfl rfl ?_
       refine op_gtr rfl rfl rfl ?_
       refine op_wantedF (d := 37) rfl rfl ?_
       refine op_move rfl rfl ?_
       refine op_cases (d := 40) rfl (fun hc => ?_) (fun hc => ?_)
       ·have hg40 := of_decide_eq_true hc; clear hc
        obtain ⟨b2, off2, z, e2, hz, hzc⟩ := hfrow.at1 (show i - 1 < fs.length by omega)
        cases e2
        have k2 := hS.old hzc
        refine op_wantedF (d := 40) rfl rfl ?_
        refine op_move rfl rfl ?_
        refine op_wantedF (d := 40) rfl rfl ?_
        refine op_field (o' := 5) fa_60_3 rfl rfl rfl ?_
        refine op_wantedF (d := 40) rfl rfl ?_
        refine op_load Try.isAgg29 rfl (cell_own (hS.at_ 0 rfl) rfl) rfl ?_
        refine op_wantedF (d := 40) rfl rfl ?_
        refine op_move rfl rfl ?_
        refine op_wantedF (d := 40) rfl rfl ?_
        refine op_sub rfl rfl (IntWalk.i64_in _ (by omega)) rfl ?_
        refine op_wantedF (d := 40) rfl rfl ?_
        refine op_indexA (j := (i - 1)) Try.underlying29 Try.sizeOf3 rfl rfl (by omega) (by omega) rfl rfl ?_
        refine op_wantedF (d := 40) rfl rfl ?_
        refine op_load Try.isAgg3 rfl (k2) rfl ?_
        refine op_wantedF (d := 40) rfl rfl ?_
        refine op_leq rfl rfl rfl ?_
        refine op_wantedF (d := 37) rfl rfl ?_
        refine op_pickT rfl rfl rfl ?_
        refine op_pickF rfl rfl rfl ?_
        refine endF (XF.thenN ?_)
        refine condF rfl (fun hc => ?_) (fun hc => ?_)
        ·have hc50 := of_decide_eq_true hc; clear hc
         refine seqF (regF ?_)
         refine op_assign rfl rfl ?_
         refine endF (XF.thenN ?_)
         refine retF ?_
         refine XF.blkR ?_
         refine XF.thenR ?_
         refine XF.thenR ?_
         refine XF.blkR ?_
         refine XF.thenR ?_
         refine XF.res (res1 Try.results69 rfl) ?_
         exact ⟨rbool (by unfold ashapeB; rw [if_neg h2, finB_no (i := i) (by omega) (by rw [finOk_pos hy hz e1 (by omega)]; exact decide_eq_false (by omega)), Bool.false_and]), hS.below⟩
        ·have hc50 := of_decide_eq_false hc; clear hc
         refine skipF ?_
         refine XF.blkN ?_
         refine XF.thenN ?_
         refine regF ?_
         refine op_add rfl rfl (IntWalk.i64_in _ (by omega)) rfl ?_
         refine op_move rfl rfl ?_
         refine endF ?_
         exact XF.round (fl - (i + 1)) [(1, _), (26, _), (27, _), (28, _)] (by omega) ⟨rfl, rfl, rfl, rfl, trivial⟩ ⟨i + 1, by omega, rfl, rfl, fin_next hall (by rw [finOk_pos hy hz e1 (by omega)]; exact decide_eq_true (by omega)), hS.clear⟩
       ·have hg40 := of_decide_eq_false hc; clear hc
        refine op_notF (d := 40) rfl rfl rfl rfl ?_
        refine op_notF (d := 40) rfl rfl rfl rfl ?_
        refine op_notF (d := 40) rfl rfl rfl rfl ?_
        refine op_notF (d := 40) rfl rfl rfl rfl ?_
        refine op_notF (d := 40) rfl rfl rfl rfl ?_
        refine op_notF (d := 40) rfl rfl rfl rfl ?_
        refine op_notF (d := 40) rfl rfl rfl rfl ?_
        refine op_notF (d := 40) rfl rfl rfl rfl ?_
        refine op_wantedF (d := 37) rfl rfl ?_
        refine op_pickF rfl rfl rfl ?_
        refine op_pickF rfl rfl rfl ?_
        refine endF (XF.thenN ?_)
        refine condN rfl ?_
        refine skipF ?_
        refine XF.blkN ?_
        refine XF.thenN ?_
        refine regF ?_
        refine op_add rfl rfl (IntWalk.i64_in _ (by omega)) rfl ?_
        refine op_move rfl rfl ?_
        refine endF ?_
        exact XF.round (fl - (i + 1)) [(1, _), (26, _), (27, _), (28, _)] (by omega) ⟨rfl, rfl, rfl, rfl, trivial⟩ ⟨i + 1, by omega, rfl, rfl, fin_next hall (finOk_zero hy e1 (by omega)), hS.clear⟩
     ·have hc29 := of_decide_eq_false hc; clear hc
      have hfb : finB st fs = true := finB_of fun j hj => hall j (by omega)
      refine exitF ?_
      refine XF.thenX ?_
      refine XF.thenX ?_
      refine XF.blkX ?_
      refine XF.thenN ?_
      refine seqF ?_
      refine seqF (regF ?_)
      refine op_field (o' := 6) fa_60_4 rfl rfl rfl ?_
      refine op_load Try.isAgg58 rfl (cell_own (hS.at_ 0 rfl) rfl) rfl ?_
      refine op_len Try.underlying58 rfl rfl ?_
      refine op_move rfl rfl ?_
      refine endF (XF.thenN ?_)
      refine blockF ?_
      refine loopF (fun m l W => ∃ i : Nat, i ≤ tl ∧ m = tl - i ∧ l = [(1, .pointer (some ⟨B1, 0, none⟩)), (53, .slice ta tl tc), (54, .int .i64 (tl : Int)), (55, .int .i64 (i : Int))] ∧ (ts.take i).all (trB st sy) = true ∧ St w [(B1, [.int .i64 s.f.tag, .int .i64 s.f.dim, .slice s.f.a s.f.len s.f.cap, .int .i64 st, .int .i64 sy, .slice fa fl fc, .slice ta tl tc], 60)] [] [] W) (tl - 0) ([(1, _), (53, _), (54, _), (55, _)]) ⟨rfl, rfl, rfl, rfl, trivial⟩ (⟨0, Nat.zero_le _, rfl, rfl, rfl, hS.clear⟩) ?_
      clear hS
      rintro m l W ⟨i, hi, rfl, rfl, hall, hS⟩
      refine seqF (regF ?_)
      refine op_lss rfl rfl rfl ?_
      refine endF (XF.thenN ?_)
      refine seqF ?_
      refine condF rfl (fun hc => ?_) (fun hc => ?_)
      ·have hc56 := of_decide_eq_true hc; clear hc
       have hk : i < tl := by omega
       obtain ⟨r, hr⟩ : ∃ r, ts[i]? = some r := ⟨ts[i]'(by omega), by simp [show i < ts.length by omega]⟩
       obtain ⟨b, off, rfl, hcs⟩ := htrow.at_ hr
       have k1 := CellsAt.agree hS.agree (Nat.zero_le _) hcs
       have hri := htin r (List.mem_of_getElem? hr)
       refine skipF ?_
       refine XF.thenN ?_
       refine seqF ?_
       refine blockF ?_
       refine seqF (regF ?_)
       refine op_indexA  Try.underlying58 Try.sizeOf100 rfl rfl rfl (by omega) rfl rfl ?_
       refine op_loadA (vs := [_, _, _, _, _, _, _, _, _]) Try.isAgg100 Try.sizeOf100 rfl (k1) rfl ?_
       refine op_alloc (cs := [_, _, _, _, _, _, _, _, _]) hS Try.zeroValue100 rfl rfl ?_
       clear hS; intro B3 W3 hS
       refine op_storeA (i := 0) (vs := [_, _, _, _, _, _, _, _, _]) (cs' := [_, _, _, _, _, _, _, _, _]) (O' := [_, _]) hS Try.sizeOf100 rfl rfl rfl rfl rfl rfl rfl ?_
       clear hS; intro W4 hS
       refine endF (XF.thenN ?_)
       refine seqF (regF ?_)
       refine op_loadA (vs := [_, _, _, _, _, _, _]) Try.isAgg60 Try.sizeOf60 rfl (CellsAt.own (j := 0) (m := 7) (hS.at_ 1 rfl) rfl) rfl ?_
       refine op_field (o' := 0) fa_100_0 rfl rfl rfl ?_
       refine op_load Try.isAgg3 rfl (cell_own (hS.at_ 0 rfl) rfl) rfl ?_
       refine op_call (vs := [_, _]) hS goes_97 rfl (isStW_is ⟨s, st, sy, fa, fl, fc, fs, _, tl, tc, ts⟩ r.f _) rfl ?_
       rintro e W5 ⟨rfl, hb⟩
       refine ⟨_, rfl, hb, fun hS' => ?_⟩
       clear hS; have hS := hS'; clear hS' hb
       refine op_not rfl rfl ?_
       refine op_move rfl rfl ?_
       refine op_cases (d := 64) rfl (fun hc => ?_) (fun hc => ?_)
       ·have hg64 := hc; clear hc
        have e1 : inQ r.f st = false := by simpa using hg64
        refine op_notF (d := 64) rfl rfl rfl rfl ?_
        refine op_notF (d := 64) rfl rfl rfl rfl ?_
        refine op_notF (d := 64) rfl rfl rfl rfl ?_
        refine op_notF (d := 64) rfl rfl rfl rfl ?_
        refine op_notF (d := 64) rfl rfl rfl rfl ?_
        refine op_pickT rfl rfl rfl ?_
        refine op_move rfl rfl ?_
        refine op_notF (d := 71) rfl rfl rfl rfl ?_
        refine op_notF (d := 71) rfl rfl rfl rfl ?_
        refine op_notF (d := 71) rfl rfl rfl rfl ?_
        refine op_pickT rfl rfl rfl ?_
        refine op_move rfl rfl ?_
        refine op_notF (d := 76) rfl rfl rfl rfl ?_
        refine op_notF (d := 76) rfl rfl rfl rfl ?_
        refine op_notF (d := 76) rfl rfl rfl rfl ?_
        refine op_notF (d := 76) rfl rfl rfl rfl ?_
        refine op_notF (d := 76) rfl rfl rfl rfl ?_
        refine op_pickT rfl rfl rfl ?_
        refine endF (XF.thenN ?_)
        refine condT rfl ?_
        refine seqF (regF ?_)
        refine op_assign rfl rfl ?_
        refine endF (XF.thenN ?_)
        refine retF ?_
        refine XF.blkR ?_
        refine XF.thenR ?_
        refine XF.thenR ?_
        refine XF.blkR ?_
        refine XF.thenR ?_
        refine XF.res (res1 Try.results69 rfl) ?_
        exact ⟨rbool (by unfold ashapeB; rw [if_neg h2, all_false_at hr (by simp [trB, e1]), Bool.and_false]), hS.below⟩
       ·have hg64 := hc; clear hc
        have e1 : inQ r.f st = true := by simpa using hg64
        refine op_wantedF (d := 64) rfl rfl ?_
        refine op_loadA (vs := [_, _, _, _, _, _, _]) Try.isAgg60 Try.sizeOf60 rfl (CellsAt.own (j := 0) (m := 7) (hS.at_ 1 rfl) rfl) rfl ?_
        refine op_wantedF (d := 64) rfl rfl ?_
        refine op_field (o' := 2) fa_100_2 rfl rfl rfl ?_
        refine op_wantedF (d := 64) rfl rfl ?_
        refine op_load Try.isAgg3 rfl (cell_own (hS.at_ 0 rfl) rfl) rfl ?_
        refine op_wantedF (d := 64) rfl rfl ?_
        refine op_call (vs := [_, _]) hS goes_97 rfl (isStW_is ⟨s, st, sy, fa, fl, fc, fs, _, tl, tc, ts⟩ r.t _) rfl ?_
        rintro e W6 ⟨rfl, hb⟩
        refine ⟨_, rfl, hb, fun hS' => ?_⟩
        clear hS; have hS := hS'; clear hS' hb
        refine op_wantedF (d := 64) rfl rfl ?_
        refine op_not rfl rfl ?_
        refine op_pickF rfl rfl rfl ?_
        refine op_move rfl rfl ?_
        refine op_cases (d := 71) rfl (fun hc => ?_) (fun hc => ?_)
        ·have hg71 := hc; clear hc
         have e3 : inQ r.t st = false := by simpa using hg71
         refine op_notF (d := 71) rfl rfl rfl rfl ?_
         refine op_notF (d := 71) rfl rfl rfl rfl ?_
         refine op_notF (d := 71) rfl rfl rfl rfl ?_
         refine op_pickT rfl rfl rfl ?_
         refine op_move rfl rfl ?_
         refine op_notF (d := 76) rfl rfl rfl rfl ?_
         refine op_notF (d := 76) rfl rfl rfl rfl ?_
         refine op_notF (d := 76) rfl rfl rfl rfl ?_
         refine op_notF (d := 76) rfl rfl rfl rfl ?_
         refine op_notF (d := 76) rfl rfl rfl rfl ?_
         refine op_pickT rfl rfl rfl ?_
         refine endF (XF.thenN ?_)
         refine condT rfl ?_
         refine seqF (regF ?_)
         refine op_assign rfl rfl ?_
         refine endF (XF.thenN ?_)
         refine retF ?_
         refine XF.blkR ?_
         refine XF.thenR ?_
         refine XF.thenR ?_
         refine XF.blkR ?_
         refine XF.thenR ?_
         refine XF.res (res1 Try.results69 rfl) ?_
         exact ⟨rbool (by unfold ashapeB; rw [if_neg h2, all_false_at hr (by simp [trB, e3]), Bool.and_false]), hS.below⟩
        ·have hg71 := hc; clear hc
         have e3 : inQ r.t st = true := by simpa using hg71
         refine op_wantedF (d := 71) rfl rfl ?_
         refine op_field (o' := 1) fa_100_1 rfl rfl rfl ?_
         refine op_wantedF (d := 71) rfl rfl ?_
         refine op_load Try.isAgg3 rfl (cell_own (hS.at_ 0 rfl) rfl) rfl ?_
         refine op_wantedF (d := 71) rfl rfl ?_
         refine op_lss rfl rfl rfl ?_
         refine op_pickF rfl rfl rfl ?_
         refine op_move rfl rfl ?_
         refine op_cases (d := 76) rfl (fun hc => ?_) (fun hc => ?_)
         ·have hg76 := of_decide_eq_true hc; clear hc
          refine op_notF (d := 76) rfl rfl rfl rfl ?_
          refine op_notF (d := 76) rfl rfl rfl rfl ?_
          refine op_notF (d := 76) rfl rfl rfl rfl ?_
          refine op_notF (d := 76) rfl rfl rfl rfl ?_
          refine op_notF (d := 76) rfl rfl rfl rfl ?_
          refine op_pickT rfl rfl rfl ?_
          refine endF (XF.thenN ?_)
          refine condT rfl ?_
          refine seqF (regF ?_)
          refine op_assign rfl rfl ?_
          refine endF (XF.thenN ?_)
          refine retF ?_
          refine XF.blkR ?_
          refine XF.thenR ?_
          refine XF.thenR ?_
          refine XF.blkR ?_
          refine XF.thenR ?_
          refine XF.res (res1 Try.results69 rfl) ?_
          exact ⟨rbool (by unfold ashapeB; rw [if_neg h2, all_false_at hr (by simp [trB, show ¬ (-1 ≤ r.g) by omega]), Bool.and_false]), hS.below⟩
         ·have hg76 := of_decide_eq_false hc; clear hc
          refine op_wantedF (d := 76) rfl rfl ?_
          refine op_field (o' := 1) fa_100_1 rfl rfl rfl ?_
          refine op_wantedF (d := 76) rfl rfl ?_
          refine op_load Try.isAgg3 rfl (cell_own (hS.at_ 0 rfl) rfl) rfl ?_
          refine op_wantedF (d := 76) rfl rfl ?_
          refine op_field (o' := 4) fa_60_2 rfl rfl rfl ?_
          refine op_wantedF (d := 76) rfl rfl ?_
          refine op_load Try.isAgg3 rfl (cell_own (hS.at_ 1 rfl) rfl) rfl ?_
          refine op_wantedF (d := 76) rfl rfl ?_
          refine op_geq rfl rfl rfl ?_
          refine op_pickF rfl rfl rfl ?_
          refine endF (XF.thenN ?_)
          refine condF rfl (fun hc => ?_) (fun hc => ?_)
          ·have hc82 := of_decide_eq_true hc; clear hc
           refine seqF (regF ?_)
           refine op_assign rfl rfl ?_
           refine endF (XF.thenN ?_)
           refine retF ?_
           refine XF.blkR ?_
           refine XF.thenR ?_
           refine XF.thenR ?_
           refine XF.blkR ?_
           refine XF.thenR ?_
           refine XF.res (res1 Try.results69 rfl) ?_
           exact ⟨rbool (by unfold ashapeB; rw [if_neg h2, all_false_at hr (by simp [trB, show ¬ (r.g < sy) by omega]), Bool.and_false]), hS.below⟩
          ·have hc82 := of_decide_eq_false hc; clear hc
           refine skipF ?_
           refine XF.blkN ?_
           refine XF.thenN ?_
           refine regF ?_
           refine op_add rfl rfl (IntWalk.i64_in _ (by omega)) rfl ?_
           refine op_move rfl rfl ?_
           refine endF ?_
           exact XF.round (tl - (i + 1)) [(1, _), (53, _), (54, _), (55, _)] (by omega) ⟨rfl, rfl, rfl, rfl, trivial⟩ ⟨i + 1, by omega, rfl, rfl, all_take_at hr hall (by simp only [trB, e1, e3, Bool.true_and]; rw [decide_eq_true (show -1 ≤ r.g by omega), decide_eq_true (show r.g < sy by omega)]; rfl), hS.tail.clear⟩
      ·have hc56 := of_decide_eq_false hc; clear hc
       rw [List.take_of_length_le (by omega)] at hall
       refine exitF ?_
       refine XF.thenX ?_
       refine XF.thenX ?_
       refine XF.blkX ?_
       refine XF.thenN ?_
       refine seqF (regF ?_)
       refine op_assign rfl rfl ?_
       refine endF (XF.thenN ?_)
       refine retF ?_
       refine XF.res (res1 Try.results69 rfl) ?_
       exact ⟨rbool (by unfold ashapeB; rw [if_neg h2, hfb, hall, Bool.true_and]), hS.below⟩
theorem ashapeW_is (ds d : Nat) (a : AV) (w : World) (h : AIn w ds d a) : Calls Try.prog 69 #[a.val] w (fun e w' => e = .returned (.bool (ashapeB a.st a.sy a.fs a.ts)) ∧ Below w.heap.size w w') := ashapeW_c ds d _ _ _ _ _ _ _ _ _ _ _ w h.s h.frow h.flen h.trow h.tlen h.tin h.fmax h.tmax
theorem autoA_c (ds d : Nat) (s : SV) (st sy : Int) (fa : Option Addr) (fl fc : Nat) (fs : List Int) (ta : Option Addr) (tl tc : Nat) (ts : List TV) (w : World) (hs : SIn w ds s) (hfrow : Row w fa fs) (hflen : fs.length = fl) (htrow : TRow w ta ts) (htlen : ts.length = tl) (htin : ∀ t ∈ ts, WIn w d t.x) (hfm : fl ≤ 9223372036854775807) (htm : tl ≤ 9223372036854775807) :
  Calls Try.prog 39 #[.agg #[.int .i64 s.f.tag, .int .i64 s.f.dim, .slice s.f.a s.f.len s.f.cap, .int .i64 st, .int .i64 sy, .slice fa fl fc, .slice ta tl tc]] w (fun e w' => e = .returned (.int .i64 (autoE ⟨s, st, sy, fa, fl, fc, fs, ta, tl, tc, ts⟩)) ∧ Below w.heap.size w w') := by
 refine enterF (args := [.agg #[.int .i64 s.f.tag, .int .i64 s.f.dim, .slice s.f.a s.f.len s.f.cap, .int .i64 st, .int .i64 sy, .slice fa fl fc, .slice ta tl tc]]) Try.func39 rfl Try.ntmps39 rfl ?_
 have hS := St.start w
 refine seqF (regF ?_)
 refine op_box (cs := [_, _, _, _, _, _, _]) hS rfl rfl rfl ?_
 clear hS; intro B1 W1 hS
 refine op_assign rfl rfl ?_
 refine endF (XF.thenN ?_)
 refine seqF ?_
 refine seqF (regF ?_)
 refine op_field (o' := 0) fa_60_0 rfl rfl rfl ?_
 refine op_loadA (vs := [_, _, _]) Try.isAgg25 Try.sizeOf25 rfl (CellsAt.own (j := 0) (m := 3) (hS.at_ 0 rfl) rfl) rfl ?_
 refine op_call (vs := [_]) hS goes_56 rfl (spaceA_is ds s _ _ (SIn.below hS.below hs) rfl) rfl ?_
 rintro e W2 ⟨rfl, hb⟩
 refine ⟨_, rfl, hb, fun hS' => ?_⟩
 clear hS; have hS := hS'; clear hS' hb
 refine op_assign rfl rfl ?_
 refine endF (XF.thenN ?_)
 refine seqF (regF ?_)
 refine op_move rfl rfl ?_
 refine op_neq rfl rfl rfl ?_
 refine endF (XF.thenN ?_)
 refine condF rfl (fun hc => ?_) (fun hc => ?_)
 ·have hc11 := of_decide_eq_true hc; clear hc
  refine seqF (regF ?_)
  refine op_move rfl rfl ?_
  refine op_assign rfl rfl ?_
  refine endF (XF.thenN ?_)
  refine retF ?_
  refine XF.thenR ?_
  refine XF.res (res1 Try.results39 rfl) ?_
  exact ⟨rint (by unfold autoE; dsimp only; rw [if_pos hc11]), hS.below⟩
 ·have hc11 := of_decide_eq_false hc; clear hc
  have h0 : ¬ spaceE s ≠ 0 := hc11
  have hse : spaceE s = 0 := by omega
  refine skipF ?_
  refine XF.thenN ?_
  refine seqF ?_
  refine seqF (regF ?_)
  refine op_field (o' := 6) fa_60_4 rfl rfl rfl ?_
  refine op_load Try.isAgg58 rfl (cell_own (hS.at_ 0 rfl) rfl) rfl ?_
  refine op_len Try.underlying58 rfl rfl ?_
  refine op_gtr rfl rfl rfl ?_
  refine endF (XF.thenN ?_)
  refine condF rfl (fun hc => ?_) (fun hc => ?_)
  ·have hc16 := of_decide_eq_true hc; clear hc
   refine seqF (regF ?_)
   refine op_assign rfl rfl ?_
   refine endF (XF.thenN ?_)
   refine retF ?_
   refine XF.thenR ?_
   refine XF.res (res1 Try.results39 rfl) ?_
   exact ⟨rint (by unfold autoE; dsimp only; rw [if_neg h0, if_pos (by omega)]), hS.below⟩
  ·have hc16 := of_decide_eq_false hc; clear hc
   have h1 : ¬ 65536 < tl := by omega
   refine skipF ?_
   refine XF.thenN ?_
   refine seqF ?_
   refine seqF (regF ?_)
   refine op_loadA (vs := [_, _, _, _, _, _, _]) Try.isAgg60 Try.sizeOf60 rfl (CellsAt.own (j := 0) (m := 7) (hS.at_ 0 rfl) rfl) rfl ?_
   refine op_call (vs := [_]) hS goes_69 rfl (ashapeW_is ds d ⟨s, st, sy, fa, fl, fc, fs, ta, tl, tc, ts⟩ _ (AIn.below ⟨hs, hfrow, hflen, htrow, htlen, htin, hfm, htm⟩ hS.below)) rfl ?_
   rintro e W3 ⟨rfl, hb⟩
   refine ⟨_, rfl, hb, fun hS' => ?_⟩
   clear hS; have hS := hS'; clear hS' hb
   refine op_not rfl rfl ?_
   refine endF (XF.thenN ?_)
   refine condF rfl (fun hc => ?_) (fun hc => ?_)
   ·have hc19 := hc; clear hc
    refine seqF (regF ?_)
    refine op_assign rfl rfl ?_
    refine endF (XF.thenN ?_)
    refine retF ?_
    refine XF.thenR ?_
    refine XF.res (res1 Try.results39 rfl) ?_
    exact ⟨rint (by unfold autoE; dsimp only; rw [if_neg h0, if_neg h1, if_pos (by simpa using hc19)]), hS.below⟩
   ·have hc19 := hc; clear hc
    have h3 : ¬ ashapeB st sy fs ts = false := by simpa using hc19
    refine skipF ?_
    refine XF.thenN ?_
    refine seqF ?_
    refine seqF (regF ?_)
    refine op_field (o' := 6) fa_60_4 rfl rfl rfl ?_
    refine op_load Try.isAgg58 rfl (cell_own (hS.at_ 0 rfl) rfl) rfl ?_
    refine op_len Try.underlying58 rfl rfl ?_
    refine op_move rfl rfl ?_
    refine endF (XF.thenN ?_)
    refine blockF ?_
    refine loopF (fun m l W => ∃ i : Nat, i ≤ tl ∧ m = tl - i ∧ l = [(1, .pointer (some ⟨B1, 0, none⟩)), (21, .slice ta tl tc), (22, .int .i64 (tl : Int)), (23, .int .i64 (i : Int))] ∧ (ts.take i).all (fun t => decide (chkW s t.x = 0)) = true ∧ St w [(B1, [.int .i64 s.f.tag, .int .i64 s.f.dim, .slice s.f.a s.f.len s.f.cap, .int .i64 st, .int .i64 sy, .slice fa fl fc, .slice ta tl tc], 60)] [] [] W) (tl - 0) ([(1, _), (21, _), (22, _), (23, _)]) ⟨rfl, rfl, rfl, rfl, trivial⟩ (⟨0, Nat.zero_le _, rfl, rfl, rfl, hS.clear⟩) ?_
    clear hS
    rintro m l W ⟨i, hi, rfl, rfl, hall, hS⟩
    refine seqF (regF ?_)
    refine op_lss rfl rfl rfl ?_
    refine endF (XF.thenN ?_)
    refine seqF ?_
    refine condF rfl (fun hc => ?_) (fun hc => ?_)
    ·have hc24 := of_decide_eq_true hc; clear hc
     have hk : i < tl := by omega
     obtain ⟨r, hr⟩ : ∃ r, ts[i]? = some r := ⟨ts[i]'(by omega), by simp [show i < ts.length by omega]⟩
     obtain ⟨b, off, rfl, hcs⟩ := htrow.at_ hr
     have k1 := CellsAt.agree hS.agree (Nat.zero_le _) hcs
     have hri := htin r (List.mem_of_getElem? hr)
     refine skipF ?_
     refine XF.thenN ?_
     refine seqF ?_
     refine blockF ?_
     refine seqF (regF ?_)
     refine op_indexA  Try.underlying58 Try.sizeOf100 rfl rfl rfl (by omega) rfl rfl ?_
     refine op_loadA (vs := [_, _, _, _, _, _, _, _, _]) Try.isAgg100 Try.sizeOf100 rfl (k1) rfl ?_
     refine op_alloc (cs := [_, _, _, _, _, _, _, _, _]) hS Try.zeroValue100 rfl rfl ?_
     clear hS; intro B4 W4 hS
     refine op_storeA (i := 0) (vs := [_, _, _, _, _, _, _, _, _]) (cs' := [_, _, _, _, _, _, _, _, _]) (O' := [_, _]) hS Try.sizeOf100 rfl rfl rfl rfl rfl rfl rfl ?_
     clear hS; intro W5 hS
     refine endF (XF.thenN ?_)
     refine seqF (regF ?_)
     refine op_field (o' := 0) fa_60_0 rfl rfl rfl ?_
     refine op_loadA (vs := [_, _, _]) Try.isAgg25 Try.sizeOf25 rfl (CellsAt.own (j := 0) (m := 3) (hS.at_ 1 rfl) rfl) rfl ?_
     refine op_field (o' := 3) fa_100_3 rfl rfl rfl ?_
     refine op_loadA (vs := [_, _, _, _, _, _]) Try.isAgg45 Try.sizeOf45 rfl (CellsAt.own (j := 3) (m := 6) (hS.at_ 0 rfl) rfl) rfl ?_
     refine op_call (vs := [_, _]) hS goes_58 rfl (checkA_genY ds d s r.x _ (SIn.below hS.below hs) (WIn.below hS.below hri)) rfl ?_
     rintro e W6 ⟨rfl, hb⟩
     refine ⟨_, rfl, hb, fun hS' => ?_⟩
     clear hS; have hS := hS'; clear hS' hb
     refine op_assign rfl rfl ?_
     refine endF (XF.thenN ?_)
     refine seqF (regF ?_)
     refine op_move rfl rfl ?_
     refine op_neq rfl rfl rfl ?_
     refine endF (XF.thenN ?_)
     refine condF rfl (fun hc => ?_) (fun hc => ?_)
     ·have hc33 := of_decide_eq_true hc; clear hc
      refine seqF (regF ?_)
      refine op_move rfl rfl ?_
      refine op_assign rfl rfl ?_
      refine endF (XF.thenN ?_)
      refine retF ?_
      refine XF.blkR ?_
      refine XF.thenR ?_
      refine XF.thenR ?_
      refine XF.blkR ?_
      refine XF.thenR ?_
      refine XF.res (res1 Try.results39 rfl) ?_
      exact ⟨rint (by unfold autoE; dsimp only; rw [if_neg h0, if_neg h1, if_neg h3, if_neg (by rw [all_false_at hr (decide_eq_false hc33)]; decide), chkW_51 hse hc33]), hS.below⟩
     ·have hc33 := of_decide_eq_false hc; clear hc
      refine skipF ?_
      refine XF.blkN ?_
      refine XF.thenN ?_
      refine regF ?_
      refine op_add rfl rfl (IntWalk.i64_in _ (by omega)) rfl ?_
      refine op_move rfl rfl ?_
      refine endF ?_
      exact XF.round (tl - (i + 1)) [(1, _), (21, _), (22, _), (23, _)] (by omega) ⟨rfl, rfl, rfl, rfl, trivial⟩ ⟨i + 1, by omega, rfl, rfl, all_take_at hr hall (by simpa using hc33), hS.tail.clear⟩
    ·have hc24 := of_decide_eq_false hc; clear hc
     rw [List.take_of_length_le (by omega)] at hall
     refine exitF ?_
     refine XF.thenX ?_
     refine XF.thenX ?_
     refine XF.blkX ?_
     refine XF.thenN ?_
     refine seqF (regF ?_)
     refine op_assign rfl rfl ?_
     refine endF (XF.thenN ?_)
     refine retF ?_
     refine XF.res (res1 Try.results39 rfl) ?_
     exact ⟨rint (by unfold autoE; dsimp only; rw [if_neg h0, if_neg h1, if_neg h3, if_pos hall]), hS.below⟩
theorem autoA_is (ds d : Nat) (a : AV) (w : World) (h : AIn w ds d a) : Calls Try.prog 39 #[a.val] w (fun e w' => e = .returned (.int .i64 (autoE a)) ∧ Below w.heap.size w w') := autoA_c ds d _ _ _ _ _ _ _ _ _ _ _ w h.s h.frow h.flen h.trow h.tlen h.tin h.fmax h.tmax
theorem autoR_c (ds d : Nat) (s : SV) (st sy : Int) (fa : Option Addr) (fl fc : Nat) (fs : List Int) (ta : Option Addr) (tl tc : Nat) (ts : List TV) (w : World) (hs : SIn w ds s) (hfrow : Row w fa fs) (hflen : fs.length = fl) (htrow : TRow w ta ts) (htlen : ts.length = tl) (htin : ∀ t ∈ ts, WIn w d t.x) (hfm : fl ≤ 9223372036854775807) (htm : tl ≤ 9223372036854775807) :
  Calls Try.prog 42 #[.agg #[.int .i64 s.f.tag, .int .i64 s.f.dim, .slice s.f.a s.f.len s.f.cap, .int .i64 st, .int .i64 sy, .slice fa fl fc, .slice ta tl tc]] w (fun e w' => e = .returned (.int .i64 (autoE ⟨s, st, sy, fa, fl, fc, fs, ta, tl, tc, ts⟩)) ∧ Below w.heap.size w w') := by
 refine enterF (args := [.agg #[.int .i64 s.f.tag, .int .i64 s.f.dim, .slice s.f.a s.f.len s.f.cap, .int .i64 st, .int .i64 sy, .slice fa fl fc, .slice ta tl tc]]) Try.func42 rfl Try.ntmps42 rfl ?_
 have hS := St.start w
 refine seqF (regF ?_)
 refine op_box (cs := [_, _, _, _, _, _, _]) hS rfl rfl rfl ?_
 clear hS; intro B1 W1 hS
 refine op_assign rfl rfl ?_
 refine endF (XF.thenN ?_)
 refine seqF (regF ?_)
 refine op_field (o' := 0) fa_60_0 rfl rfl rfl ?_
 refine op_loadA (vs := [_, _, _]) Try.isAgg25 Try.sizeOf25 rfl (CellsAt.own (j := 0) (m := 3) (hS.at_ 0 rfl) rfl) rfl ?_
 refine op_call (vs := [_]) hS goes_34 rfl (spaceR_is ds s _ _ (SIn.below hS.below hs) rfl) rfl ?_
 rintro e W2 ⟨rfl, hb⟩
 refine ⟨_, rfl, hb, fun hS' => ?_⟩
 clear hS; have hS := hS'; clear hS' hb
 refine op_assign rfl rfl ?_
 refine endF (XF.thenN ?_)
 refine seqF ?_
 refine seqF (regF ?_)
 refine op_move rfl rfl ?_
 refine op_neq rfl rfl rfl ?_
 refine endF (XF.thenN ?_)
 refine condF rfl (fun hc => ?_) (fun hc => ?_)
 ·have hc12 := of_decide_eq_true hc; clear hc
  refine seqF (regF ?_)
  refine op_move rfl rfl ?_
  refine op_assign rfl rfl ?_
  refine endF (XF.thenN ?_)
  refine retF ?_
  refine XF.thenR ?_
  refine XF.res (res1 Try.results42 rfl) ?_
  exact ⟨rint (by unfold autoE; dsimp only; rw [if_pos hc12]), hS.below⟩
 ·have hc12 := of_decide_eq_false hc; clear hc
  have h0 : ¬ spaceE s ≠ 0 := hc12
  have hse : spaceE s = 0 := by omega
  refine skipF ?_
  refine XF.thenN ?_
  refine seqF ?_
  refine seqF (regF ?_)
  refine op_field (o' := 6) fa_60_4 rfl rfl rfl ?_
  refine op_load Try.isAgg58 rfl (cell_own (hS.at_ 0 rfl) rfl) rfl ?_
  refine op_len Try.underlying58 rfl rfl ?_
  refine op_gtr rfl rfl rfl ?_
  refine endF (XF.thenN ?_)
  refine condF rfl (fun hc => ?_) (fun hc => ?_)
  ·have hc17 := of_decide_eq_true hc; clear hc
   refine seqF (regF ?_)
   refine op_assign rfl rfl ?_
   refine endF (XF.thenN ?_)
   refine retF ?_
   refine XF.thenR ?_
   refine XF.res (res1 Try.results42 rfl) ?_
   exact ⟨rint (by unfold autoE; dsimp only; rw [if_neg h0, if_pos (by omega)]), hS.below⟩
  ·have hc17 := of_decide_eq_false hc; clear hc
   have h1 : ¬ 65536 < tl := by omega
   refine skipF ?_
   refine XF.thenN ?_
   refine seqF ?_
   refine seqF (regF ?_)
   refine op_field (o' := 3) fa_60_1 rfl rfl rfl ?_
   refine op_load Try.isAgg3 rfl (cell_own (hS.at_ 0 rfl) rfl) rfl ?_
   refine op_lss rfl rfl rfl ?_
   refine op_move rfl rfl ?_
   refine op_cases (d := 21) rfl (fun hc => ?_) (fun hc => ?_)
   ·have hg21 := of_decide_eq_true hc; clear hc
    refine op_notF (d := 21) rfl rfl rfl rfl ?_
    refine op_notF (d := 21) rfl rfl rfl rfl ?_
    refine op_notF (d := 21) rfl rfl rfl rfl ?_
    refine op_pickT rfl rfl rfl ?_
    refine op_move rfl rfl ?_
    refine op_notF (d := 26) rfl rfl rfl rfl ?_
    refine op_notF (d := 26) rfl rfl rfl rfl ?_
    refine op_notF (d := 26) rfl rfl rfl rfl ?_
    refine op_pickT rfl rfl rfl ?_
    refine op_move rfl rfl ?_
    refine op_notF (d := 31) rfl rfl rfl rfl ?_
    refine op_notF (d := 31) rfl rfl rfl rfl ?_
    refine op_notF (d := 31) rfl rfl rfl rfl ?_
    refine op_pickT rfl rfl rfl ?_
    refine endF (XF.thenN ?_)
    refine condT rfl ?_
    refine seqF (regF ?_)
    refine op_assign rfl rfl ?_
    refine endF (XF.thenN ?_)
    refine retF ?_
    refine XF.thenR ?_
    refine XF.res (res1 Try.results42 rfl) ?_
    exact ⟨rint (by unfold autoE; dsimp only; rw [if_neg h0, if_neg h1, if_pos (by unfold ashapeB; rw [if_pos (by omega)])]), hS.below⟩
   ·have hg21 := of_decide_eq_false hc; clear hc
    refine op_wantedF (d := 21) rfl rfl ?_
    refine op_field (o' := 3) fa_60_1 rfl rfl rfl ?_
    refine op_wantedF (d := 21) rfl rfl ?_
    refine op_load Try.isAgg3 rfl (cell_own (hS.at_ 0 rfl) rfl) rfl ?_
    refine op_wantedF (d := 21) rfl rfl ?_
    refine op_gtr rfl rfl rfl ?_
    refine op_pickF rfl rfl rfl ?_
    refine op_move rfl rfl ?_
    refine op_cases (d := 26) rfl (fun hc => ?_) (fun hc => ?_)
    ·have hg26 := of_decide_eq_true hc; clear hc
     refine op_notF (d := 26) rfl rfl rfl rfl ?_
     refine op_notF (d := 26) rfl rfl rfl rfl ?_
     refine op_notF (d := 26) rfl rfl rfl rfl ?_
     refine op_pickT rfl rfl rfl ?_
     refine op_move rfl rfl ?_
     refine op_notF (d := 31) rfl rfl rfl rfl ?_
     refine op_notF (d := 31) rfl rfl rfl rfl ?_
     refine op_notF (d := 31) rfl rfl rfl rfl ?_
     refine op_pickT rfl rfl rfl ?_
     refine endF (XF.thenN ?_)
     refine condT rfl ?_
     refine seqF (regF ?_)
     refine op_assign rfl rfl ?_
     refine endF (XF.thenN ?_)
     refine retF ?_
     refine XF.thenR ?_
     refine XF.res (res1 Try.results42 rfl) ?_
     exact ⟨rint (by unfold autoE; dsimp only; rw [if_neg h0, if_neg h1, if_pos (by unfold ashapeB; rw [if_pos (by omega)])]), hS.below⟩
    ·have hg26 := of_decide_eq_false hc; clear hc
     refine op_wantedF (d := 26) rfl rfl ?_
     refine op_field (o' := 4) fa_60_2 rfl rfl rfl ?_
     refine op_wantedF (d := 26) rfl rfl ?_
     refine op_load Try.isAgg3 rfl (cell_own (hS.at_ 0 rfl) rfl) rfl ?_
     refine op_wantedF (d := 26) rfl rfl ?_
     refine op_lss rfl rfl rfl ?_
     refine op_pickF rfl rfl rfl ?_
     refine op_move rfl rfl ?_
     refine op_cases (d := 31) rfl (fun hc => ?_) (fun hc => ?_)
     ·have hg31 := of_decide_eq_true hc; clear hc
      refine op_notF (d := 31) rfl rfl rfl rfl ?_
      refine op_notF (d := 31) rfl rfl rfl rfl ?_
      refine op_notF (d := 31) rfl rfl rfl rfl ?_
      refine op_pickT rfl rfl rfl ?_
      refine endF (XF.thenN ?_)
      refine condT rfl ?_
      refine seqF (regF ?_)
      refine op_assign rfl rfl ?_
      refine endF (XF.thenN ?_)
      refine retF ?_
      refine XF.thenR ?_
      refine XF.res (res1 Try.results42 rfl) ?_
      exact ⟨rint (by unfold autoE; dsimp only; rw [if_neg h0, if_neg h1, if_pos (by unfold ashapeB; rw [if_pos (by omega)])]), hS.below⟩
     ·have hg31 := of_decide_eq_false hc; clear hc
      refine op_wantedF (d := 31) rfl rfl ?_
      refine op_field (o' := 4) fa_60_2 rfl rfl rfl ?_
      refine op_wantedF (d := 31) rfl rfl ?_
      refine op_load Try.isAgg3 rfl (cell_own (hS.at_ 0 rfl) rfl) rfl ?_
      refine op_wantedF (d := 31) rfl rfl ?_
      refine op_gtr rfl rfl rfl ?_
      refine op_pickF rfl rfl rfl ?_
      refine endF (XF.thenN ?_)
      refine condF rfl (fun hc => ?_) (fun hc => ?_)
      ·have hc35 := of_decide_eq_true hc; clear hc
       refine seqF (regF ?_)
       refine op_assign rfl rfl ?_
       refine endF (XF.thenN ?_)
       refine retF ?_
       refine XF.thenR ?_
       refine XF.res (res1 Try.results42 rfl) ?_
       exact ⟨rint (by unfold autoE; dsimp only; rw [if_neg h0, if_neg h1, if_pos (by unfold ashapeB; rw [if_pos (by omega)])]), hS.below⟩
      ·have hc35 := of_decide_eq_false hc; clear hc
       have h2 : ¬ (st < 0 ∨ 4096 < st ∨ sy < 0 ∨ 4096 < sy) := by omega
       refine skipF ?_
       refine XF.thenN ?_
       refine seqF ?_
       refine seqF (regF ?_)
       refine op_assign rfl rfl ?_
       refine endF (XF.thenN ?_)
       refine blockF ?_
       refine loopF (fun m l W => ∃ i : Nat, i ≤ fl ∧ m = fl - i ∧ l = [(1, .pointer (some ⟨B1, 0, none⟩)), (4, .int .i64 (i : Int))] ∧ (∀ j, j < i → finOk st fs j = true) ∧ St w [(B1, [.int .i64 s.f.tag, .int .i64 s.f.dim, .slice s.f.a s.f.len s.f.cap, .int .i64 st, .int .i64 sy, .slice fa fl fc, .slice ta tl tc], 60)] [] [] W) (fl - 0) ([(1, _), (4, _)]) ⟨rfl, rfl, trivial⟩ (⟨0, Nat.zero_le _, rfl, rfl, fun j hj => absurd hj (Nat.not_lt_zero _), hS.clear⟩) ?_
       clear hS
       rintro m l W ⟨i, hi, rfl, rfl, hall, hS⟩
       refine seqF ?_
       refine seqF (regF ?_)
       refine op_move rfl rfl ?_
       refine op_field (o' := 5) fa_60_3 rfl rfl rfl ?_
       refine op_load Try.isAgg29 rfl (cell_own (hS.at_ 0 rfl) rfl) rfl ?_
       refine op_len Try.underlying29 rfl rfl ?_
       refine op_lss rfl rfl rfl ?_
       refine endF (XF.thenN ?_)
       refine condF rfl (fun hc => ?_) (fun hc => ?_)
       ·have hc40 := of_decide_eq_true hc; clear hc
        have hk : i < fl := by omega
        obtain ⟨b, off, y, rfl, hy, hyc⟩ := hfrow.at1 (show i < fs.length by omega)
        have k1 := hS.old hyc
        refine skipF ?_
        refine XF.thenN ?_
        refine seqF ?_
        refine blockF ?_
        refine seqF ?_
        rcases (show inQ y st = false ∨ (inQ y st = true ∧ i = 0) ∨ (inQ y st = true ∧ 0 < i) by cases inQ y st <;> simp <;> omega) with e1 | ⟨e1, h9⟩ | ⟨e1, h9⟩
        ·skip
         refine regB (m := 26) followsM hS (by kernel_rfl) (by kernel_rfl) rfl ?_
         refine bl_cons 1 rfl (isV _) (stab_isV _) (rgV (li := [(1, _)]) rfl (w_free rfl) ⟨g_fr (by kernel_rfl) rfl, trivial⟩ (fun w hw => rn_loadA (vs := [_, _, _, _, _, _, _]) Try.isAgg60 Try.sizeOf60 rfl (CellsAt.agree (below_agree hw 0) (Nat.zero_le _) (CellsAt.own (j := 0) (m := 7) (hS.at_ 0 rfl) rfl))) (at_top rfl)) ?_
         refine bl_cons 2 rfl (isV _) (stab_isV _) (rgV (li := [(1, _)]) rfl (w_free rfl) ⟨g_fr (by kernel_rfl) rfl, trivial⟩ (fun w hw => rn_field (o' := 5) fa_60_3 rfl rfl) (at_top rfl)) ?_
         refine bl_cons 3 rfl (isV _) (stab_isV _) (rgV (li := [(44, _)]) rfl (w_free rfl) ⟨g_dep 1 (by kernel_rfl) (at_dep rfl rfl rfl), trivial⟩ (fun w hw => rn_load Try.isAgg29 rfl ((below_agree hw 0).cell (Nat.zero_le _) (cell_own (hS.at_ 0 rfl) rfl))) (at_top rfl)) ?_
         refine bl_cons 4 rfl (isV _) (stab_isV _) (rgV (li := [(4, _)]) rfl (w_free rfl) ⟨g_fr (by kernel_rfl) rfl, trivial⟩ (fun w hw => rn_move rfl) (at_top rfl)) ?_
         refine bl_cons 5 rfl (isV _) (stab_isV _) (rgV (li := [(45, _), (46, _)]) rfl (w_free rfl) ⟨g_dep 2 (by kernel_rfl) (at_dep rfl rfl rfl), g_dep 3 (by kernel_rfl) (at_dep rfl rfl rfl), trivial⟩ (fun w hw => rn_indexA  Try.underlying29 Try.sizeOf3 rfl rfl rfl (by omega) rfl) (at_top rfl)) ?_
         refine bl_cons 6 rfl (isV _) (stab_isV _) (rgV (li := [(47, _)]) rfl (w_free rfl) ⟨g_dep 4 (by kernel_rfl) (at_dep rfl rfl rfl), trivial⟩ (fun w hw => rn_load Try.isAgg3 rfl ((below_agree hw 0).cell (Nat.zero_le _) (k1))) (at_top rfl)) ?_
         refine bl_cons 7 rfl (isV (.bool false)) (stab_isV _) (rg_call [isV _, isV _] rfl goes_73 (w_free rfl) ⟨p_tmp (g_dep 0 (by kernel_rfl) (at_dep rfl rfl rfl)), p_tmp (g_dep 5 (by kernel_rfl) (at_dep rfl rfl rfl)), trivial⟩ (fun vs w' hb hh => by have e := holds_isV (us := [_, _]) hh; subst e; exact (stR_is ⟨s, st, sy, _, fl, fc, fs, ta, tl, tc, ts⟩ y _).mono fun e w2 h => ⟨_, by rw [h.1, e1], rfl, h.2⟩) (at_top rfl)) ?_
         refine bl_cons 8 rfl (isV (.bool true)) (stab_isV _) (rgVe (li := [(49, _)]) rfl (w_free rfl) ⟨g_dep 6 (by kernel_rfl) (at_dep rfl rfl rfl), trivial⟩ (fun w hw => rn_not rfl) (rfl) (at_top rfl)) ?_
         refine bl_cons 9 rfl (isV _) (stab_isV _) (rgV (li := [(50, _)]) rfl (w_free rfl) ⟨g_dep 7 (by kernel_rfl) (at_dep rfl rfl rfl), trivial⟩ (fun w hw => rn_move rfl) (at_top rfl)) ?_
         refine bl_cons 10 rfl (isV undef) (stab_isV _) (rg_no rfl (w_no 51 rfl (by kernel_rfl) (by kernel_rfl) (at_dep rfl rfl rfl) rfl) (at_top rfl)) ?_
         refine bl_cons 11 rfl (isV undef) (stab_isV _) (rg_no rfl (w_no 51 rfl (by kernel_rfl) (by kernel_rfl) (at_dep rfl rfl rfl) rfl) (at_top rfl)) ?_
         refine bl_cons 12 rfl (isV undef) (stab_isV _) (rg_no rfl (w_no 51 rfl (by kernel_rfl) (by kernel_rfl) (at_dep rfl rfl rfl) rfl) (at_top rfl)) ?_
         refine bl_cons 13 rfl (isV undef) (stab_isV _) (rg_no rfl (w_un 54 rfl (by kernel_rfl) (by kernel_rfl) (at_dep rfl rfl rfl)) (at_top rfl)) ?_
         refine bl_cons 14 rfl (isV undef) (stab_isV _) (rg_no rfl (w_un 54 rfl (by kernel_rfl) (by kernel_rfl) (at_dep rfl rfl rfl)) (at_top rfl)) ?_
         refine bl_cons 15 rfl (isV undef) (stab_isV _) (rg_no rfl (w_un 54 rfl (by kernel_rfl) (by kernel_rfl) (at_dep rfl rfl rfl)) (at_top rfl)) ?_
         refine bl_cons 16 rfl (isV undef) (stab_isV _) (rg_no rfl (w_un 54 rfl (by kernel_rfl) (by kernel_rfl) (at_dep rfl rfl rfl)) (at_top rfl)) ?_
         refine bl_cons 17 rfl (isV undef) (stab_isV _) (rg_no rfl (w_un 54 rfl (by kernel_rfl) (by kernel_rfl) (at_dep rfl rfl rfl)) (at_top rfl)) ?_
         refine bl_cons 18 rfl (isV undef) (stab_isV _) (rg_no rfl (w_un 54 rfl (by kernel_rfl) (by kernel_rfl) (at_dep rfl rfl rfl)) (at_top rfl)) ?_
         refine bl_cons 19 rfl (isV undef) (stab_isV _) (rg_no rfl (w_un 54 rfl (by kernel_rfl) (by kernel_rfl) (at_dep rfl rfl rfl)) (at_top rfl)) ?_
         refine bl_cons 20 rfl (isV undef) (stab_isV _) (rg_no rfl (w_un 54 rfl (by kernel_rfl) (by kernel_rfl) (at_dep rfl rfl rfl)) (at_top rfl)) ?_
         refine bl_cons 21 rfl (isV undef) (stab_isV _) (rg_no rfl (w_un 54 rfl (by kernel_rfl) (by kernel_rfl) (at_dep rfl rfl rfl)) (at_top rfl)) ?_
         refine bl_cons 22 rfl (isV undef) (stab_isV _) (rg_no rfl (w_un 54 rfl (by kernel_rfl) (by kernel_rfl) (at_dep rfl rfl rfl)) (at_top rfl)) ?_
         refine bl_cons 23 rfl (isV undef) (stab_isV _) (rg_no rfl (w_un 54 rfl (by kernel_rfl) (by kernel_rfl) (at_dep rfl rfl rfl)) (at_top rfl)) ?_
         refine bl_cons 24 rfl (isV undef) (stab_isV _) (rg_no rfl (w_un 54 rfl (by kernel_rfl) (by kernel_rfl) (at_dep rfl rfl rfl)) (at_top rfl)) ?_
         refine bl_cons 25 rfl (isV undef) (stab_isV _) (rg_no rfl (w_no 51 rfl (by kernel_rfl) (by kernel_rfl) (at_dep rfl rfl rfl) rfl) (at_top rfl)) ?_
         refine bl_cons 26 rfl (isV _) (stab_isV _) (rgV (li := [(51, _)]) rfl (w_free rfl) ⟨g_dep 8 (by kernel_rfl) (at_dep rfl rfl rfl), trivial⟩ (fun w hw => rn_pickT rfl rfl) (at_top rfl)) ?_
         refine bl_nil ?_
         intro W3 hbR hS'
         clear hS; have hS := hS'; clear hS'
         refine fin_v ?_
         refine fin_v ?_
         refine fin_v ?_
         refine fin_v ?_
         refine fin_v ?_
         refine fin_v ?_
         refine fin_v ?_
         refine fin_v ?_
         refine fin_v ?_
         refine fin_v ?_
         refine fin_v ?_
         refine fin_v ?_
         refine fin_v ?_
         refine fin_v ?_
         refine fin_v ?_
         refine fin_v ?_
         refine fin_v ?_
         refine fin_v ?_
         refine fin_v ?_
         refine fin_v ?_
         refine fin_v ?_
         refine fin_v ?_
         refine fin_v ?_
         refine fin_v ?_
         refine fin_v ?_
         refine fin_v ?_
         refine fin_nil ?_
         refine XF.thenN ?_
         refine condT rfl ?_
         refine seqF (regF ?_)
         refine op_assign rfl rfl ?_
         refine endF (XF.thenN ?_)
         refine retF ?_
         refine XF.blkR ?_
         refine XF.thenR ?_
         refine XF.thenR ?_
         refine XF.blkR ?_
         refine XF.thenR ?_
         refine XF.res (res1 Try.results42 rfl) ?_
         exact ⟨rint (by unfold autoE; dsimp only; rw [if_neg h0, if_neg h1, if_pos (by unfold ashapeB; rw [if_neg h2, finB_no (i := i) (by omega) (finOk_out hy e1), Bool.false_and])]), hS.below⟩
        ·skip
         refine regB (m := 26) followsM hS (by kernel_rfl) (by kernel_rfl) rfl ?_
         refine bl_cons 1 rfl (isV _) (stab_isV _) (rgV (li := [(1, _)]) rfl (w_free rfl) ⟨g_fr (by kernel_rfl) rfl, trivial⟩ (fun w hw => rn_loadA (vs := [_, _, _, _, _, _, _]) Try.isAgg60 Try.sizeOf60 rfl (CellsAt.agree (below_agree hw 0) (Nat.zero_le _) (CellsAt.own (j := 0) (m := 7) (hS.at_ 0 rfl) rfl))) (at_top rfl)) ?_
         refine bl_cons 2 rfl (isV _) (stab_isV _) (rgV (li := [(1, _)]) rfl (w_free rfl) ⟨g_fr (by kernel_rfl) rfl, trivial⟩ (fun w hw => rn_field (o' := 5) fa_60_3 rfl rfl) (at_top rfl)) ?_
         refine bl_cons 3 rfl (isV _) (stab_isV _) (rgV (li := [(44, _)]) rfl (w_free rfl) ⟨g_dep 1 (by kernel_rfl) (at_dep rfl rfl rfl), trivial⟩ (fun w hw => rn_load Try.isAgg29 rfl ((below_agree hw 0).cell (Nat.zero_le _) (cell_own (hS.at_ 0 rfl) rfl))) (at_top rfl)) ?_
         refine bl_cons 4 rfl (isV _) (stab_isV _) (rgV (li := [(4, _)]) rfl (w_free rfl) ⟨g_fr (by kernel_rfl) rfl, trivial⟩ (fun w hw => rn_move rfl) (at_top rfl)) ?_
         refine bl_cons 5 rfl (isV _) (stab_isV _) (rgV (li := [(45, _), (46, _)]) rfl (w_free rfl) ⟨g_dep 2 (by kernel_rfl) (at_dep rfl rfl rfl), g_dep 3 (by kernel_rfl) (at_dep rfl rfl rfl), trivial⟩ (fun w hw => rn_indexA  Try.underlying29 Try.sizeOf3 rfl rfl rfl (by omega) rfl) (at_top rfl)) ?_
         refine bl_cons 6 rfl (isV _) (stab_isV _) (rgV (li := [(47, _)]) rfl (w_free rfl) ⟨g_dep 4 (by kernel_rfl) (at_dep rfl rfl rfl), trivial⟩ (fun w hw => rn_load Try.isAgg3 rfl ((below_agree hw 0).cell (Nat.zero_le _) (k1))) (at_top rfl)) ?_
         refine bl_cons 7 rfl (isV (.bool true)) (stab_isV _) (rg_call [isV _, isV _] rfl goes_73 (w_free rfl) ⟨p_tmp (g_dep 0 (by kernel_rfl) (at_dep rfl rfl rfl)), p_tmp (g_dep 5 (by kernel_rfl) (at_dep rfl rfl rfl)), trivial⟩ (fun vs w' hb hh => by have e := holds_isV (us := [_, _]) hh; subst e; exact (stR_is ⟨s, st, sy, _, fl, fc, fs, ta, tl, tc, ts⟩ y _).mono fun e w2 h => ⟨_, by rw [h.1, e1], rfl, h.2⟩) (at_top rfl)) ?_
         refine bl_cons 8 rfl (isV (.bool false)) (stab_isV _) (rgVe (li := [(49, _)]) rfl (w_free rfl) ⟨g_dep 6 (by kernel_rfl) (at_dep rfl rfl rfl), trivial⟩ (fun w hw => rn_not rfl) (rfl) (at_top rfl)) ?_
         refine bl_cons 9 rfl (isV _) (stab_isV _) (rgV (li := [(50, _)]) rfl (w_free rfl) ⟨g_dep 7 (by kernel_rfl) (at_dep rfl rfl rfl), trivial⟩ (fun w hw => rn_move rfl) (at_top rfl)) ?_
         refine bl_cons 10 rfl (isV _) (stab_isV _) (rgV (li := [(4, _)]) rfl (w_yes 51 rfl (by kernel_rfl) (by kernel_rfl) (at_dep rfl rfl rfl)) ⟨g_fr (by kernel_rfl) rfl, trivial⟩ (fun w hw => rn_move rfl) (at_top rfl)) ?_
         refine bl_cons 11 rfl (isV (.bool false)) (stab_isV _) (rgVe (li := [(52, _)]) rfl (w_yes 51 rfl (by kernel_rfl) (by kernel_rfl) (at_dep rfl rfl rfl)) ⟨g_dep 9 (by kernel_rfl) (at_dep rfl rfl rfl), trivial⟩ (fun w hw => rn_gtr rfl rfl) (by rw [decide_eq_false (by omega)]) (at_top rfl)) ?_
         refine bl_cons 12 rfl (isV _) (stab_isV _) (rgV (li := [(53, _)]) rfl (w_yes 51 rfl (by kernel_rfl) (by kernel_rfl) (at_dep rfl rfl rfl)) ⟨g_dep 10 (by kernel_rfl) (at_dep rfl rfl rfl), trivial⟩ (fun w hw => rn_move rfl) (at_top rfl)) ?_
         refine bl_cons 13 rfl (isV undef) (stab_isV _) (rg_no rfl (w_no 54 rfl (by kernel_rfl) (by kernel_rfl) (at_dep rfl rfl rfl) rfl) (at_top rfl)) ?_
         refine bl_cons 14 rfl (isV undef) (stab_isV _) (rg_no rfl (w_no 54 rfl (by kernel_rfl) (by kernel_rfl) (at_dep rfl rfl rfl) rfl) (at_top rfl)) ?_
         refine bl_cons 15 rfl (isV undef) (stab_isV _) (rg_no rfl (w_no 54 rfl (by kernel_rfl) (by kernel_rfl) (at_dep rfl rfl rfl) rfl) (at_top rfl)) ?_
         refine bl_cons 16 rfl (isV undef) (stab_isV _) (rg_no rfl (w_no 54 rfl (by kernel_rfl) (by kernel_rfl) (at_dep rfl rfl rfl) rfl) (at_top rfl)) ?_
         refine bl_cons 17 rfl (isV undef) (stab_isV _) (rg_no rfl (w_no 54 rfl (by kernel_rfl) (by kernel_rfl) (at_dep rfl rfl rfl) rfl) (at_top rfl)) ?_
         refine bl_cons 18 rfl (isV undef) (stab_isV _) (rg_no rfl (w_no 54 rfl (by kernel_rfl) (by kernel_rfl) (at_dep rfl rfl rfl) rfl) (at_top rfl)) ?_
         refine bl_cons 19 rfl (isV undef) (stab_isV _) (rg_no rfl (w_no 54 rfl (by kernel_rfl) (by kernel_rfl) (at_dep rfl rfl rfl) rfl) (at_top rfl)) ?_
         refine bl_cons 20 rfl (isV undef) (stab_isV _) (rg_no rfl (w_no 54 rfl (by kernel_rfl) (by kernel_rfl) (at_dep rfl rfl rfl) rfl) (at_top rfl)) ?_
         refine bl_cons 21 rfl (isV undef) (stab_isV _) (rg_no rfl (w_no 54 rfl (by kernel_rfl) (by kernel_rfl) (at_dep rfl rfl rfl) rfl) (at_top rfl)) ?_
         refine bl_cons 22 rfl (isV undef) (stab_isV _) (rg_no rfl (w_no 54 rfl (by kernel_rfl) (by kernel_rfl) (at_dep rfl rfl rfl) rfl) (at_top rfl)) ?_
         refine bl_cons 23 rfl (isV undef) (stab_isV _) (rg_no rfl (w_no 54 rfl (by kernel_rfl) (by kernel_rfl) (at_dep rfl rfl rfl) rfl) (at_top rfl)) ?_
         refine bl_cons 24 rfl (isV undef) (stab_isV _) (rg_no rfl (w_no 54 rfl (by kernel_rfl) (by kernel_rfl) (at_dep rfl rfl rfl) rfl) (at_top rfl)) ?_
         refine bl_cons 25 rfl (isV _) (stab_isV _) (rgV (li := [(54, _)]) rfl (w_yes 51 rfl (by kernel_rfl) (by kernel_rfl) (at_dep rfl rfl rfl)) ⟨g_dep 11 (by kernel_rfl) (at_dep rfl rfl rfl), trivial⟩ (fun w hw => rn_pickF rfl rfl) (at_top rfl)) ?_
         refine bl_cons 26 rfl (isV _) (stab_isV _) (rgV (li := [(51, _), (67, _)]) rfl (w_free rfl) ⟨g_dep 8 (by kernel_rfl) (at_dep rfl rfl rfl), g_dep 24 (by kernel_rfl) (at_dep rfl rfl rfl), trivial⟩ (fun w hw => rn_pickF rfl rfl) (at_top rfl)) ?_
         refine bl_nil ?_
         intro W4 hbR hS'
         clear hS; have hS := hS'; clear hS'
         refine fin_v ?_
         refine fin_v ?_
         refine fin_v ?_
         refine fin_v ?_
         refine fin_v ?_
         refine fin_v ?_
         refine fin_v ?_
         refine fin_v ?_
         refine fin_v ?_
         refine fin_v ?_
         refine fin_v ?_
         refine fin_v ?_
         refine fin_v ?_
         refine fin_v ?_
         refine fin_v ?_
         refine fin_v ?_
         refine fin_v ?_
         refine fin_v ?_
         refine fin_v ?_
         refine fin_v ?_
         refine fin_v ?_
         refine fin_v ?_
         refine fin_v ?_
         refine fin_v ?_
         refine fin_v ?_
         refine fin_v ?_
         refine fin_nil ?_
         refine XF.thenN ?_
         refine condN rfl ?_
         refine skipF ?_
         refine XF.blkN ?_
         refine XF.thenN ?_
         refine regF ?_
         refine op_move rfl rfl ?_
         refine op_add rfl rfl (IntWalk.i64_in _ (by omega)) rfl ?_
         refine op_assign rfl rfl ?_
         refine endF ?_
         exact XF.round (fl - (i + 1)) [(1, _), (4, _)] (by omega) ⟨rfl, rfl, trivial⟩ ⟨i + 1, by omega, rfl, rfl, fin_next hall (finOk_zero hy e1 h9), hS.clear⟩
        ·obtain ⟨b2, off2, z, e2, hz, hzc⟩ := hfrow.at1 (show i - 1 < fs.length by omega)
         cases e2
         have k2 := hS.old hzc
         refine regB (m := 26) followsM hS (by kernel_rfl) (by kernel_rfl) rfl ?_
         refine bl_cons 1 rfl (isV _) (stab_isV _) (rgV (li := [(1, _)]) rfl (w_free rfl) ⟨g_fr (by kernel_rfl) rfl, trivial⟩ (fun w hw => rn_loadA (vs := [_, _, _, _, _, _, _]) Try.isAgg60 Try.sizeOf60 rfl (CellsAt.agree (below_agree hw 0) (Nat.zero_le _) (CellsAt.own (j := 0) (m := 7) (hS.at_ 0 rfl) rfl))) (at_top rfl)) ?_
         refine bl_cons 2 rfl (isV _) (stab_isV _) (rgV (li := [(1, _)]) rfl (w_free rfl) ⟨g_fr (by kernel_rfl) rfl, trivial⟩ (fun w hw => rn_field (o' := 5) fa_60_3 rfl rfl) (at_top rfl)) ?_
         refine bl_cons 3 rfl (isV _) (stab_isV _) (rgV (li := [(44, _)]) rfl (w_free rfl) ⟨g_dep 1 (by kernel_rfl) (at_dep rfl rfl rfl), trivial⟩ (fun w hw => rn_load Try.isAgg29 rfl ((below_agree hw 0).cell (Nat.zero_le _) (cell_own (hS.at_ 0 rfl) rfl))) (at_top rfl)) ?_
         refine bl_cons 4 rfl (isV _) (stab_isV _) (rgV (li := [(4, _)]) rfl (w_free rfl) ⟨g_fr (by kernel_rfl) rfl, trivial⟩ (fun w hw => rn_move rfl) (at_top rfl)) ?_
         refine bl_cons 5 rfl (isV _) (stab_isV _) (rgV (li := [(45, _), (46, _)]) rfl (w_free rfl) ⟨g_dep 2 (by kernel_rfl) (at_dep rfl rfl rfl), g_dep 3 (by kernel_rfl) (at_dep rfl rfl rfl), trivial⟩ (fun w hw => rn_indexA  Try.underlying29 Try.sizeOf3 rfl rfl rfl (by omega) rfl) (at_top rfl)) ?_
         refine bl_cons 6 rfl (isV _) (stab_isV _) (rgV (li := [(47, _)]) rfl (w_free rfl) ⟨g_dep 4 (by kernel_rfl) (at_dep rfl rfl rfl), trivial⟩ (fun w hw => rn_load Try.isAgg3 rfl ((below_agree hw 0).cell (Nat.zero_le _) (k1))) (at_top rfl)) ?_
         refine bl_cons 7 rfl (isV (.bool true)) (stab_isV _) (rg_call [isV _, isV _] rfl goes_73 (w_free rfl) ⟨p_tmp (g_dep 0 (by kernel_rfl) (at_dep rfl rfl rfl)), p_tmp (g_dep 5 (by kernel_rfl) (at_dep rfl rfl rfl)), trivial⟩ (fun vs w' hb hh => by have e := holds_isV (us := [_, _]) hh; subst e; exact (stR_is ⟨s, st, sy, _, fl, fc, fs, ta, tl, tc, ts⟩ y _).mono fun e w2 h => ⟨_, by rw [h.1, e1], rfl, h.2⟩) (at_top rfl)) ?_
         refine bl_cons 8 rfl (isV (.bool false)) (stab_isV _) (rgVe (li := [(49, _)]) rfl (w_free rfl) ⟨g_dep 6 (by kernel_rfl) (at_dep rfl rfl rfl), trivial⟩ (fun w hw => rn_not rfl) (rfl) (at_top rfl)) ?_
         refine bl_cons 9 rfl (isV _) (stab_isV _) (rgV (li := [(50, _)]) rfl (w_free rfl) ⟨g_dep 7 (by kernel_rfl) (at_dep rfl rfl rfl), trivial⟩ (fun w hw => rn_move rfl) (at_top rfl)) ?_
         refine bl_cons 10 rfl (isV _) (stab_isV _) (rgV (li := [(4, _)]) rfl (w_yes 51 rfl (by kernel_rfl) (by kernel_rfl) (at_dep rfl rfl rfl)) ⟨g_fr (by kernel_rfl) rfl, trivial⟩ (fun w hw => rn_move rfl) (at_top rfl)) ?_
         refine bl_cons 11 rfl (isV (.bool true)) (stab_isV _) (rgVe (li := [(52, _)]) rfl (w_yes 51 rfl (by kernel_rfl) (by kernel_rfl) (at_dep rfl rfl rfl)) ⟨g_dep 9 (by kernel_rfl) (at_dep rfl rfl rfl), trivial⟩ (fun w hw => rn_gtr rfl rfl) (by rw [decide_eq_true (by omega)]) (at_top rfl)) ?_
         refine bl_cons 12 rfl (isV _) (stab_isV _) (rgV (li := [(53, _)]) rfl (w_yes 51 rfl (by kernel_rfl) (by kernel_rfl) (at_dep rfl rfl rfl)) ⟨g_dep 10 (by kernel_rfl) (at_dep rfl rfl rfl), trivial⟩ (fun w hw => rn_move rfl) (at_top rfl)) ?_
         refine bl_cons 13 rfl (isV _) (stab_isV _) (rgV (li := [(1, _)]) rfl (w_yes 54 rfl (by kernel_rfl) (by kernel_rfl) (at_dep rfl rfl rfl)) ⟨g_fr (by kernel_rfl) rfl, trivial⟩ (fun w hw => rn_field (o' := 5) fa_60_3 rfl rfl) (at_top rfl)) ?_
         refine bl_cons 14 rfl (isV _) (stab_isV _) (rgV (li := [(55, _)]) rfl (w_yes 54 rfl (by kernel_rfl) (by kernel_rfl) (at_dep rfl rfl rfl)) ⟨g_dep 12 (by kernel_rfl) (at_dep rfl rfl rfl), trivial⟩ (fun w hw => rn_load Try.isAgg29 rfl ((below_agree hw 0).cell (Nat.zero_le _) (cell_own (hS.at_ 0 rfl) rfl))) (at_top rfl)) ?_
         refine bl_cons 15 rfl (isV _) (stab_isV _) (rgV (li := [(4, _)]) rfl (w_yes 54 rfl (by kernel_rfl) (by kernel_rfl) (at_dep rfl rfl rfl)) ⟨g_fr (by kernel_rfl) rfl, trivial⟩ (fun w hw => rn_move rfl) (at_top rfl)) ?_
         refine bl_cons 16 rfl (isV _) (stab_isV _) (rgV (li := [(56, _), (57, _)]) rfl (w_yes 54 rfl (by kernel_rfl) (by kernel_rfl) (at_dep rfl rfl rfl)) ⟨g_dep 13 (by kernel_rfl) (at_dep rfl rfl rfl), g_dep 14 (by kernel_rfl) (at_dep rfl rfl rfl), trivial⟩ (fun w hw => rn_indexA  Try.underlying29 Try.sizeOf3 rfl rfl rfl (by omega) rfl) (at_top rfl)) ?_
         refine bl_cons 17 rfl (isV _) (stab_isV _) (rgV (li := [(58, _)]) rfl (w_yes 54 rfl (by kernel_rfl) (by kernel_rfl) (at_dep rfl rfl rfl)) ⟨g_dep 15 (by kernel_rfl) (at_dep rfl rfl rfl), trivial⟩ (fun w hw => rn_load Try.isAgg3 rfl ((below_agree hw 0).cell (Nat.zero_le _) (k1))) (at_top rfl)) ?_
         refine bl_cons 18 rfl (isV _) (stab_isV _) (rgV (li := [(1, _)]) rfl (w_yes 54 rfl (by kernel_rfl) (by kernel_rfl) (at_dep rfl rfl rfl)) ⟨g_fr (by kernel_rfl) rfl, trivial⟩ (fun w hw => rn_field (o' := 5) fa_60_3 rfl rfl) (at_top rfl)) ?_
         refine bl_cons 19 rfl (isV _) (stab_isV _) (rgV (li := [(60, _)]) rfl (w_yes 54 rfl (by kernel_rfl) (by kernel_rfl) (at_dep rfl rfl rfl)) ⟨g_dep 17 (by kernel_rfl) (at_dep rfl rfl rfl), trivial⟩ (fun w hw => rn_load Try.isAgg29 rfl ((below_agree hw 0).cell (Nat.zero_le _) (cell_own (hS.at_ 0 rfl) rfl))) (at_top rfl)) ?_
         refine bl_cons 20 rfl (isV _) (stab_isV _) (rgV (li := [(4, _)]) rfl (w_yes 54 rfl (by kernel_rfl) (by kernel_rfl) (at_dep rfl rfl rfl)) ⟨g_fr (by kernel_rfl) rfl, trivial⟩ (fun w hw => rn_move rfl) (at_top rfl)) ?_
         refine bl_cons 21 rfl (isV _) (stab_isV _) (rgV (li := [(62, _)]) rfl (w_yes 54 rfl (by kernel_rfl) (by kernel_rfl) (at_dep rfl rfl rfl)) ⟨g_dep 19 (by kernel_rfl) (at_dep rfl rfl rfl), trivial⟩ (fun w hw => rn_sub rfl rfl (IntWalk.i64_in _ (by omega))) (at_top rfl)) ?_
         refine bl_cons 22 rfl (isV _) (stab_isV _) (rgV (li := [(61, _), (63, _)]) rfl (w_yes 54 rfl (by kernel_rfl) (by kernel_rfl) (at_dep rfl rfl rfl)) ⟨g_dep 18 (by kernel_rfl) (at_dep rfl rfl rfl), g_dep 20 (by kernel_rfl) (at_dep rfl rfl rfl), trivial⟩ (fun w hw => rn_indexA (j := (i - 1)) Try.underlying29 Try.sizeOf3 rfl rfl (by omega) (by omega) rfl) (at_top rfl)) ?_
         refine bl_cons 23 rfl (isV _) (stab_isV _) (rgV (li := [(64, _)]) rfl (w_yes 54 rfl (by kernel_rfl) (by kernel_rfl) (at_dep rfl rfl rfl)) ⟨g_dep 21 (by kernel_rfl) (at_dep rfl rfl rfl), trivial⟩ (fun w hw => rn_load Try.isAgg3 rfl ((below_agree hw 0).cell (Nat.zero_le _) (k2))) (at_top rfl)) ?_
         refine bl_cons 24 rfl (isV _) (stab_isV _) (rgV (li := [(59, _), (65, _)]) rfl (w_yes 54 rfl (by kernel_rfl) (by kernel_rfl) (at_dep rfl rfl rfl)) ⟨g_dep 16 (by kernel_rfl) (at_dep rfl rfl rfl), g_dep 22 (by kernel_rfl) (at_dep rfl rfl rfl), trivial⟩ (fun w hw => rn_leq rfl rfl) (at_top rfl)) ?_
         refine bl_cons 25 rfl (isV _) (stab_isV _) (rgV (li := [(54, _), (66, _)]) rfl (w_yes 51 rfl (by kernel_rfl) (by kernel_rfl) (at_dep rfl rfl rfl)) ⟨g_dep 11 (by kernel_rfl) (at_dep rfl rfl rfl), g_dep 23 (by kernel_rfl) (at_dep rfl rfl rfl), trivial⟩ (fun w hw => rn_pickT rfl rfl) (at_top rfl)) ?_
         refine bl_cons 26 rfl (isV _) (stab_isV _) (rgV (li := [(51, _), (67, _)]) rfl (w_free rfl) ⟨g_dep 8 (by kernel_rfl) (at_dep rfl rfl rfl), g_dep 24 (by kernel_rfl) (at_dep rfl rfl rfl), trivial⟩ (fun w hw => rn_pickF rfl rfl) (at_top rfl)) ?_
         refine bl_nil ?_
         intro W5 hbR hS'
         clear hS; have hS := hS'; clear hS'
         refine fin_v ?_
         refine fin_v ?_
         refine fin_v ?_
         refine fin_v ?_
         refine fin_v ?_
         refine fin_v ?_
         refine fin_v ?_
         refine fin_v ?_
         refine fin_v ?_
         refine fin_v ?_
         refine fin_v ?_
         refine fin_v ?_
         refine fin_v ?_
         refine fin_v ?_
         refine fin_v ?_
         refine fin_v ?_
         refine fin_v ?_
         refine fin_v ?_
         refine fin_v ?_
         refine fin_v ?_
         refine fin_v ?_
         refine fin_v ?_
         refine fin_v ?_
         refine fin_v ?_
         refine fin_v ?_
         refine fin_v ?_
         refine fin_nil ?_
         refine XF.thenN ?_
         refine condF rfl (fun hc => ?_) (fun hc => ?_)
         ·have hc68 := hc; clear hc
          have hyz := of_decide_eq_true hc68
          refine seqF (regF ?_)
          refine op_assign rfl rfl ?_
          refine endF (XF.thenN ?_)
          refine retF ?_
          refine XF.blkR ?_
          refine XF.thenR ?_
          refine XF.thenR ?_
          refine XF.blkR ?_
          refine XF.thenR ?_
          refine XF.res (res1 Try.results42 rfl) ?_
          exact ⟨rint (by unfold autoE; dsimp only; rw [if_neg h0, if_neg h1, if_pos (by unfold ashapeB; rw [if_neg h2, finB_no (i := i) (by omega) (by rw [finOk_pos hy hz e1 h9]; exact decide_eq_false (by omega)), Bool.false_and])]), hS.below⟩
         ·have hc68 := hc; clear hc
          have hyz := of_decide_eq_false hc68
          refine skipF ?_
          refine XF.blkN ?_
          refine XF.thenN ?_
          refine regF ?_
          refine op_move rfl rfl ?_
          refine op_add rfl rfl (IntWalk.i64_in _ (by omega)) rfl ?_
          refine op_assign rfl rfl ?_
          refine endF ?_
          exact XF.round (fl - (i + 1)) [(1, _), (4, _)] (by omega) ⟨rfl, rfl, trivial⟩ ⟨i + 1, by omega, rfl, rfl, fin_next hall (by rw [finOk_pos hy hz e1 h9]; exact decide_eq_true (by omega)), hS.clear⟩
       ·have hc40 := of_decide_eq_false hc; clear hc
        have hfb : finB st fs = true := finB_of fun j hj => hall j (by omega)
        refine exitF ?_
        refine XF.thenX ?_
        refine XF.thenX ?_
        refine XF.blkX ?_
        refine XF.thenN ?_
        refine seqF ?_
        refine seqF (regF ?_)
        refine op_assign rfl rfl ?_
        refine endF (XF.thenN ?_)
        refine blockF ?_
        refine loopF (fun m l W => ∃ i : Nat, i ≤ tl ∧ m = tl - i ∧ l = [(1, .pointer (some ⟨B1, 0, none⟩)), (5, .int .i64 (i : Int))] ∧ (ts.take i).all (trB st sy) = true ∧ St w [(B1, [.int .i64 s.f.tag, .int .i64 s.f.dim, .slice s.f.a s.f.len s.f.cap, .int .i64 st, .int .i64 sy, .slice fa fl fc, .slice ta tl tc], 60)] [] [] W) (tl - 0) ([(1, _), (5, _)]) ⟨rfl, rfl, trivial⟩ (⟨0, Nat.zero_le _, rfl, rfl, rfl, hS.clear⟩) ?_
        clear hS
        rintro m l W ⟨i, hi, rfl, rfl, hall, hS⟩
        refine seqF ?_
        refine seqF (regF ?_)
        refine op_move rfl rfl ?_
        refine op_field (o' := 6) fa_60_4 rfl rfl rfl ?_
        refine op_load Try.isAgg58 rfl (cell_own (hS.at_ 0 rfl) rfl) rfl ?_
        refine op_len Try.underlying58 rfl rfl ?_
        refine op_lss rfl rfl rfl ?_
        refine endF (XF.thenN ?_)
        refine condF rfl (fun hc => ?_) (fun hc => ?_)
        ·have hc73 := of_decide_eq_true hc; clear hc
         have hk : i < tl := by omega
         obtain ⟨r, hr⟩ : ∃ r, ts[i]? = some r := ⟨ts[i]'(by omega), by simp [show i < ts.length by omega]⟩
         obtain ⟨b, off, rfl, hcs⟩ := htrow.at_ hr
         have k1 := CellsAt.agree hS.agree (Nat.zero_le _) hcs
         have hri := htin r (List.mem_of_getElem? hr)
         refine skipF ?_
         refine XF.thenN ?_
         refine seqF ?_
         refine blockF ?_
         refine seqF (regF ?_)
         refine op_field (o' := 6) fa_60_4 rfl rfl rfl ?_
         refine op_load Try.isAgg58 rfl (cell_own (hS.at_ 0 rfl) rfl) rfl ?_
         refine op_move rfl rfl ?_
         refine op_indexA  Try.underlying58 Try.sizeOf100 rfl rfl rfl (by omega) rfl rfl ?_
         refine op_loadA (vs := [_, _, _, _, _, _, _, _, _]) Try.isAgg100 Try.sizeOf100 rfl (k1) rfl ?_
         refine op_alloc (cs := [_, _, _, _, _, _, _, _, _]) hS Try.zeroValue100 rfl rfl ?_
         clear hS; intro B6 W6 hS
         refine op_storeA (i := 0) (vs := [_, _, _, _, _, _, _, _, _]) (cs' := [_, _, _, _, _, _, _, _, _]) (O' := [_, _]) hS Try.sizeOf100 rfl rfl rfl rfl rfl rfl rfl ?_
         clear hS; intro W7 hS
         refine endF (XF.thenN ?_)
         refine seqF (regF ?_)
         refine op_loadA (vs := [_, _, _, _, _, _, _]) Try.isAgg60 Try.sizeOf60 rfl (CellsAt.own (j := 0) (m := 7) (hS.at_ 1 rfl) rfl) rfl ?_
         refine op_field (o' := 0) fa_100_0 rfl rfl rfl ?_
         refine op_load Try.isAgg3 rfl (cell_own (hS.at_ 0 rfl) rfl) rfl ?_
         refine op_call (vs := [_, _]) hS goes_73 rfl (stR_is ⟨s, st, sy, fa, fl, fc, fs, _, tl, tc, ts⟩ r.f _) rfl ?_
         rintro e W8 ⟨rfl, hb⟩
         refine ⟨_, rfl, hb, fun hS' => ?_⟩
         clear hS; have hS := hS'; clear hS' hb
         refine op_not rfl rfl ?_
         refine op_move rfl rfl ?_
         refine op_cases (d := 86) rfl (fun hc => ?_) (fun hc => ?_)
         ·have hg86 := hc; clear hc
          have e1 : inQ r.f st = false := by simpa using hg86
          refine op_notF (d := 86) rfl rfl rfl rfl ?_
          refine op_notF (d := 86) rfl rfl rfl rfl ?_
          refine op_notF (d := 86) rfl rfl rfl rfl ?_
          refine op_notF (d := 86) rfl rfl rfl rfl ?_
          refine op_notF (d := 86) rfl rfl rfl rfl ?_
          refine op_pickT rfl rfl rfl ?_
          refine op_move rfl rfl ?_
          refine op_notF (d := 93) rfl rfl rfl rfl ?_
          refine op_notF (d := 93) rfl rfl rfl rfl ?_
          refine op_notF (d := 93) rfl rfl rfl rfl ?_
          refine op_pickT rfl rfl rfl ?_
          refine op_move rfl rfl ?_
          refine op_notF (d := 98) rfl rfl rfl rfl ?_
          refine op_notF (d := 98) rfl rfl rfl rfl ?_
          refine op_notF (d := 98) rfl rfl rfl rfl ?_
          refine op_notF (d := 98) rfl rfl rfl rfl ?_
          refine op_notF (d := 98) rfl rfl rfl rfl ?_
          refine op_pickT rfl rfl rfl ?_
          refine endF (XF.thenN ?_)
          refine condT rfl ?_
          refine seqF (regF ?_)
          refine op_assign rfl rfl ?_
          refine endF (XF.thenN ?_)
          refine retF ?_
          refine XF.blkR ?_
          refine XF.thenR ?_
          refine XF.thenR ?_
          refine XF.blkR ?_
          refine XF.thenR ?_
          refine XF.res (res1 Try.results42 rfl) ?_
          exact ⟨rint (by unfold autoE; dsimp only; rw [if_neg h0, if_neg h1, if_pos (by unfold ashapeB; rw [if_neg h2, all_false_at hr (by simp [trB, e1]), Bool.and_false])]), hS.below⟩
         ·have hg86 := hc; clear hc
          have e1 : inQ r.f st = true := by simpa using hg86
          refine op_wantedF (d := 86) rfl rfl ?_
          refine op_loadA (vs := [_, _, _, _, _, _, _]) Try.isAgg60 Try.sizeOf60 rfl (CellsAt.own (j := 0) (m := 7) (hS.at_ 1 rfl) rfl) rfl ?_
          refine op_wantedF (d := 86) rfl rfl ?_
          refine op_field (o' := 2) fa_100_2 rfl rfl rfl ?_
          refine op_wantedF (d := 86) rfl rfl ?_
          refine op_load Try.isAgg3 rfl (cell_own (hS.at_ 0 rfl) rfl) rfl ?_
          refine op_wantedF (d := 86) rfl rfl ?_
          refine op_call (vs := [_, _]) hS goes_73 rfl (stR_is ⟨s, st, sy, fa, fl, fc, fs, _, tl, tc, ts⟩ r.t _) rfl ?_
          rintro e W9 ⟨rfl, hb⟩
          refine ⟨_, rfl, hb, fun hS' => ?_⟩
          clear hS; have hS := hS'; clear hS' hb
          refine op_wantedF (d := 86) rfl rfl ?_
          refine op_not rfl rfl ?_
          refine op_pickF rfl rfl rfl ?_
          refine op_move rfl rfl ?_
          refine op_cases (d := 93) rfl (fun hc => ?_) (fun hc => ?_)
          ·have hg93 := hc; clear hc
           have e3 : inQ r.t st = false := by simpa using hg93
           refine op_notF (d := 93) rfl rfl rfl rfl ?_
           refine op_notF (d := 93) rfl rfl rfl rfl ?_
           refine op_notF (d := 93) rfl rfl rfl rfl ?_
           refine op_pickT rfl rfl rfl ?_
           refine op_move rfl rfl ?_
           refine op_notF (d := 98) rfl rfl rfl rfl ?_
           refine op_notF (d := 98) rfl rfl rfl rfl ?_
           refine op_notF (d := 98) rfl rfl rfl rfl ?_
           refine op_notF (d := 98) rfl rfl rfl rfl ?_
           refine op_notF (d := 98) rfl rfl rfl rfl ?_
           refine op_pickT rfl rfl rfl ?_
           refine endF (XF.thenN ?_)
           refine condT rfl ?_
           refine seqF (regF ?_)
           refine op_assign rfl rfl ?_
           refine endF (XF.thenN ?_)
           refine retF ?_
           refine XF.blkR ?_
           refine XF.thenR ?_
           refine XF.thenR ?_
           refine XF.blkR ?_
           refine XF.thenR ?_
           refine XF.res (res1 Try.results42 rfl) ?_
           exact ⟨rint (by unfold autoE; dsimp only; rw [if_neg h0, if_neg h1, if_pos (by unfold ashapeB; rw [if_neg h2, all_false_at hr (by simp [trB, e3]), Bool.and_false])]), hS.below⟩
          ·have hg93 := hc; clear hc
           have e3 : inQ r.t st = true := by simpa using hg93
           refine op_wantedF (d := 93) rfl rfl ?_
           refine op_field (o' := 1) fa_100_1 rfl rfl rfl ?_
           refine op_wantedF (d := 93) rfl rfl ?_
           refine op_load Try.isAgg3 rfl (cell_own (hS.at_ 0 rfl) rfl) rfl ?_
           refine op_wantedF (d := 93) rfl rfl ?_
           refine op_lss rfl rfl rfl ?_
           refine op_pickF rfl rfl rfl ?_
           refine op_move rfl rfl ?_
           refine op_cases (d := 98) rfl (fun hc => ?_) (fun hc => ?_)
           ·have hg98 := of_decide_eq_true hc; clear hc
            refine op_notF (d := 98) rfl rfl rfl rfl ?_
            refine op_notF (d := 98) rfl rfl rfl rfl ?_
            refine op_notF (d := 98) rfl rfl rfl rfl ?_
            refine op_notF (d := 98) rfl rfl rfl rfl ?_
            refine op_notF (d := 98) rfl rfl rfl rfl ?_
            refine op_pickT rfl rfl rfl ?_
            refine endF (XF.thenN ?_)
            refine condT rfl ?_
            refine seqF (regF ?_)
            refine op_assign rfl rfl ?_
            refine endF (XF.thenN ?_)
            refine retF ?_
            refine XF.blkR ?_
            refine XF.thenR ?_
            refine XF.thenR ?_
            refine XF.blkR ?_
            refine XF.thenR ?_
            refine XF.res (res1 Try.results42 rfl) ?_
            exact ⟨rint (by unfold autoE; dsimp only; rw [if_neg h0, if_neg h1, if_pos (by unfold ashapeB; rw [if_neg h2, all_false_at hr (by simp [trB, show ¬ (-1 ≤ r.g) by omega]), Bool.and_false])]), hS.below⟩
           ·have hg98 := of_decide_eq_false hc; clear hc
            refine op_wantedF (d := 98) rfl rfl ?_
            refine op_field (o' := 1) fa_100_1 rfl rfl rfl ?_
            refine op_wantedF (d := 98) rfl rfl ?_
            refine op_load Try.isAgg3 rfl (cell_own (hS.at_ 0 rfl) rfl) rfl ?_
            refine op_wantedF (d := 98) rfl rfl ?_
            refine op_field (o' := 4) fa_60_2 rfl rfl rfl ?_
            refine op_wantedF (d := 98) rfl rfl ?_
            refine op_load Try.isAgg3 rfl (cell_own (hS.at_ 1 rfl) rfl) rfl ?_
            refine op_wantedF (d := 98) rfl rfl ?_
            refine op_geq rfl rfl rfl ?_
            refine op_pickF rfl rfl rfl ?_
            refine endF (XF.thenN ?_)
            refine condF rfl (fun hc => ?_) (fun hc => ?_)
            ·have hc104 := of_decide_eq_true hc; clear hc
             refine seqF (regF ?_)
             refine op_assign rfl rfl ?_
             refine endF (XF.thenN ?_)
             refine retF ?_
             refine XF.blkR ?_
             refine XF.thenR ?_
             refine XF.thenR ?_
             refine XF.blkR ?_
             refine XF.thenR ?_
             refine XF.res (res1 Try.results42 rfl) ?_
             exact ⟨rint (by unfold autoE; dsimp only; rw [if_neg h0, if_neg h1, if_pos (by unfold ashapeB; rw [if_neg h2, all_false_at hr (by simp [trB, show ¬ (r.g < sy) by omega]), Bool.and_false])]), hS.below⟩
            ·have hc104 := of_decide_eq_false hc; clear hc
             refine skipF ?_
             refine XF.blkN ?_
             refine XF.thenN ?_
             refine regF ?_
             refine op_move rfl rfl ?_
             refine op_add rfl rfl (IntWalk.i64_in _ (by omega)) rfl ?_
             refine op_assign rfl rfl ?_
             refine endF ?_
             exact XF.round (tl - (i + 1)) [(1, _), (5, _)] (by omega) ⟨rfl, rfl, trivial⟩ ⟨i + 1, by omega, rfl, rfl, all_take_at hr hall (by simp only [trB, e1, e3, Bool.true_and]; rw [decide_eq_true (show -1 ≤ r.g by omega), decide_eq_true (show r.g < sy by omega)]; rfl), hS.tail.clear⟩
        ·have hc73 := of_decide_eq_false hc; clear hc
         rw [List.take_of_length_le (by omega)] at hall
         have h3 : ¬ ashapeB st sy fs ts = false := by unfold ashapeB; rw [if_neg h2, hfb, hall]; decide
         refine exitF ?_
         refine XF.thenX ?_
         refine XF.thenX ?_
         refine XF.blkX ?_
         refine XF.thenN ?_
         refine seqF ?_
         refine seqF (regF ?_)
         refine op_assign rfl rfl ?_
         refine endF (XF.thenN ?_)
         refine blockF ?_
         refine loopF (fun m l W => ∃ i : Nat, i ≤ tl ∧ m = tl - i ∧ l = [(1, .pointer (some ⟨B1, 0, none⟩)), (7, .int .i64 (i : Int))] ∧ (ts.take i).all (fun t => decide (chkW s t.x = 0)) = true ∧ St w [(B1, [.int .i64 s.f.tag, .int .i64 s.f.dim, .slice s.f.a s.f.len s.f.cap, .int .i64 st, .int .i64 sy, .slice fa fl fc, .slice ta tl tc], 60)] [] [] W) (tl - 0) ([(1, _), (7, _)]) ⟨rfl, rfl, trivial⟩ (⟨0, Nat.zero_le _, rfl, rfl, rfl, hS.clear⟩) ?_
         clear hS
         rintro m l W ⟨i, hi, rfl, rfl, hall2, hS⟩
         refine seqF ?_
         refine seqF (regF ?_)
         refine op_move rfl rfl ?_
         refine op_field (o' := 6) fa_60_4 rfl rfl rfl ?_
         refine op_load Try.isAgg58 rfl (cell_own (hS.at_ 0 rfl) rfl) rfl ?_
         refine op_len Try.underlying58 rfl rfl ?_
         refine op_lss rfl rfl rfl ?_
         refine endF (XF.thenN ?_)
         refine condF rfl (fun hc => ?_) (fun hc => ?_)
         ·have hc109 := of_decide_eq_true hc; clear hc
          have hk : i < tl := by omega
          obtain ⟨r, hr⟩ : ∃ r, ts[i]? = some r := ⟨ts[i]'(by omega), by simp [show i < ts.length by omega]⟩
          obtain ⟨b, off, rfl, hcs⟩ := htrow.at_ hr
          have k1 := CellsAt.agree hS.agree (Nat.zero_le _) hcs
          have hri := htin r (List.mem_of_getElem? hr)
          have k2 : CellsAt W b (off + i * 9 + 3) r.x.f.six := k1.2.2.2
          refine skipF ?_
          refine XF.thenN ?_
          refine seqF ?_
          refine blockF ?_
          refine seqF ?_
          refine regB (m := 10) followsM hS (by kernel_rfl) (by kernel_rfl) rfl ?_
          refine bl_cons 1 rfl (isV _) (stab_isV _) (rgV (li := [(1, _)]) rfl (w_free rfl) ⟨g_fr (by kernel_rfl) rfl, trivial⟩ (fun w hw => rn_field (o' := 0) fa_60_0 rfl rfl) (at_top rfl)) ?_
          refine bl_cons 2 rfl (isV _) (stab_isV _) (rgV (li := [(112, _)]) rfl (w_free rfl) ⟨g_dep 0 (by kernel_rfl) (at_dep rfl rfl rfl), trivial⟩ (fun w hw => rn_loadA (vs := [_, _, _]) Try.isAgg25 Try.sizeOf25 rfl (CellsAt.agree (below_agree hw 0) (Nat.zero_le _) (CellsAt.own (j := 0) (m := 3) (hS.at_ 0 rfl) rfl))) (at_top rfl)) ?_
          refine bl_cons 3 rfl (isV _) (stab_isV _) (rgV (li := [(1, _)]) rfl (w_free rfl) ⟨g_fr (by kernel_rfl) rfl, trivial⟩ (fun w hw => rn_field (o' := 6) fa_60_4 rfl rfl) (at_top rfl)) ?_
          refine bl_cons 4 rfl (isV _) (stab_isV _) (rgV (li := [(114, _)]) rfl (w_free rfl) ⟨g_dep 2 (by kernel_rfl) (at_dep rfl rfl rfl), trivial⟩ (fun w hw => rn_load Try.isAgg58 rfl ((below_agree hw 0).cell (Nat.zero_le _) (cell_own (hS.at_ 0 rfl) rfl))) (at_top rfl)) ?_
          refine bl_cons 5 rfl (isV _) (stab_isV _) (rgV (li := [(7, _)]) rfl (w_free rfl) ⟨g_fr (by kernel_rfl) rfl, trivial⟩ (fun w hw => rn_move rfl) (at_top rfl)) ?_
          refine bl_cons 6 rfl (isV _) (stab_isV _) (rgV (li := [(115, _), (116, _)]) rfl (w_free rfl) ⟨g_dep 3 (by kernel_rfl) (at_dep rfl rfl rfl), g_dep 4 (by kernel_rfl) (at_dep rfl rfl rfl), trivial⟩ (fun w hw => rn_indexA  Try.underlying58 Try.sizeOf100 rfl rfl rfl (by omega) rfl) (at_top rfl)) ?_
          refine bl_cons 7 rfl (isV _) (stab_isV _) (rgV (li := [(117, _)]) rfl (w_free rfl) ⟨g_dep 5 (by kernel_rfl) (at_dep rfl rfl rfl), trivial⟩ (fun w hw => rn_field fa_100_3 rfl rfl) (at_top rfl)) ?_
          refine bl_cons 8 rfl (isV _) (stab_isV _) (rgV (li := [(118, _)]) rfl (w_free rfl) ⟨g_dep 6 (by kernel_rfl) (at_dep rfl rfl rfl), trivial⟩ (fun w hw => rn_loadA (vs := [_, _, _, _, _, _]) Try.isAgg45 Try.sizeOf45 rfl (CellsAt.agree (below_agree hw 0) (Nat.zero_le _) (k2))) (at_top rfl)) ?_
          refine bl_cons 9 rfl (isV (.int .i64 (chkW s r.x))) (stab_isV _) (rg_call [isV _, isV _] rfl goes_72 (w_free rfl) ⟨p_tmp (g_dep 1 (by kernel_rfl) (at_dep rfl rfl rfl)), p_tmp (g_dep 7 (by kernel_rfl) (at_dep rfl rfl rfl)), trivial⟩ (fun vs w' hb hh => by have e := holds_isV (us := [_, _]) hh; subst e; exact (checkR_genY ds d s r.x _ (SIn.below (hS.below.trans (hb.mono hS.below.size)) hs) (WIn.below (hS.below.trans (hb.mono hS.below.size)) hri)).mono fun e w2 h => ⟨_, h.1, rfl, h.2⟩) (at_top rfl)) ?_
          refine bl_cons 10 rfl (isV _) (stab_isV _) (rgV (li := [(120, _)]) rfl (w_free rfl) ⟨g_dep 8 (by kernel_rfl) (at_dep rfl rfl rfl), trivial⟩ (fun w hw => rn_neq rfl rfl) (at_top rfl)) ?_
          refine bl_nil ?_
          intro W10 hbR hS'
          clear hS; have hS := hS'; clear hS'
          refine fin_v ?_
          refine fin_v ?_
          refine fin_v ?_
          refine fin_v ?_
          refine fin_v ?_
          refine fin_v ?_
          refine fin_v ?_
          refine fin_v ?_
          refine fin_v ?_
          refine fin_v ?_
          refine fin_nil ?_
          refine XF.thenN ?_
          refine condF rfl (fun hc => ?_) (fun hc => ?_)
          ·have hc121 := hc; clear hc
           refine seqF (regF ?_)
           refine op_assign rfl rfl ?_
           refine endF (XF.thenN ?_)
           refine retF ?_
           refine XF.blkR ?_
           refine XF.thenR ?_
           refine XF.thenR ?_
           refine XF.blkR ?_
           refine XF.thenR ?_
           refine XF.res (res1 Try.results42 rfl) ?_
           exact ⟨rint (by unfold autoE; dsimp only; rw [if_neg h0, if_neg h1, if_neg h3, if_neg (by rw [all_false_at hr (decide_eq_false (by simpa using hc121))]; decide)]), hS.below⟩
          ·have hc121 := hc; clear hc
           refine skipF ?_
           refine XF.blkN ?_
           refine XF.thenN ?_
           refine regF ?_
           refine op_move rfl rfl ?_
           refine op_add rfl rfl (IntWalk.i64_in _ (by omega)) rfl ?_
           refine op_assign rfl rfl ?_
           refine endF ?_
           exact XF.round (tl - (i + 1)) [(1, _), (7, _)] (by omega) ⟨rfl, rfl, trivial⟩ ⟨i + 1, by omega, rfl, rfl, all_take_at hr hall2 (by simpa using hc121), hS.clear⟩
         ·have hc109 := of_decide_eq_false hc; clear hc
          rw [List.take_of_length_le (by omega)] at hall2
          refine exitF ?_
          refine XF.thenX ?_
          refine XF.thenX ?_
          refine XF.blkX ?_
          refine XF.thenN ?_
          refine seqF (regF ?_)
          refine op_assign rfl rfl ?_
          refine endF (XF.thenN ?_)
          refine retF ?_
          refine XF.res (res1 Try.results42 rfl) ?_
          exact ⟨rint (by unfold autoE; dsimp only; rw [if_neg h0, if_neg h1, if_neg h3, if_pos hall2]), hS.below⟩
theorem autoR_is (ds d : Nat) (a : AV) (w : World) (h : AIn w ds d a) : Calls Try.prog 42 #[a.val] w (fun e w' => e = .returned (.int .i64 (autoE a)) ∧ Below w.heap.size w w') := autoR_c ds d _ _ _ _ _ _ _ _ _ _ _ w h.s h.frow h.flen h.trow h.tlen h.tin h.fmax h.tmax
end Go.Proofs.Ytpkcaabbcoiiiaa
namespace Go.Proofs.Ytpkcaabbcoiiiaa
open Go Go.RowKit
theorem fa_106_0 (w : World) (b o : Nat) : (Instr.fieldAt 106 (.pointer (some ⟨b, o, none⟩)) 0).run Try.prog w = .ok (.pointer (some ⟨b, o + 0, none⟩)) w := by
 simp [Instr.fieldAt, run_underlying Try.underlying106, Instr.sureAddr, go_sem, Addr.add_lit]
theorem fa_106_1 (w : World) (b o : Nat) : (Instr.fieldAt 106 (.pointer (some ⟨b, o, none⟩)) 1).run Try.prog w = .ok (.pointer (some ⟨b, o + 9, none⟩)) w := by
 simp [Instr.fieldAt, run_underlying Try.underlying106, Instr.sureAddr, go_sem, Addr.add_lit]
theorem inf_100 : Try.prog.info? 100 = some Try.t100 := by kernel_rfl
theorem qput_is (S : PS) (sf : SF) (f0 : WF) (sq : SF) (zt yt : Int) (vf v1 : Value) (n : Nat) (xs1 : List Value) (B : Nat) (Ot : Own) (K : List (Nat × World)) (w0 : World) (fr sm tt : Int) (w : World) (hS0 : St w0 ((B, mkC sf f0 sq zt yt vf v1, 106) :: Ot) [⟨v1, n, xs1, 100, 9⟩] K w) (hn : n ≤ 100000) (hsi : SIs w0 S sf) (hok : S.ok) :
  Calls Try.prog 47 #[.pointer (some ⟨B, 0, none⟩), .int .i64 fr, .int .i64 sm, .int .i64 tt] w (fun e w' => ∃ (u : Value) (f : WF) (Kn : List (Nat × World)), e = .returned (.tuple #[]) ∧ (∀ q ∈ K, q ∈ Kn) ∧ Held w0 Kn (fun W2 => XIs W2 S f (oneX S)) ∧ St w0 ((B, mkC sf f0 sq zt yt vf u, 106) :: Ot) [⟨u, n + 1, xs1 ++ nineP fr sm tt f, 100, 9⟩] Kn w') := by
 refine enterF (args := [.pointer (some ⟨B, 0, none⟩), .int .i64 fr, .int .i64 sm, .int .i64 tt]) Try.func47 rfl Try.ntmps47 rfl ?_
 have hS := hS0
 refine regBPC (p := 16) (k := 20) (gi := 0) (m := 1) followsM hS rfl rfl (by kernel_rfl) (by kernel_rfl) (by kernel_rfl) (fun d hd => by cases hd) rfl rfl Try.underlying58 inf_100 rfl rfl (by show 0 < 9; decide) rfl rfl rfl (by dsimp only; simp only [maxLen]; omega) (by dsimp only; show _ * 120 ≤ _; omega) ?_
 refine blp_late 1 rfl rfl (rgV (li := [(0, _)]) rfl (w_free rfl) ⟨g_fr (by kernel_rfl) rfl, trivial⟩ (fun w hw => rn_move rfl) (at_top rfl)) (lgV (li := [(0, _)]) rfl (w_free rfl) ⟨g_fr (by kernel_rfl) rfl, trivial⟩ (fun w => rn_move rfl) (at_top rfl) rfl) ?_
 refine blp_v 2 rfl rfl (by kernel_rfl) (rgV (li := [(0, _)]) rfl (w_free rfl) ⟨g_fr (by kernel_rfl) rfl, trivial⟩ (fun w hw => rn_move rfl) (at_top rfl)) ?_
 refine blp_v 3 rfl rfl (by kernel_rfl) (rgV (li := [(9, _)]) rfl (w_free rfl) ⟨g_dep 1 (by kernel_rfl) (at_dep rfl rfl rfl), trivial⟩ (fun w hw => rn_nilCheck rfl) (at_top rfl)) ?_
 refine blp_v 4 rfl rfl (by kernel_rfl) (rgV (li := [(10, _)]) rfl (w_free rfl) ⟨g_dep 2 (by kernel_rfl) (at_dep rfl rfl rfl), trivial⟩ (fun w hw => rn_field (o' := 9) fa_106_1 rfl rfl) (at_top rfl)) ?_
 refine blp_v 5 rfl rfl (by kernel_rfl) (rgV (li := [(11, _)]) rfl (w_free rfl) ⟨g_dep 3 (by kernel_rfl) (at_dep rfl rfl rfl), trivial⟩ (fun w hw => rn_field (o' := 15) fa_60_4 rfl rfl) (at_top rfl)) ?_
 refine blp_v 6 rfl rfl (by kernel_rfl) (rgV (li := [(12, _)]) rfl (w_free rfl) ⟨g_dep 4 (by kernel_rfl) (at_dep rfl rfl rfl), trivial⟩ (fun w hw => rn_load Try.isAgg58 rfl ((below_agree hw 0).cell (Nat.zero_le _) (cell_own (hS.at_ 0 rfl) rfl))) (at_top rfl)) ?_
 refine blp_v 7 rfl rfl (by kernel_rfl) (rgV (li := [(1, _)]) rfl (w_free rfl) ⟨g_fr (by kernel_rfl) rfl, trivial⟩ (fun w hw => rn_move rfl) (at_top rfl)) ?_
 refine blp_v 8 rfl rfl (by kernel_rfl) (rgV (li := [(2, _)]) rfl (w_free rfl) ⟨g_fr (by kernel_rfl) rfl, trivial⟩ (fun w hw => rn_move rfl) (at_top rfl)) ?_
 refine blp_v 9 rfl rfl (by kernel_rfl) (rgV (li := [(3, _)]) rfl (w_free rfl) ⟨g_fr (by kernel_rfl) rfl, trivial⟩ (fun w hw => rn_move rfl) (at_top rfl)) ?_
 refine blp_v 10 rfl rfl (by kernel_rfl) (rgV (li := [(0, _)]) rfl (w_free rfl) ⟨g_fr (by kernel_rfl) rfl, trivial⟩ (fun w hw => rn_move rfl) (at_top rfl)) ?_
 refine blp_v 11 rfl rfl (by kernel_rfl) (rgV (li := [(17, _)]) rfl (w_free rfl) ⟨g_dep 9 (by kernel_rfl) (at_dep rfl rfl rfl), trivial⟩ (fun w hw => rn_nilCheck rfl) (at_top rfl)) ?_
 refine blp_v 12 rfl rfl (by kernel_rfl) (rgV (li := [(18, _)]) rfl (w_free rfl) ⟨g_dep 10 (by kernel_rfl) (at_dep rfl rfl rfl), trivial⟩ (fun w hw => rn_field (o' := 0) fa_106_0 rfl rfl) (at_top rfl)) ?_
 refine blp_v 13 rfl rfl (by kernel_rfl) (rgV (li := [(19, _)]) rfl (w_free rfl) ⟨g_dep 11 (by kernel_rfl) (at_dep rfl rfl rfl), trivial⟩ (fun w hw => rn_loadA (vs := [_, _, _, _, _, _, _, _, _]) Try.isAgg84 Try.sizeOf84 rfl (CellsAt.agree (below_agree hw 0) (Nat.zero_le _) (CellsAt.own (j := 0) (m := 9) (hS.at_ 0 rfl) rfl))) (at_top rfl)) ?_
 refine blp_q 14 rfl rfl (by kernel_rfl) (isNew w.heap.size S (oneX S)) (stab_isNew) (rg_call [isV _] rfl goes_63 (w_free rfl) ⟨p_tmp (g_dep 12 (by kernel_rfl) (at_dep rfl rfl rfl)), trivial⟩ (fun vs w' hb hh => by have e := holds_isV (us := [_]) hh; subst e; exact wret_gives hb.size (ringOne_is S sf f0 w' (hsi.below (hS.below.trans (hb.mono hS.below.size))) hok)) (at_top rfl)) ?_
 refine blp_q 15 rfl rfl (by kernel_rfl) (isTrP w.heap.size fr sm tt S (oneX S)) (stab_trP) (rgPs [(6, 14, isV _), (7, 15, isV _), (8, 16, isV _), (13, 21, isNew w.heap.size S (oneX S))] rfl ⟨⟨by kernel_rfl, at_dep rfl rfl rfl⟩, ⟨by kernel_rfl, at_dep rfl rfl rfl⟩, ⟨by kernel_rfl, at_dep rfl rfl rfl⟩, ⟨by kernel_rfl, at_dep rfl rfl rfl⟩, trivial⟩ bld_trP (at_top rfl)) ?_
 refine blp_q 16 rfl rfl (by kernel_rfl) (isTrRow w.heap.size fr sm tt S (oneX S)) (stab_trRow) (rg_trRow rfl (g_dep 14 (by kernel_rfl) (at_dep rfl rfl rfl)) (at_top rfl)) ?_
 refine blp_app 17 rfl rfl ?_
 refine blp_late 18 rfl rfl (rgV (li := [(8, _)]) rfl (w_free rfl) ⟨g_dep 0 (by kernel_rfl) (at_dep rfl rfl rfl), trivial⟩ (fun w hw => rn_nilCheck rfl) (at_top rfl)) (lgV (li := [(8, _)]) rfl (w_free rfl) ⟨g_dep 0 (by kernel_rfl) (at_dep rfl rfl rfl), trivial⟩ (fun w => rn_nilCheck rfl) (at_top rfl) rfl) ?_
 refine blp_late 19 rfl rfl (rgV (li := [(25, _)]) rfl (w_free rfl) ⟨g_dep 17 (by kernel_rfl) (at_dep rfl rfl rfl), trivial⟩ (fun w hw => rn_field (o' := 9) fa_106_1 rfl rfl) (at_top rfl)) (lgV (li := [(25, _)]) rfl (w_free rfl) ⟨g_dep 17 (by kernel_rfl) (at_dep rfl rfl rfl), trivial⟩ (fun w => rn_field (o' := 9) fa_106_1 rfl rfl) (at_top rfl) rfl) ?_
 refine blp_late 20 rfl rfl (rgV (li := [(26, _)]) rfl (w_free rfl) ⟨g_dep 18 (by kernel_rfl) (at_dep rfl rfl rfl), trivial⟩ (fun w hw => rn_field (o' := 15) fa_60_4 rfl rfl) (at_top rfl)) (lgV (li := [(26, _)]) rfl (w_free rfl) ⟨g_dep 18 (by kernel_rfl) (at_dep rfl rfl rfl), trivial⟩ (fun w => rn_field (o' := 15) fa_60_4 rfl rfl) (at_top rfl) rfl) ?_
 refine blp_nil ⟨_, _, g_dep 5 (by kernel_rfl) (at_dep rfl rfl rfl), g_dep 15 (by kernel_rfl) (at_dep rfl rfl rfl), rowOf_tr9, ?_⟩
 intro A1 v1 news1 W1 hbR hqA1 hS'
 clear hS; have hS := hS'; clear hS'
 have hqN := hqA1
 refine fin_v ?_
 refine fin_v ?_
 refine fin_v ?_
 refine fin_v ?_
 refine fin_v ?_
 refine fin_v ?_
 refine fin_v ?_
 refine fin_v ?_
 refine fin_v ?_
 refine fin_v ?_
 refine fin_v ?_
 refine fin_v ?_
 refine fin_v ?_
 refine fin_p ?_; intro _ _
 refine fin_p ?_; intro _ _
 refine fin_p ?_; intro _ _
 refine fin_v ?_
 refine fin_v ?_
 refine fin_v ?_
 refine fin_v ?_
 obtain ⟨wf, rfl, hxn⟩ := hqN
 have HX : Held w0 ((w.heap.size, A1) :: K) (fun W2 => XIs W2 S wf (oneX S)) := fun h2 hk => (hxn.agree (h2.kept (w.heap.size, A1) (hk _ List.mem_cons_self)).1).is
 refine fin_nil ?_
 refine op_store (i := 0) (cs' := [_, _, _, _, _, _, _, _, _, _, _, _, _, _, _, _]) (O' := (_ :: Ot)) hS Try.sizeOf58 rfl rfl (by first | rfl | exact (hS.oneV 0 _ rfl :) | exact (hS.oneV 1 _ rfl :) | exact (hS.oneV 2 _ rfl :) | exact (hS.oneV 3 _ rfl :)) rfl rfl rfl rfl ?_
 clear hS; intro W2 hS
 refine endF ?_
 refine XF.resN (res0 Try.results47) ?_
 exact ⟨_, wf, _, rfl, fun q hq => List.mem_cons_of_mem _ hq, HX, hS⟩
end Go.Proofs.Ytpkcaabbcoiiiaa
namespace Go.Proofs.Ytpkcaabbcoiiiaa
open Go Go.RowKit
section
variable {P : Program} {ops : Array Oper} {Q : Exit → Act → World → Prop} {σ : Type}
theorem tailT_all {ops : Array Oper} {k : Nat} (hk : ops.size = k) : tailT ops k = true := List.all_eq_true.2 fun j hj => by
 rw [decide_eq_true (show j < k by have := List.mem_range.1 hj; omega)]; rfl
theorem getD_out {L : Array Bool} {i : Nat} (h : L.size ≤ i) : L.getD i false = false := by
 rw [Array.getD_eq_getD_getElem?, Array.getElem?_eq_none (by omega)]; rfl
theorem region_ghostL {t0 : Array Value} {d0 : List Deferred} {G : σ → World → Prop} {I : σ → Nat → Value → World → Prop} {V : σ → Array Bool → Prop} {k : Nat} (hk : ops.size = k) (ht : tidyR ops t0.size = true)
  (hstep : ∀ i, i < k → GStep P ops Q t0 G I V i)
  (hfin : ∀ s L a w, RInvG ops t0 d0 G I V s L a w → (∀ i, i < k → L.getD i false = true) → wpList P ops Q (ops.toList.drop k) a w) :
  ∀ (fuel : Nat) (s : σ) (L : Array Bool) (a : Act) (w : World), L.size = ops.size → L.toList.count false ≤ fuel → ClosedG ops L → RInvG ops t0 d0 G I V s L a w → wpAny P .any ops Q fuel L a w := by
 intro fuel
 induction fuel with
 | zero =>
  intro s L a w hs hc hcl h
  have hall : ∀ i, i < k → L.getD i false = true := fun i hi => by
   cases hb : L.getD i false with
   | true => rfl
   | false =>
    have := cnt_set _ _ (cnt_getD (by omega) hb)
    omega
  exact tail_run (fun _ _ => trivial) (tailT_all hk) ht 0 k 0 L a w (by omega) (Nat.le_refl _) (Nat.le_refl _) hs hcl hall (fun i hi => getD_out (by omega)) (hfin s L a w h hall)
 | succ fuel ih =>
  intro s L a w hs hc hcl h
  by_cases hall : ∀ i, i < k → L.getD i false = true
  ·exact tail_run (fun _ _ => trivial) (tailT_all hk) ht 0 k (fuel + 1) L a w (by omega) (Nat.le_refl _) (Nat.zero_le _) hs hcl hall (fun i hi => getD_out (by omega)) (hfin s L a w h hall)
  ·refine ⟨fun hr => ?_, fun i hi => ?_⟩
   ·exfalso; apply hall
    intro i hi
    have h1 := ready_nil ht hs hr i (by omega)
    rw [Array.getD_eq_getD_getElem?, Array.getElem?_eq_getElem (by omega)] at h1 ⊢
    simpa using h1
   ·obtain ⟨his, hr⟩ := ready_g hi hs
    have hik : i < k := by omega
    have hc1 := cnt_set _ _ (cnt_getD (by omega) hr.1)
    refine wpOp_mono ?_ (hstep i hik s L a w (fun t ht => h.frame t ht) h.glob h.cons hs hcl hr (fun j d hw => ?_))
    ·rintro a' w' ⟨s', v, rfl, hV, hG, hI, hst⟩
     refine ih s' _ _ _ (by simpa using hs) ?_ (hcl.next hr (by omega)) ⟨by rw [put_size]; exact h.size, by rw [put_defers]; exact h.defers, fun t hf => ?_, hG, hV, fun j d hd hj => ?_⟩
     ·rw [Array.toList_setIfInBounds]; omega
     ·rw [put_other ?_]
      ·exact h.frame t hf
      ·intro hd
       obtain ⟨o, ho, hd⟩ := Option.bind_eq_some_iff.1 hd
       have := Array.all_eq_true'.1 hf o (Array.mem_of_getElem? ho)
       simp [hd] at this
     ·by_cases hji : j = i
      ·subst hji
       rw [put_at hd (by rw [h.size]; exact (tidy_dst ht hd).1)]
       exact hI d hd
      ·rw [getD_set_ne false (Ne.symm hji)] at hj
       rw [put_other (fun e => hji ((tidy_dst ht e).2 j hd))]
       exact hst j d hd (h.done j d hd hj)
    ·have : j ∈ aft ops i := by
      unfold waitsFor at hw
      unfold aft
      cases ho : ops[i]? with
      | none => simp [ho] at hw
      | some o =>
       simp only [ho, Bool.and_eq_true, beq_iff_eq] at hw
       obtain ⟨e, he, h2⟩ := Array.any_eq_true'.1 hw.1
       simp only [Bool.and_eq_true, beq_iff_eq] at h2
       exact List.mem_map.2 ⟨e, List.mem_filter.2 ⟨Array.mem_toList_iff.2 he, h2.2⟩, h2.1⟩
     have hd : (ops[j]?).bind (·.dst) = some d := by
      unfold waitsFor at hw
      simp only [Bool.and_eq_true, beq_iff_eq] at hw
      exact hw.2
     exact h.done j d hd (hr.2 j this)
end
section
variable {P : Program} {n : Nat} {Q : Exit → Act → World → Prop} {l : Fr} {w0 W : World} {ops : Array Oper} {os : List Oper} {K : List (Nat × World)} {L : List Asr} {i : Nat}
variable {al : List Nat} {ca : Nat → Option Value → List Value} {ta : Nat → TypeId} {Os : Option Value → Own} {Gs : Option Value → Grows} {lo ef jy : Nat} {s : Sg}
variable {d : Nat} {op : Op} {ty : TypeId} {pos : String} {aft_ : Array Edge} {v : Value} {gd : Option (Nat × Bool)}
theorem regSL {id k : Nat} {ds : List Nat} (hm : P.follows .mixedOrders = true) (hlo : lo = W.heap.size) (hS : St w0 (Os none) (Gs none) K W) (hk : os.length = k) (ht : tidyR os.toArray n = true) (hal : al.all (fun a => Nat.blt a k) = true) (hnd : al.Nodup) (hea : al.contains ef = false)
  (hev : Nat.blt ef k = true) (hdst : (List.range k).all (fun j => Nat.beq j ef || ((os.toArray[j]?).bind (·.dst)).isSome) = true) (hds : (os.drop k).all (fun o => match o.dst with | some d => ds.contains d | none => true) = true)
  (h : BLS P n os.toArray Q l w0 K lo al ef jy ca ta Os Gs (fun Lr => ∀ (Bf : Nat → Nat) (y : Value) (W' : World) (Ks : List (Nat × World)), W.heap.size ≤ W'.heap.size → (∀ q ∈ Ks, lo ≤ q.1) → St w0 (al.map (fun a => (Bf a, ca a (some y), ta a)) ++ Os (some y)) (Gs (some y)) (Ks ++ K) W' →
   (∀ {O2 G2 K2 W2}, St w0 O2 G2 K2 W2 → (∀ q ∈ Ks, q ∈ K2) → SameX lo (XB (al.map (fun a => (Bf a, ca a (some y), ta a)) ++ Os (some y)) (Gs (some y))) W' W2) →
   FinI (os.take k) (finL al ef jy lo (XB (al.map (fun a => (Bf a, ca a (some y), ta a)) ++ Os (some y)) (Gs (some y))) Bf y 0 Lr.reverse) (dropF ds l) (fun l' W' => OpsF P n os.toArray Q (os.drop k) l' W') W') k [] 0) : CodeF P n (.region id os.toArray true) Q l W := by
 obtain ⟨Lr, h1, h2, hfin⟩ := bls_run ht k 0 [] rfl (fun j _ => by rfl) (fun i hi => by omega) h
 rw [Nat.zero_add] at h1 h2
 have hal' : ∀ a ∈ al, a < k := fun a ha => Nat.lt_of_lt_of_le (Nat.lt_succ_self _) (Nat.le_of_ble_eq_true (List.all_eq_true.1 hal a ha))
 have hea' : ef ∉ al := fun h => by rw [List.contains_iff_mem.2 h] at hea; cases hea
 intro a ha
 refine wp_region_any hm (region_ghostL (t0 := a.tmps) (d0 := a.defers) (V := VG al ef) (I := IG al ef jy lo ca ta Os Gs Lr.reverse) (G := GG w0 K lo ca ta Os Gs) (k := k) (by simpa using hk) (by rw [ha.size]; exact ht) (fun i hi => (h2 i hi).step a ha) ?_ _ ⟨none, []⟩ _ _ _ (by simp) (count_rep _) (fun j hj => by rw [Array.getD_eq_getD_getElem?, Array.getElem?_replicate] at hj; split at hj <;> simp at hj) ⟨rfl, rfl, fun _ _ => rfl, ⟨by unfold OE; exact hS.drew, by rw [hlo]; exact Nat.le_refl _, (fun q hq => by cases hq)⟩, ⟨fun a _ => ?_, (fun q hq => by cases hq), List.Pairwise.nil, ?_⟩, fun i d _ hj => ?_⟩)
 ·intro s LB a' W' hR hdone
  obtain ⟨hG, hG2, hG3⟩ := hR.glob
  obtain ⟨v1, v2, v3, v4⟩ := hR.cons
  obtain ⟨ev, bs⟩ := s
  have hall : ∀ x ∈ al, (x, bAt bs x) ∈ bs := fun x hx => bAt_mem ((v1 x hx).1 (hdone x (hal' x hx)))
  obtain ⟨y, hy⟩ : ∃ y, ev = some y := by
   have h3 : ev.isSome = true := v4.1 (hdone ef (Nat.lt_of_lt_of_le (Nat.lt_succ_self _) (Nat.le_of_ble_eq_true hev)))
   exact Option.isSome_iff_exists.1 h3
  subst hy
  have hperm : bs.Perm (al.map (fun x => (x, bAt bs x))) := by
   refine (List.perm_ext_iff_of_nodup (v3.imp (fun h e => h (by rw [e]))) ?_).2 fun q => ?_
   ·refine List.Pairwise.map _ (fun x y (hxy : x ≠ y) => ?_) hnd
    intro e; exact hxy (congrArg Prod.fst e)
   ·constructor
    ·intro hq
     have h3 := hall q.1 (v2 q hq)
     have h4 := bAt_uniq v3 hq h3 rfl
     rw [h4]
     exact List.mem_map.2 ⟨q.1, v2 q hq, rfl⟩
    ·intro hq
     obtain ⟨x, hx, rfl⟩ := List.mem_map.1 hq
     exact hall x hx
  have hO : (OE ca ta Os ⟨some y, bs⟩).Perm (al.map (fun a => (bAt bs a, ca a (some y), ta a)) ++ Os (some y)) := by
   unfold OE
   refine List.Perm.append_right _ ?_
   have := hperm.map (fun q : Nat × Nat => (q.2, ca q.1 (some y), ta q.1))
   rw [List.map_map] at this
   exact this
  have hG' := hG.perm hO
  have hX : ∀ b, XB (OE ca ta Os ⟨some y, bs⟩) (Gs (some y)) b ↔ XB (al.map (fun a => (bAt bs a, ca a (some y), ta a)) ++ Os (some y)) (Gs (some y)) b := fun b => by
   unfold XB
   constructor
   ·rintro (⟨p, hp, e⟩ | h); exact .inl ⟨p, hO.mem_iff.1 hp, e⟩; exact .inr h
   ·rintro (⟨p, hp, e⟩ | h); exact .inl ⟨p, hO.mem_iff.2 hp, e⟩; exact .inr h
  obtain ⟨Ks, c1, ⟨qw, c2, c3⟩, c4⟩ := cuts (((al.map (fun a => (bAt bs a, ca a (some y), ta a)) ++ Os (some y)).map (·.1)) ++ (Gs (some y)).filterMap (fun g => g.v.ownBlock)) lo W'
  have hG4 := hG'.more Ks (fun q hq => ⟨(c1 q hq).2.1, fun p hp => (c1 q hq).2.2 p.1 (List.mem_append_left _ (List.mem_map.2 ⟨p, hp, rfl⟩)), fun g hg b hb => (c1 q hq).2.2 b (List.mem_append_right _ (List.mem_filterMap.2 ⟨g, hg, hb⟩))⟩)
  have hcov : ∀ {O2 G2 K2 W2}, St w0 O2 G2 K2 W2 → (∀ q ∈ Ks, q ∈ K2) → SameX lo (XB (al.map (fun a => (bAt bs a, ca a (some y), ta a)) ++ Os (some y)) (Gs (some y))) W' W2 := fun {O2 G2 K2 W2} h2 hq => by
   refine ⟨⟨h2.below.os.trans hG.below.os.symm, h2.below.tape.trans hG.below.tape.symm, h2.below.output.trans hG.below.output.symm⟩, ?_, fun b b1 b2 b3 => ?_⟩
   ·have := (h2.kept qw (hq qw c2)).1.1; rw [c3] at this; exact this
   ·obtain ⟨q, q1, q2, q3⟩ := c4 b b1 b2 (fun hb => b3 (by
     rcases List.mem_append.1 hb with hb | hb
     ·obtain ⟨p, hp, rfl⟩ := List.mem_map.1 hb
      exact .inl ⟨p, hp, rfl⟩
     ·obtain ⟨g, hg, e⟩ := List.mem_filterMap.1 hb
      exact .inr ⟨g, hg, e⟩))
    exact ((h2.kept q (hq q q1)).1.2 b q2 q3).trans ((c1 q q1).2.1.2 b q2 q3).symm
  have htk : (os.take k).length = k := by simp; omega
  refine fin_hasS (os.take k) (finL al ef jy lo (XB (al.map (fun a => (bAt bs a, ca a (some y), ta a)) ++ Os (some y)) (Gs (some y))) (bAt bs) y 0 Lr.reverse) (dropF ds l) (fun i d hi hd' => ?_) (fun i hi hd' => ?_) (hR.size.trans ha.size) (hR.defers.trans ha.defers) ?_ (fun l' h ha' => ?_) (hfin (bAt bs) y W' Ks (by rw [← hlo]; exact hG2) (fun q hq => (c1 q hq).1) hG4 hcov)
  ·have hik : i < k := by omega
   have hd2 : (os.toArray[i]?).bind (·.dst) = some d := by rw [List.getElem?_take, if_pos hik] at hd'; simpa using hd'
   obtain ⟨i1, i2, i3, i4⟩ := hR.done i d hd2 (hdone i hik)
   rw [atI_finL Lr.reverse 0 i (by simp; omega), Nat.add_zero]
   cases hc1 : al.contains i with
   | true =>
    rw [cond_true]
    obtain ⟨B, hB, e⟩ := i1 (List.contains_iff_mem.1 hc1)
    have := bAt_uniq v3 hB (hall i (List.contains_iff_mem.1 hc1)) rfl
    show _ = _
    rw [e, show B = bAt bs i from congrArg Prod.snd this]
   | false =>
    rw [cond_false]
    have hni : i ∉ al := fun hm' => by rw [List.contains_iff_mem.2 hm'] at hc1; cases hc1
    cases hc2 : Nat.beq i ef with
    | true =>
     rw [cond_true]
     have h5 := i2 (Nat.eq_of_beq_eq_true hc2)
     exact (Option.some.inj h5).symm
    | false =>
     rw [cond_false]
     have hne : i ≠ ef := fun e => by rw [e, Nat.beq_refl] at hc2; cases hc2
     have h6 : AwS lo (XB (al.map (fun a => (bAt bs a, ca a (some y), ta a)) ++ Os (some y)) (Gs (some y))) (atI Lr.reverse i) (a'.tmps.getD d undef) W' := fun w2 hw2 => i4 hni hne w2 ⟨hw2.1, hw2.2.1, fun b b1 b2 b3 => hw2.2.2 b b1 b2 (fun hb => b3 ((hX b).2 hb))⟩
     cases hc3 : Nat.beq i jy with
     | true =>
      rw [cond_true]
      refine ⟨?_, h6⟩
      exact i3 (Nat.eq_of_beq_eq_true hc3) y rfl
     | false => rw [cond_false]; exact h6
  ·have hik : i < k := by omega
   have h3 := List.all_eq_true.1 hdst i (List.mem_range.2 hik)
   rw [Bool.or_eq_true] at h3
   have hd2 : (os.toArray[i]?).bind (·.dst) = none := by rw [List.getElem?_take, if_pos hik] at hd'; simpa using hd'
   rcases h3 with h3 | h3
   ·rw [atI_finL Lr.reverse 0 i (by simp; omega), Nat.add_zero]
    have hc1 : al.contains i = false := by rw [Nat.eq_of_beq_eq_true h3]; exact hea
    rw [hc1, cond_false, h3, cond_true]
    exact ⟨y, rfl⟩
   ·rw [hd2] at h3; cases h3
  ·intro t v hv hno
   have hl := look_dropF hv (look_dropF_not hv)
   have hnt := look_dropF_not hv
   rw [hR.frame t ?_]
   ·exact ha.at_ t v hl
   ·unfold freeT; rw [Array.all_eq_true']; intro o' ho'
    have ho2 : o' ∈ os := by simpa using ho'
    rw [← List.take_append_drop k os] at ho2
    rcases List.mem_append.1 ho2 with ho2 | ho2
    ·simpa using hno o' ho2
    ·have h5 := List.all_eq_true.1 hds o' ho2
     cases hx : o'.dst with
     | none => simp
     | some d =>
      rw [hx] at h5
      simp
      intro e; subst e
      exact hnt (List.contains_iff_mem.1 h5)
  ·have := h a' ha'
   simpa using this
 ·rw [Array.getD_eq_getD_getElem?, Array.getElem?_replicate]
  constructor
  ·intro h3; split at h3 <;> simp at h3
  ·rintro ⟨B, hB⟩; cases hB
 ·rw [Array.getD_eq_getD_getElem?, Array.getElem?_replicate]
  constructor
  ·intro h3; split at h3 <;> simp at h3
  ·intro h3; cases h3
 ·rw [Array.getD_eq_getD_getElem?, Array.getElem?_replicate] at hj
  split at hj <;> simp at hj
end
section
variable {P : Program} {n : Nat} {Q : Exit → Act → World → Prop} {l : Fr} {w0 W : World} {ops : Array Oper} {os : List Oper} {K : List (Nat × World)} {L : List Asr} {i : Nat} {O : Own} {G : Grows}
variable {al : List Nat} {zc : Nat → List Value} {ta : Nat → TypeId} {lo ef jy : Nat} {d : Nat} {ty : TypeId} {pos : String} {aft_ : Array Edge} {v : Value}
def osY (O : Own) (j jx B : Nat) (cs : List Value) (U : TypeId) : Option Value → Own
 | none => O
 | some y => O.set j (B, splice cs jx y.cells.toList, U)
theorem osY_at {O : Own} {j jx B i : Nat} {cs : List Value} {U : TypeId} {ev : Option Value} {p : Nat × List Value × TypeId} (h : O[i]? = some p) (hij : Nat.beq i j = false) : (osY O j jx B cs U ev)[i]? = some p := by
 cases ev with
 | none => exact h
 | some y =>
  show (O.set j _)[i]? = _
  rw [List.getElem?_set_ne (fun e => by rw [e, Nat.beq_refl] at hij; cases hij)]; exact h
theorem eff_stP {T U : TypeId} {x : Operand} {tyy B m : Nat} {cs : List Value} {py : Asr} (j jx : Nat) (li : Fr) (hal : al.contains ef = false) (hij : Nat.beq ef jy = false) (hi : ops[ef]? = some ⟨none, .store T x (.tmp tyy), ty, pos, aft_, none⟩) (hjy : (ops[jy]?).bind (·.dst) = some tyy) (hwy : waitsFor ops ef jy tyy = true) (hja : al.contains jy = false) (hLy : atI L jy = py) (hNo : NoAsr al ef L) (hli : AllO n ops l L ef li) (hx : evL li x = some (.pointer (some ⟨B, jx, none⟩)))
  (hO : O[j]? = some (B, cs, U)) (hsz : ∀ w, (sizeOf T).run P w = .ok m w) (hpy : ∀ v w, py v w → ∃ vs : List Value, v.cells = vs.toArray ∧ vs.length = m ∧ vs.all Value.oneCell' = true) (hjm : Nat.ble (jx + m) cs.length = true) : SG P n ops Q l w0 K lo al ef jy (caNo zc) ta (osY O j jx B cs U) (gsNo G) L ef :=
 sg_eff hal hij hi fun t0 a bs w h0 hF hG hbs hD => by
  have hD' := deps_has h0 hF hD (fun j d _ hj => hNo j hj)
  have ex := allO_has h0 hF hD' hli x _ hx
  have hy := ((hD jy tyy hwy).2.2.2 (fun h => by rw [List.contains_iff_mem.2 h] at hja; cases hja) (fun e => by rw [e, Nat.beq_refl] at hij; cases hij)).here
  rw [hLy] at hy
  obtain ⟨vs, hc, hl, h1⟩ := hpy _ _ hy
  have hcl : (a.eval (.tmp tyy)).cells.toList = vs := by rw [hc]
  have hOk : (OE (caNo zc) ta (osY O j jx B cs U) ⟨none, bs⟩)[bs.length + j]? = some (B, cs, U) := by
   unfold OE
   rw [List.getElem?_append_right (by simp)]
   simpa [osY] using hO
  have hXB : XB (OE (caNo zc) ta (osY O j jx B cs U) ⟨none, bs⟩) (gsNo G none) B := .inl ⟨_, List.mem_of_getElem? hOk, rfl⟩
  have hrun := storeAt_many (P := P) hsz hc hl h1 (hG.1.at_ _ hOk) (j := jx) (Nat.le_of_ble_eq_true hjm)
  have hO' : OE (caNo zc) ta (osY O j jx B cs U) ⟨some (a.eval (.tmp tyy)), bs⟩ = (OE (caNo zc) ta (osY O j jx B cs U) ⟨none, bs⟩).set (bs.length + j) (B, splice cs jx vs, U) := by
   unfold OE
   rw [List.set_append_right _ _ (by simp)]
   congr 1
   simp [osY, hcl]
  refine wp_store hi rfl rfl rfl (by rw [ex]; exact hrun) ⟨undef, a.eval (.tmp tyy), rfl, (fun d hd => by cases hd), ?_, setMany_sameX hXB, ?_, fun d hd => ?_⟩
  ·rw [hO']
   exact hG.1.setMany _ vs jx hOk
  ·rintro b (⟨p, hp, rfl⟩ | h)
   ·rw [hO'] at hp
    rcases List.mem_or_eq_of_mem_set hp with hp | rfl
    ·exact .inl (.inl ⟨p, hp, rfl⟩)
    ·exact .inl hXB
   ·exact .inl (.inr h)
  ·rw [hjy] at hd; cases hd; rfl
end
section
variable {P : Program} {n : Nat} {Q : Exit → Act → World → Prop} {l : Fr} {w0 W : World} {ops : Array Oper} {os : List Oper} {K : List (Nat × World)} {L : List Asr} {i : Nat}
variable {al : List Nat} {ca : Nat → Option Value → List Value} {ta : Nat → TypeId} {Os : Option Value → Own} {Gs : Option Value → Grows} {lo ef jy : Nat} {s : Sg}
variable {d : Nat} {op : Op} {ty : TypeId} {pos : String} {aft_ : Array Edge} {v : Value} {gd : Option (Nat × Bool)}
end
end Go.Proofs.Ytpkcaabbcoiiiaa
namespace Go.Proofs.Ytpkcaabbcoiiiaa
open Go Go.RowKit
section
variable {n : Nat} {Q : Exit → Act → World → Prop} {l : Fr} {w0 W : World} {ops : Array Oper} {os : List Oper} {K : List (Nat × World)} {L : List Asr} {i : Nat}
variable {al : List Nat} {ca : Nat → Option Value → List Value} {ta : Nat → TypeId} {Os : Option Value → Own} {Gs : Option Value → Grows} {lo ef jy : Nat} {s : Sg}
variable {d : Nat} {ty : TypeId} {pos : String} {aft_ : Array Edge}
theorem sg_ofs {P : Program} {op : Op} (dd : List (Nat × Nat × Asr)) (hal : al.contains i = false) (hie : Nat.beq i ef = false) (hij : earlyJ ops ef jy i = true) (hi : ops[i]? = some ⟨some d, op, ty, pos, aft_, none⟩) (hNo : NoAsr al ef L) {q : Asr} (hds : DepsL ops L i dd) (hnd : dd.all (fun x => !(al.contains x.1) && !(Nat.beq x.1 ef)) = true)
  (hr : ∀ (ev : Operand → Value) w, DepsH dd ev w → ∃ v, (execOp ev ⟨some d, op, ty, pos, #[], none⟩).run P w = .ok (.value v) w ∧ ∀ w2, DepsH dd ev w2 → q v w2) (hI : atI L i = q) : SG P n ops Q l w0 K lo al ef jy ca ta Os Gs L i :=
 sg_base (fun h => by rw [List.contains_iff_mem.2 h] at hal; cases hal) (fun e => by rw [e, Nat.beq_refl] at hie; cases hie) (earlyJ_of hij) hi hNo fun t0 a s w h0 hF hG he hD hD' => by
  have key : ∀ (dd : List (Nat × Nat × Asr)), DepsL ops L i dd → dd.all (fun x => !(al.contains x.1) && !(Nat.beq x.1 ef)) = true → ∀ w2, SameX lo (XB (OE ca ta Os s) (Gs s.ev)) w w2 → DepsH dd a.eval w2 := by
   intro dd
   induction dd with
   | nil => intro _ _ w2 _; trivial
   | cons x xs ih =>
    intro h hn w2 h2
    simp only [List.all_cons, Bool.and_eq_true, Bool.not_eq_true'] at hn
    refine ⟨?_, ih h.2 hn.2 w2 h2⟩
    have hA := (hD x.1 x.2.1 h.1.1).2.2.2 (fun h9 => by rw [List.contains_iff_mem.2 h9] at hn; cases hn.1.1) (fun e => by rw [e, Nat.beq_refl] at hn; cases hn.1.2)
    rw [h.1.2] at hA
    exact hA w2 h2
  obtain ⟨v, h1, h2⟩ := hr a.eval w (key dd hds hnd w (SameX.refl _ _ _))
  exact wp_val hi rfl (by rw [execOp_guard a.eval _ _ _ _ pos _ #[] _ none]; exact h1) ⟨v, rfl, by rw [hI]; exact fun w2 hw2 => h2 w2 (key dd hds hnd w2 hw2), Below.refl _ _⟩
end
end Go.Proofs.Ytpkcaabbcoiiiaa
namespace Go.Proofs.Ytpkcaabbcoiiiaa
open Go.RowKit Go.ChangeShapes Go.WideShapes Go.Deep
section
variable {H : Type} {enc : TypeId × Value → H} {w : World} {base : Nat} {spare : Nat → Bool} {held : Bool}
theorem three_len {cs : List Value} (h : cs.length = 3) : ∃ a b c, cs = [a, b, c] := by
 match cs, h with
 | [a, b, c], _ => exact ⟨a, b, c, rfl⟩
theorem cell_open {n : Nat} {cs : List Value} {x : DataW H × List MemPlace} (hl : cs.length = 3) (h : DataW.trod enc Try.prog w base spare held n 96 cs = some x) :
  ∃ c : Cl, c.f < 18446744073709551616 ∧ cs = [.int .u64 (c.f : Int), .int .i64 c.k, .int .i64 c.v] := by
 obtain ⟨xs, n', _, hx, _, hlen, hg⟩ := DataW.trod_struct Try.underlying96 h
 obtain ⟨a, b, c, rfl⟩ := three_len hl
 ·skip
  have hlen3 : xs.length = 3 := hlen
  have g0 := hg 0 _ rfl
  have g1 := hg 1 _ rfl
  have g2 := hg 2 _ rfl
  rw [show Try.prog.cellsOf _ = 1 by kernel_rfl, List.getElem?_eq_getElem (by omega)] at g0 g1 g2
  obtain ⟨z0, e0, _, w0⟩ := DataW.trod_int Try.underlying38 g0
  obtain ⟨z1, e1, _, w1⟩ := DataW.trod_int (k := .i64) (by kernel_rfl) g1
  obtain ⟨z2, e2, _, w2⟩ := DataW.trod_int (k := .i64) (by kernel_rfl) g2
  simp at e0 e1 e2
  subst e0 e1 e2
  have hw : 0 ≤ z0 ∧ z0 ≤ 18446744073709551615 := by simpa [Lit.wf, IntKind.signed, IntKind.bits, IntKind.min, IntKind.max] using w0
  exact ⟨⟨z0.toNat, z1, z2⟩, by show z0.toNat < _; omega, by simp; omega⟩
theorem list_of : ∀ (n : Nat) (p : Nat → Cl → Prop), (∀ i, i < n → ∃ c, p i c) → ∃ xs : List Cl, xs.length = n ∧ ∀ i c, xs[i]? = some c → p i c
 | 0, p, h => ⟨[], rfl, fun i c hi => by simp at hi⟩
 | n + 1, p, h => by
  obtain ⟨xs, hl, hp⟩ := list_of n p (fun i hi => h i (by omega))
  obtain ⟨c, hc⟩ := h n (by omega)
  refine ⟨xs ++ [c], by simp [hl], fun i d hi => ?_⟩
  rcases Nat.lt_or_ge i n with h1 | h1
  ·rw [List.getElem?_append_left (by omega)] at hi
   exact hp i d hi
  ·obtain ⟨h2, _⟩ := List.getElem?_eq_some_iff.1 hi
   simp [hl] at h2
   obtain rfl : i = n := by omega
   rw [List.getElem?_append_right (by omega), hl, Nat.sub_self] at hi
   simp at hi
   subst hi
   exact hc
theorem cells_open {n : Nat} {a : Option Addr} {len cap : Nat} {x : DataW H × List MemPlace} (h : DataW.trod enc Try.prog w base spare held n 42 [.slice a len cap] = some x) :
  ∃ xs, IsCells w a len cap xs := by
 rcases open_slice Try.underlying42 h with ⟨hcs, _⟩ | ⟨ad, len', cap', m, n', D, Pl, hcs, hb, hl, hm, hmm, hx, hi⟩
 ·simp at hcs
  obtain ⟨rfl, rfl, rfl⟩ := hcs
  exact ⟨[], rfl, by simp, .inl rfl, fun c hc => by simp at hc⟩
 ·simp at hcs
  obtain ⟨rfl, rfl, rfl⟩ := hcs
  rw [show Try.prog.cellsOf 96 = 3 by kernel_rfl] at hi
  obtain ⟨xs, hxl, hxs⟩ := list_of len (fun i c => c.f < 18446744073709551616 ∧ w.cell? (ad.add (i * 3)) = some (.int .u64 (c.f : Int)) ∧ w.cell? (ad.add (i * 3 + 1)) = some (.int .i64 c.k) ∧ w.cell? (ad.add (i * 3 + 2)) = some (.int .i64 c.v)) (fun i hil => by
   obtain ⟨cs', hc, ht⟩ := hi i (by rw [hmm]; split <;> omega)
   obtain ⟨_, hcl, hat⟩ := World.cells?_some hc
   obtain ⟨c, hf, rfl⟩ := cell_open hcl ht
   have e0 := hat 0 (by omega)
   have e1 := hat 1 (by omega)
   have e2 := hat 2 (by omega)
   rw [add_add] at e0 e1 e2
   exact ⟨c, hf, e0, e1, e2⟩)
  refine ⟨xs, hxl.symm, by omega, ?_, fun c hc => ?_⟩
  ·rcases Nat.eq_zero_or_pos len with h0 | h0
   ·exact .inl (List.length_eq_zero_iff.1 (by omega))
   ·obtain ⟨b, off, spot⟩ := ad
    obtain ⟨_, h1, _, _⟩ := hxs 0 (xs[0]'(by omega)) (List.getElem?_eq_getElem (by omega))
    have hspot : spot = none := by simpa [Addr.add] using World.cell?_spot h1
    subst hspot
    refine .inr ⟨b, off, rfl, fun i c hic => ?_⟩
    have e : ∀ k, ({ block := b, off := off } : Addr).add k = ⟨b, off + k, none⟩ := fun k => by simp [Addr.add]
    have h3 := (hxs i c hic).2
    rw [e, e, e, ← Nat.add_assoc, ← Nat.add_assoc] at h3
    exact h3
  ·obtain ⟨i, hi', hic⟩ := List.mem_iff_getElem.1 hc
   exact (hxs i c (by rw [← hic]; exact List.getElem?_eq_getElem hi')).1
end
end Go.Proofs.Ytpkcaabbcoiiiaa
namespace Go.Proofs.Ytpkcaabbcoiiiaa
open Go.RowKit Go.ChangeShapes Go.WideShapes Go.Deep
section
variable {H : Type} {enc : TypeId × Value → H} {w : World} {base : Nat} {spare : Nat → Bool} {held : Bool}
theorem slice_form {n : Nat} {cs : List Value} {x : DataW H × List MemPlace} (h : DataW.trod enc Try.prog w base spare held n 42 cs = some x) : ∃ a len cap, cs = [.slice a len cap] := by
 rcases open_slice Try.underlying42 h with ⟨hcs, _⟩ | ⟨ad, len', cap', m, n', D, Pl, hcs, _⟩
 ·exact ⟨_, _, _, hcs⟩
 ·exact ⟨_, _, _, hcs⟩
end
end Go.Proofs.Ytpkcaabbcoiiiaa
namespace Go.Proofs.Ytpkcaabbcoiiiaa
open Go.RowKit Go.ChangeShapes Go.WideShapes Go.Deep Go.Joins
theorem list_pick {α : Type} : ∀ (n : Nat) (p : Nat → α → Prop), (∀ i, i < n → ∃ c, p i c) → ∃ xs : List α, xs.length = n ∧ ∀ i c, xs[i]? = some c → p i c
 | 0, p, h => ⟨[], rfl, fun i c hi => by simp at hi⟩
 | n + 1, p, h => by
  obtain ⟨xs, hl, hp⟩ := list_pick n p (fun i hi => h i (by omega))
  obtain ⟨c, hc⟩ := h n (by omega)
  refine ⟨xs ++ [c], by simp [hl], fun i d hi => ?_⟩
  rcases Nat.lt_or_ge i n with h1 | h1
  ·rw [List.getElem?_append_left (by omega)] at hi
   exact hp i d hi
  ·obtain ⟨h2, _⟩ := List.getElem?_eq_some_iff.1 hi
   simp [hl] at h2
   obtain rfl : i = n := by omega
   rw [List.getElem?_append_right (by omega), hl, Nat.sub_self] at hi
   simp at hi
   subst hi
   exact hc
theorem SIn.more {w : World} : ∀ {d e : Nat} {s : SV}, d ≤ e → SIn w d s → SIn w e s
 | 0, _, _, _, h => h.elim
 | d + 1, 0, _, hl, _ => by omega
 | d + 1, e + 1, .mk f ps, hl, ⟨h1, h2, h3⟩ => ⟨h1, h2, fun p hp => SIn.more (by omega) (h3 p hp)⟩
theorem WIn.more {w : World} : ∀ {d e : Nat} {s : WV}, d ≤ e → WIn w d s → WIn w e s
 | 0, _, _, _, h => h.elim
 | d + 1, 0, _, hl, _ => by omega
 | d + 1, e + 1, .mk f ps, hl, ⟨h0, h1, h2, h3⟩ => ⟨h0, h1, h2, fun p hp => WIn.more (by omega) (h3 p hp)⟩
theorem six_len {cs : List Value} (h : cs.length = 6) : ∃ a b c d e f, cs = [a, b, c, d, e, f] := by
 match cs, h with
 | [a, b, c, d, e, f], _ => exact ⟨a, b, c, d, e, f, rfl⟩
section
variable {H : Type} {enc : TypeId × Value → H} {w : World} {base : Nat} {spare : Nat → Bool} {held : Bool}
theorem space_in : ∀ (fuel : Nat) {cs : List Value} {x : DataW H × List MemPlace}, DataW.trod enc Try.prog w base spare held fuel 25 cs = some x → ∃ s : SV, cs = [.int .i64 s.f.tag, .int .i64 s.f.dim, .slice s.f.a s.f.len s.f.cap] ∧ SIn w fuel s := by
 intro fuel
 induction fuel using Nat.strongRecOn with
 | _ fuel ih =>
 intro cs x h
 obtain ⟨xs, n, hn, _, hl, hlen, hg⟩ := DataW.trod_struct Try.underlying25 h
 rw [show Try.prog.cellsOf 25 = 3 by kernel_rfl] at hl
 obtain ⟨a, b, c, rfl⟩ := three_len hl
 have hlen3 : xs.length = 3 := hlen
 have g0 := hg 0 _ rfl
 have g1 := hg 1 _ rfl
 have g2 := hg 2 _ rfl
 rw [show Try.prog.cellsOf _ = 1 by kernel_rfl, List.getElem?_eq_getElem (by omega)] at g0 g1 g2
 obtain ⟨z0, e0, _, w0⟩ := DataW.trod_int (k := .i64) (by kernel_rfl) g0
 obtain ⟨z1, e1, _, w1⟩ := DataW.trod_int (k := .i64) (by kernel_rfl) g1
 simp at e0 e1
 subst e0 e1
 rcases DataW.trod_slice Try.underlying23 g2 with ⟨hcs, _⟩ | ⟨ad, len, cap, elems, rest, n', hn', hcs, _, hb, hle, hcap, hel, hi, _, _⟩
 ·simp at hcs
  subst hcs
  subst hn
  exact ⟨.mk ⟨z0, z1, none, 0, 0⟩ [], rfl, rfl, .inl rfl, fun p hp => by cases hp⟩
 ·simp at hcs
  subst hcs
  subst hn
  rw [show Try.prog.cellsOf 25 = 3 by kernel_rfl] at hi
  obtain ⟨ps, hpl, hps⟩ := list_pick len (fun i (p : SV) => (w.cell? (ad.add (i * 3)) = some (.int .i64 p.f.tag) ∧ w.cell? (ad.add (i * 3 + 1)) = some (.int .i64 p.f.dim) ∧ w.cell? (ad.add (i * 3 + 2)) = some (.slice p.f.a p.f.len p.f.cap)) ∧ SIn w n' p) (fun i hil => by
   have hii := hi i hil
   rw [List.getElem?_eq_getElem (by omega)] at hii
   obtain ⟨cs', hc, ht⟩ := Option.bind_eq_some_iff.1 hii
   obtain ⟨_, hcl, hat⟩ := World.cells?_some hc
   obtain ⟨s, rfl, hs⟩ := ih n' (by omega) ht
   have e0 := hat 0 (by omega)
   have e1 := hat 1 (by omega)
   have e2 := hat 2 (by omega)
   rw [Go.Deep.add_add] at e0 e1 e2
   exact ⟨s, ⟨e0, e1, e2⟩, hs⟩)
  refine ⟨.mk ⟨z0, z1, some ad, len, cap⟩ ps, rfl, hpl, ?_, fun p hp => ?_⟩
  ·rcases Nat.eq_zero_or_pos len with h0 | h0
   ·exact .inl (List.length_eq_zero_iff.1 (by omega))
   ·obtain ⟨b, off, spot⟩ := ad
    obtain ⟨⟨h1, _, _⟩, _⟩ := hps 0 (ps[0]'(by omega)) (List.getElem?_eq_getElem (by omega))
    have hspot : spot = none := by simpa [Addr.add] using World.cell?_spot h1
    subst hspot
    refine .inr ⟨b, off, rfl, fun i c hic => ?_⟩
    have e : ∀ k, ({ block := b, off := off } : Addr).add k = ⟨b, off + k, none⟩ := fun k => by simp [Addr.add]
    have h3 := (hps i c hic).1
    rw [e, e, e, ← Nat.add_assoc, ← Nat.add_assoc] at h3
    exact h3
  ·obtain ⟨i, hi', hic⟩ := List.mem_iff_getElem.1 hp
   exact (hps i p (by rw [← hic]; exact List.getElem?_eq_getElem hi')).2.more (by omega)
theorem u64s_open {n : Nat} {v : Value} {x : DataW H × List MemPlace} (h : DataW.trod enc Try.prog w base spare held n 39 [v] = some x) :
  ∃ (a : Option Addr) (len cap : Nat) (rows : List Nat), v = .slice a len cap ∧ VRow w a (u64s rows) ∧ rows.length = len ∧ ∀ r ∈ rows, r < 18446744073709551616 := by
 rcases open_ints (t := 39) (e := 38) (k := .u64) (by kernel_rfl) (by kernel_rfl) (by kernel_rfl) h with ⟨hcs, _⟩ | ⟨x, len, cap, zs, hcs, _, hl, hm, hz, _, hcell, hwz⟩
 ·have hcs' : v = .slice none 0 0 := by simpa using hcs
  subst hcs'
  exact ⟨none, 0, 0, [], rfl, .inl rfl, rfl, fun r hr => by cases hr⟩
 ·have hcs' : v = .slice (some x) len cap := by simpa using hcs
  subst hcs'
  have hzl : len ≤ zs.length := by rw [hz]; split <;> omega
  refine ⟨some x, len, cap, (zs.take len).map Int.toNat, rfl, ?_, ?_, ?_⟩
  ·rcases Nat.eq_zero_or_pos len with h0 | h0
   ·subst h0; exact .inl (by simp [u64s])
   ·obtain ⟨b, off, spot⟩ := x
    have hc0 := hcell 0 (by omega)
    have hspot : spot = none := by simpa [Addr.add] using World.cell?_spot hc0
    subst hspot
    refine .inr ⟨b, off, rfl, fun i v hi => ?_⟩
    obtain ⟨q, hq, rfl⟩ := u64s_at hi
    rw [List.getElem?_map, List.getElem?_take] at hq
    split at hq
    ·rename_i hlt
     have hi2 : i < zs.length := by omega
     rw [List.getElem?_eq_getElem hi2] at hq
     have hq' : (zs[i]).toNat = q := by simpa using hq
     obtain ⟨m, hm1, hm2⟩ := u64_nat (hwz _ (List.getElem_mem hi2))
     have hc := hcell i hi2
     have e : ({ block := b, off := off } : Addr).add i = ⟨b, off + i, none⟩ := by simp [Addr.add]
     rw [e] at hc
     rw [hc]
     have : zs.getD i 0 = zs[i] := by simp [List.getD, List.getElem?_eq_getElem hi2]
     rw [this, hm1, ← hq', hm1]
     rfl
    ·cases hq
  ·simp; omega
  ·intro r hr
   obtain ⟨z, hz1, rfl⟩ := List.mem_map.1 hr
   obtain ⟨m, hm1, hm2⟩ := u64_nat (hwz z (List.mem_of_mem_take hz1))
   rw [hm1]; exact hm2
theorem facts_in {n : Nat} {a b : Value} {x : DataW H × List MemPlace} (h : DataW.trod enc Try.prog w base spare held n 41 [a, b] = some x) :
  ∃ (g : Nat) (ra : Option Addr) (rl rc : Nat) (rows : List Nat), a = .int .u64 (g : Int) ∧ b = .slice ra rl rc ∧ g < 18446744073709551616 ∧ VRow w ra (u64s rows) ∧ rows.length = rl ∧ ∀ r ∈ rows, r < 18446744073709551616 := by
 obtain ⟨xs, n', _, _, hl, hlen, hg⟩ := DataW.trod_struct Try.underlying41 h
 have hlen2 : xs.length = 2 := hlen
 have g0 := hg 0 _ rfl
 have g1 := hg 1 _ rfl
 rw [show Try.prog.cellsOf _ = 1 by kernel_rfl, List.getElem?_eq_getElem (by omega)] at g0 g1
 obtain ⟨z0, e0, _, w0⟩ := DataW.trod_int (k := .u64) (by kernel_rfl) g0
 simp at e0
 subst e0
 obtain ⟨g, rfl, hg64⟩ := u64_nat w0
 obtain ⟨ra, rl, rc, rows, e1, h1, h2, h3⟩ := u64s_open (v := b) g1
 exact ⟨g, ra, rl, rc, rows, rfl, e1, hg64, h1, h2, h3⟩
theorem weight_in : ∀ (fuel : Nat) {cs : List Value} {x : DataW H × List MemPlace}, DataW.trod enc Try.prog w base spare held fuel 45 cs = some x → ∃ s : WV, cs = s.f.six ∧ WIn w fuel s := by
 intro fuel
 induction fuel using Nat.strongRecOn with
 | _ fuel ih =>
 intro cs x h
 obtain ⟨xs, n, hn, _, hl, hlen, hg⟩ := DataW.trod_struct Try.underlying45 h
 rw [show Try.prog.cellsOf 45 = 6 by kernel_rfl] at hl
 obtain ⟨a, b, c, d, e, f, rfl⟩ := six_len hl
 have hlen5 : xs.length = 5 := hlen
 have g0 := hg 0 _ rfl
 have g1 := hg 1 _ rfl
 have g2 := hg 2 _ rfl
 have g3 := hg 3 _ rfl
 have g4 := hg 4 _ rfl
 rw [show Try.prog.cellsOf _ = 1 by kernel_rfl, List.getElem?_eq_getElem (by omega)] at g0 g1 g3 g4
 rw [show Try.prog.cellsOf _ = 2 by kernel_rfl, List.getElem?_eq_getElem (by omega)] at g2
 obtain ⟨z0, e0, _⟩ := DataW.trod_bool (by kernel_rfl) g0
 obtain ⟨z1, e1, _, w1⟩ := DataW.trod_int (k := .i64) (by kernel_rfl) g1
 simp at e0 e1
 subst e0 e1
 obtain ⟨gg, ra, rl, rc, rows, rfl, rfl, hg64, hrow, hrl, hr64⟩ := facts_in (a := c) (b := d) g2
 obtain ⟨ca, cl, cc, e3⟩ := slice_form g3
 have e3' : e = .slice ca cl cc := by simpa using e3
 subst e3'
 obtain ⟨cells, hcl, hcm, hcrow, hcbits⟩ := cells_open (a := ca) (len := cl) (cap := cc) g3
 rcases DataW.trod_slice Try.underlying43 g4 with ⟨hcs, _⟩ | ⟨ad, len, cap, elems, rest, n', hn', hcs, _, hb, hle, hcap, hel, hi, _, _⟩
 ·simp at hcs
  subst hcs
  subst hn
  exact ⟨.mk ⟨z0, z1, gg, ra, rl, rc, rows, ca, cl, cc, cells, none, 0, 0⟩ [], rfl, ⟨hrow, hrl, hg64, hr64, hcrow, hcl.symm, hcbits, by dsimp only; omega⟩, rfl, .inl rfl, fun p hp => by cases hp⟩
 ·simp at hcs
  subst hcs
  subst hn
  rw [show Try.prog.cellsOf 45 = 6 by kernel_rfl] at hi
  obtain ⟨ps, hpl, hps⟩ := list_pick len (fun i (p : WV) => (w.cell? (ad.add (i * 6)) = some (.bool p.f.z) ∧ w.cell? (ad.add (i * 6 + 1)) = some (.int .i64 p.f.c) ∧ w.cell? (ad.add (i * 6 + 2)) = some (.int .u64 (p.f.g : Int)) ∧ w.cell? (ad.add (i * 6 + 3)) = some (.slice p.f.ra p.f.rl p.f.rc) ∧ w.cell? (ad.add (i * 6 + 4)) = some (.slice p.f.ca p.f.cl p.f.cc) ∧ w.cell? (ad.add (i * 6 + 5)) = some (.slice p.f.pa p.f.pl p.f.pc)) ∧ WIn w n' p) (fun i hil => by
   have hii := hi i hil
   rw [List.getElem?_eq_getElem (by omega)] at hii
   obtain ⟨cs', hc, ht⟩ := Option.bind_eq_some_iff.1 hii
   obtain ⟨_, hcl, hat⟩ := World.cells?_some hc
   obtain ⟨s, rfl, hs⟩ := ih n' (by omega) ht
   have e0 := hat 0 (by omega)
   have e1 := hat 1 (by omega)
   have e2 := hat 2 (by omega)
   have e3 := hat 3 (by omega)
   have e4 := hat 4 (by omega)
   have e5 := hat 5 (by omega)
   rw [Go.Deep.add_add] at e0 e1 e2 e3 e4 e5
   exact ⟨s, ⟨e0, e1, e2, e3, e4, e5⟩, hs⟩)
  refine ⟨.mk ⟨z0, z1, gg, ra, rl, rc, rows, ca, cl, cc, cells, some ad, len, cap⟩ ps, rfl, ⟨hrow, hrl, hg64, hr64, hcrow, hcl.symm, hcbits, by dsimp only; omega⟩, hpl, ?_, fun p hp => ?_⟩
  ·rcases Nat.eq_zero_or_pos len with h0 | h0
   ·exact .inl (List.length_eq_zero_iff.1 (by omega))
   ·obtain ⟨b, off, spot⟩ := ad
    obtain ⟨⟨h1, _⟩, _⟩ := hps 0 (ps[0]'(by omega)) (List.getElem?_eq_getElem (by omega))
    have hspot : spot = none := by simpa [Addr.add] using World.cell?_spot h1
    subst hspot
    refine .inr ⟨b, off, rfl, fun i c hic => ?_⟩
    have e : ∀ k, ({ block := b, off := off } : Addr).add k = ⟨b, off + k, none⟩ := fun k => by simp [Addr.add]
    have h3 := (hps i c hic).1
    rw [e, e, e, e, e, e, ← Nat.add_assoc, ← Nat.add_assoc, ← Nat.add_assoc, ← Nat.add_assoc, ← Nat.add_assoc] at h3
    exact h3
  ·obtain ⟨i, hi', hic⟩ := List.mem_iff_getElem.1 hp
   exact (hps i p (by rw [← hic]; exact List.getElem?_eq_getElem hi')).2.more (by omega)
end
end Go.Proofs.Ytpkcaabbcoiiiaa
namespace Go.Proofs.Ytpkcaabbcoiiiaa
open Go.RowKit Go.ChangeShapes Go.WideShapes Go.Deep Go.Joins
theorem ten_len {cs : List Value} (h : cs.length = 10) : ∃ a b c d e f g i j k, cs = [a, b, c, d, e, f, g, i, j, k] := by
 match cs, h with
 | [a, b, c, d, e, f, g, i, j, k], _ => exact ⟨a, b, c, d, e, f, g, i, j, k, rfl⟩
theorem cellsAt_of {w : World} {b : Nat} : ∀ (vs : List Value) (o : Nat), (∀ (j : Nat) u, vs[j]? = some u → w.cell? ⟨b, o + j, none⟩ = some u) → CellsAt w b o vs
 | [], _, _ => trivial
 | v :: vs, o, h => ⟨h 0 v rfl, cellsAt_of vs (o + 1) fun j u hj => by have := h (j + 1) u (by simpa using hj); rwa [show o + 1 + j = o + (j + 1) by omega]⟩
section
variable {H : Type} {enc : TypeId × Value → H} {w : World} {base : Nat} {spare : Nat → Bool} {held : Bool}
theorem ints_in {n : Nat} {v : Value} {x : DataW H × List MemPlace} (h : DataW.trod enc Try.prog w base spare held n 29 [v] = some x) :
  ∃ (a : Option Addr) (len cap : Nat) (zs : List Int), v = .slice a len cap ∧ Row w a zs ∧ zs.length = len ∧ len ≤ cap ∧ cap ≤ maxLen := by
 rcases open_ints (t := 29) (e := 3) (k := .i64) (by kernel_rfl) (by kernel_rfl) (by kernel_rfl) h with ⟨hcs, _⟩ | ⟨x, len, cap, zs, hcs, _, hl, hm, hz, _, hcell, hwz⟩
 ·have hcs' : v = .slice none 0 0 := by simpa using hcs
  subst hcs'
  exact ⟨none, 0, 0, [], rfl, .inl rfl, rfl, Nat.le_refl _, Nat.zero_le _⟩
 ·have hcs' : v = .slice (some x) len cap := by simpa using hcs
  subst hcs'
  have hzl : len ≤ zs.length := by rw [hz]; split <;> omega
  refine ⟨some x, len, cap, zs.take len, rfl, ?_, by simp; omega, hl, hm⟩
  rcases Nat.eq_zero_or_pos len with h0 | h0
  ·subst h0; exact .inl (by simp)
  ·obtain ⟨b, off, spot⟩ := x
   have hc0 := hcell 0 (by omega)
   have hspot : spot = none := by simpa [Addr.add] using World.cell?_spot hc0
   subst hspot
   refine .inr ⟨b, off, rfl, fun i hi => ?_⟩
   have hi1 : i < len := by simp at hi; omega
   have hi2 : i < zs.length := by omega
   have hc := hcell i hi2
   have e : ({ block := b, off := off } : Addr).add i = ⟨b, off + i, none⟩ := by simp [Addr.add]
   rw [e] at hc
   rw [hc]
   simp [List.getD, List.getElem?_take, hi1]
theorem rule_in {n : Nat} {cs : List Value} {x : DataW H × List MemPlace} (h : DataW.trod enc Try.prog w base spare held n 47 cs = some x) : ∃ r : RV, cs = r.ten ∧ RIn w n r := by
 obtain ⟨xs, n', hn, _, hl, hlen, hg⟩ := DataW.trod_struct Try.underlying47 h
 rw [show Try.prog.cellsOf 47 = 10 by kernel_rfl] at hl
 obtain ⟨a, b, c, d, e, f, g, i, j, k, rfl⟩ := ten_len hl
 have hlen5 : xs.length = 5 := hlen
 have g0 := hg 0 _ rfl
 have g1 := hg 1 _ rfl
 have g2 := hg 2 _ rfl
 have g3 := hg 3 _ rfl
 have g4 := hg 4 _ rfl
 rw [show Try.prog.cellsOf _ = 1 by kernel_rfl, List.getElem?_eq_getElem (by omega)] at g0 g1 g2 g3
 rw [show Try.prog.cellsOf _ = 6 by kernel_rfl, List.getElem?_eq_getElem (by omega)] at g4
 obtain ⟨z0, e0, _, w0⟩ := DataW.trod_int (k := .i64) (by kernel_rfl) g0
 obtain ⟨z1, e1, _, w1⟩ := DataW.trod_int (k := .i64) (by kernel_rfl) g1
 obtain ⟨z2, e2, _, w2⟩ := DataW.trod_int (k := .i64) (by kernel_rfl) g2
 simp at e0 e1 e2
 subst e0 e1 e2
 obtain ⟨ra, rl, rc, ws, rfl, hrow, hrl, _, _⟩ := ints_in (v := d) g3
 obtain ⟨s, e4, hs⟩ := weight_in n' g4
 have e4' : [e, f, g, i, j, k] = s.f.six := by simpa using e4
 simp only [List.cons.injEq, and_true] at e4'
 obtain ⟨rfl, rfl, rfl, rfl, rfl, rfl⟩ := e4'
 exact ⟨⟨z0, z1, z2, ra, rl, rc, ws, s⟩, rfl, hrow, hrl, hs.more (by omega)⟩
theorem pds_in {n : Nat} {cs : List Value} {x : DataW H × List MemPlace} (h : DataW.trod enc Try.prog w base spare held n 28 cs = some x) : ∃ p : PV, cs = p.six ∧ PvIn w n n p := by
 obtain ⟨xs, n', hn, _, hl, hlen, hg⟩ := DataW.trod_struct Try.underlying28 h
 rw [show Try.prog.cellsOf 28 = 6 by kernel_rfl] at hl
 obtain ⟨a, b, c, d, e, f, rfl⟩ := six_len hl
 have hlen4 : xs.length = 4 := hlen
 have g0 := hg 0 _ rfl
 have g1 := hg 1 _ rfl
 have g2 := hg 2 _ rfl
 have g3 := hg 3 _ rfl
 rw [show Try.prog.cellsOf _ = 3 by kernel_rfl, List.getElem?_eq_getElem (by omega)] at g0
 rw [show Try.prog.cellsOf _ = 1 by kernel_rfl, List.getElem?_eq_getElem (by omega)] at g1 g2 g3
 obtain ⟨s, es, hs⟩ := space_in n' g0
 have es' : [a, b, c] = [.int .i64 s.f.tag, .int .i64 s.f.dim, .slice s.f.a s.f.len s.f.cap] := by simpa using es
 simp only [List.cons.injEq, and_true] at es'
 obtain ⟨rfl, rfl, rfl⟩ := es'
 obtain ⟨z1, e1, _, w1⟩ := DataW.trod_int (k := .i64) (by kernel_rfl) g1
 obtain ⟨z2, e2, _, w2⟩ := DataW.trod_int (k := .i64) (by kernel_rfl) g2
 simp at e1 e2
 subst e1 e2
 rcases DataW.trod_slice Try.underlying26 g3 with ⟨hcs, _⟩ | ⟨ad, len, cap, elems, rest, n2, hn2, hcs, _, hb, hle, hcap, hel, hi, _, _⟩
 ·simp at hcs
  subst hcs
  exact ⟨⟨s, z1, z2, none, 0, 0, []⟩, rfl, hs.more (by omega), .inl rfl, rfl, fun r hr => by cases hr⟩
 ·simp at hcs
  subst hcs
  rw [show Try.prog.cellsOf 47 = 10 by kernel_rfl] at hi
  obtain ⟨rs, hrl, hrs⟩ := list_pick len (fun i (r : RV) => (∀ (j : Nat) u, r.ten[j]? = some u → w.cell? (ad.add (i * 10 + j)) = some u) ∧ RIn w n2 r) (fun i hil => by
   have hii := hi i hil
   rw [List.getElem?_eq_getElem (by omega)] at hii
   obtain ⟨cs', hc, ht⟩ := Option.bind_eq_some_iff.1 hii
   obtain ⟨_, hcl, hat⟩ := World.cells?_some hc
   obtain ⟨r, rfl, hr⟩ := rule_in ht
   refine ⟨r, fun j u hj => ?_, hr⟩
   have hj10 : j < 10 := (List.getElem?_eq_some_iff.1 hj).1
   have h0 := hat j (by omega)
   rw [Go.Deep.add_add] at h0
   rw [h0]; exact hj)
  refine ⟨⟨s, z1, z2, some ad, len, cap, rs⟩, rfl, hs.more (by omega), ?_, hrl, fun r hr => ?_⟩
  ·rcases Nat.eq_zero_or_pos len with h0 | h0
   ·exact .inl (List.length_eq_zero_iff.1 (by dsimp only; omega))
   ·obtain ⟨b, off, spot⟩ := ad
    have h1 := (hrs 0 (rs[0]'(by omega)) (List.getElem?_eq_getElem (by omega))).1 0 _ rfl
    have hspot : spot = none := by simpa [Addr.add] using World.cell?_spot h1
    subst hspot
    refine .inr ⟨b, off, rfl, fun i r hir => cellsAt_of _ _ fun j u hj => ?_⟩
    have h3 := (hrs i r hir).1 j u hj
    have e : ∀ k, ({ block := b, off := off } : Addr).add k = ⟨b, off + k, none⟩ := fun k => by simp [Addr.add]
    rw [e, ← Nat.add_assoc] at h3
    exact h3
  ·obtain ⟨i, hi', hic⟩ := List.mem_iff_getElem.1 hr
   have h4 := (hrs i r (by rw [← hic]; exact List.getElem?_eq_getElem hi')).2
   exact ⟨h4.row, h4.len, h4.x.more (by omega)⟩
theorem pds_open {r : Reach} {b0 : Nat} {v : Value} {d : DataW H} {p : List MemPlace} (hv : Value.okWide Try.prog w r b0 28 v) (h : DataW.Trod enc Try.prog w base spare held 28 v d p) :
  ∃ (n : Nat) (s : PV), v = s.val ∧ PvIn w n n s := by
 obtain ⟨cs, rfl, _⟩ := okWide_struct Try.underlying28 hv
 obtain ⟨n, h⟩ := h
 obtain ⟨s, e, hs⟩ := pds_in (n := n) h
 have e' : cs.toList = _ := e
 exact ⟨n, s, by show Value.agg cs = Value.agg _; congr 1; exact Array.ext' e', hs⟩
end
end Go.Proofs.Ytpkcaabbcoiiiaa
namespace Go.Proofs.Ytpkcaabbcoiiiaa
open Go Go.RowKit
theorem pdsOk_ex {w : World} {ds d : Nat} {p : PV} (hp : PvIn w ds d p) : ∃ S px, pdsE p = 0 → PdsOk w S px p := by
 by_cases h : pdsE p = 0
 ·obtain ⟨S, px, hk⟩ := pdsOk_of hp h
  exact ⟨S, px, fun _ => hk⟩
 ·exact ⟨.one 0 0, fun _ => oneX (.one 0 0), fun h9 => absurd h9 h⟩
end Go.Proofs.Ytpkcaabbcoiiiaa
namespace Go.Proofs.Ytpkcaabbcoiiiaa
open Go Go.RowKit
def isAuP (lo : Nat) (S : PS) (st sy : Int) : Asr := fun v w => ∃ sq : SF, v = .agg #[.int .i64 sq.tag, .int .i64 sq.dim, .slice sq.a sq.len sq.cap, .int .i64 st, .int .i64 sy, .slice none 0 0, .slice none 0 0] ∧ ∀ W2, Agree lo w W2 → SIs W2 S sq
theorem sf_inj9 {a b : SF} (h : a.val = b.val) : a = b := by
 obtain ⟨t, n, c, l, d⟩ := a
 obtain ⟨t2, n2, c2, l2, d2⟩ := b
 simp [SF.val] at h
 obtain ⟨rfl, rfl, rfl, rfl, rfl⟩ := h
 rfl
theorem bldAu9 (sq : SF) (st sy : Int) : Try.prog.built 60 [(0, sq.val), (1, .int .i64 st), (2, .int .i64 sy)] = some #[.int .i64 sq.tag, .int .i64 sq.dim, .slice sq.a sq.len sq.cap, .int .i64 st, .int .i64 sy, .slice none 0 0, .slice none 0 0] := by kernel_rfl
theorem bld_auS {d j1 j2 j3 t1 t2 t3 lo : Nat} {ty : TypeId} {pos : String} {S : PS} {st sy : Int} : ∀ (ev : Operand → Value) (w : World), DepsH [(j1, t1, isSpN lo S), (j2, t2, isV (.int .i64 st)), (j3, t3, isV (.int .i64 sy))] ev w →
  ∃ v, (execOp ev ⟨some d, .build 60 #[(0, .tmp t1), (1, .tmp t2), (2, .tmp t3)], ty, pos, #[], none⟩).run Try.prog w = .ok (.value v) w ∧ ∀ w2, DepsH [(j1, t1, isSpN lo S), (j2, t2, isV (.int .i64 st)), (j3, t3, isV (.int .i64 sy))] ev w2 → isAuP lo S st sy v w2 := fun ev w ⟨⟨sq, h1, h4⟩, h2, h3, _⟩ => by
 have e1 : ev (.tmp t1) = _ := h1
 have e2 : ev (.tmp t2) = _ := h2
 have e3 : ev (.tmp t3) = _ := h3
 refine ⟨_, ?_, fun w2 ⟨⟨sq2, k1, k4⟩, _, _, _⟩ => ⟨sq, rfl, ?_⟩⟩
 ·have hr := run_build w 60 #[(0, sq.val), (1, .int .i64 st), (2, .int .i64 sy)] _ (P := Try.prog) (bldAu9 sq st sy)
  unfold execOp
  simp only [List.map_toArray, List.map_cons, List.map_nil, e1, e2, e3]
  simp [hr]
 ·have k1' : ev (.tmp t1) = _ := k1
  rw [e1] at k1'
  have e9 : sq = sq2 := sf_inj9 k1'
  rw [e9]; exact k4
theorem isAuP_sq {lo : Nat} {S : PS} {st sy : Int} {sq : SF} {W : World} (h : isAuP lo S st sy (.agg #[.int .i64 sq.tag, .int .i64 sq.dim, .slice sq.a sq.len sq.cap, .int .i64 st, .int .i64 sy, .slice none 0 0, .slice none 0 0]) W) : SIs W S sq := by
 obtain ⟨sq2, e, h4⟩ := h
 have e9 : sq = sq2 := by
  obtain ⟨t, n, a, l, c⟩ := sq
  obtain ⟨t2, n2, a2, l2, c2⟩ := sq2
  simp at e
  obtain ⟨rfl, rfl, rfl, rfl, rfl⟩ := e
  rfl
 rw [e9]; exact h4 W ⟨Nat.le_refl _, fun _ _ _ => rfl⟩
structure T9 where
 f : Int
 g : Int
 t : Int
 x : WF
abbrev T9.nine (r : T9) : List Value := nineP r.f r.g r.t r.x
abbrev T9.pl (r : T9) : Int × Int × Int := (r.f, r.g, r.t)
def atF (st p : Int) : Nat → Int
 | 0 => p
 | k + 1 => st + (k : Int)
def chL (st p : Int) (ws : List Int) (k : Nat) : List (Int × Int × Int) := (List.range k).map (fun j => (atF st p j, ws.getD j 0, st + (j : Int)))
theorem chL_succ (st p : Int) (ws : List Int) (k : Nat) : chL st p ws (k + 1) = chL st p ws k ++ [(atF st p k, ws.getD k 0, st + (k : Int))] := by
 unfold chL; rw [List.range_succ, List.map_append]; rfl
theorem chL_len (st p : Int) (ws : List Int) (k : Nat) : (chL st p ws k).length = k := by simp [chL]
def qoneE (p : PV) (c : CV) : Int := if stepE p c ≠ 0 then stepE p c else if 4096 < p.st + (c.wl : Int) then 3 else 0
def QOne (S : PS) (p : PV) (c : CV) (w : World) (e : Ending) (w' : World) : Prop := Below w.heap.size w w' ∧
 ((qoneE p c ≠ 0 ∧ e = .returned (.tuple #[.agg #[.int .i64 0, .int .i64 0, .slice none 0 0, .int .i64 0, .int .i64 0, .slice none 0 0, .slice none 0 0], .int .i64 (qoneE p c)])) ∨
  (qoneE p c = 0 ∧ ∃ (sq : SF) (B : Nat) (ta : Option Addr) (tc : Nat) (ns : List T9), e = .returned (.tuple #[.agg #[.int .i64 sq.tag, .int .i64 sq.dim, .slice sq.a sq.len sq.cap, .int .i64 (p.st + (c.wl : Int)), .int .i64 p.sy, .slice (some ⟨B, 0, none⟩) 1 1, .slice ta ns.length tc], .int .i64 0]) ∧
   w.heap.size ≤ B ∧ SIs w' S sq ∧ Row w' (some ⟨B, 0, none⟩) [atF p.st c.p c.wl] ∧ ns.map T9.pl = chL p.st c.p c.ws c.wl ∧ w'.ownsRow w.heap.size 100 9 (.slice ta ns.length tc) ns.length (ns.flatMap T9.nine) ∧ ∀ r ∈ ns, XIs w' S r.x (oneX S)))
theorem qone_bad {S : PS} {p : PV} {c : CV} {w w' : World} {E : Int} (hE : qoneE p c = E) (hn : E ≠ 0) (hb : Below w.heap.size w w') : QOne S p c w (.returned (.tuple #[.agg #[.int .i64 0, .int .i64 0, .slice none 0 0, .int .i64 0, .int .i64 0, .slice none 0 0, .slice none 0 0], .int .i64 E])) w' := by
 subst hE; exact ⟨hb, .inl ⟨hn, rfl⟩⟩
end Go.Proofs.Ytpkcaabbcoiiiaa
namespace Go.Proofs.Ytpkcaabbcoiiiaa
open Go Go.RowKit
theorem bld_106_0 (v00 : Value) (v01 : Value) (v02 : Value) (v03 : Value) (v04 : Value) (v05 : Value) (v06 : Value) (v07 : Value) (v08 : Value) : Try.prog.built 106 [(0, .agg #[v00, v01, v02, v03, v04, v05, v06, v07, v08])] = some #[v00, v01, v02, v03, v04, v05, v06, v07, v08, .int .i64 0, .int .i64 0, .slice none 0 0, .int .i64 0, .int .i64 0, .slice none 0 0, .slice none 0 0] := by kernel_rfl
theorem bld_60 : Try.prog.built 60 [] = some #[.int .i64 0, .int .i64 0, .slice none 0 0, .int .i64 0, .int .i64 0, .slice none 0 0, .slice none 0 0] := by kernel_rfl
theorem goes_46 : goesIn Try.prog 46 = true := by kernel_rfl
theorem goes_47 : goesIn Try.prog 47 = true := by kernel_rfl
theorem newMaker_is (S : PS) (p : PV) (Ot : Own) (G : Grows) (K : List (Nat × World)) (w0 : World) (w : World) (hS0 : St w0 Ot G K w) (hsi : SIs w0 S p.s.f) (hok : S.ok) :
  Calls Try.prog 46 #[p.val] w (fun e w' => ∃ (B : Nat) (f0 : WF) (sq : SF) (Kn : List (Nat × World)), e = .returned (.pointer (some ⟨B, 0, none⟩)) ∧ (∀ q ∈ K, q ∈ Kn) ∧ Held w0 Kn (fun W2 => SIs W2 S sq) ∧ St w0 ((B, mkC p.s.f f0 sq p.st p.sy (.slice none 0 0) (.slice none 0 0), 106) :: Ot) G Kn w') := by
 refine enterF (args := [p.val]) Try.func46 rfl Try.ntmps46 rfl ?_
 have hS := hS0
 refine seqF (regF ?_)
 refine op_box (cs := [_, _, _, _, _, _]) hS rfl rfl rfl ?_
 clear hS; intro B1 W1 hS
 refine op_assign rfl rfl ?_
 refine endF (XF.thenN ?_)
 refine seqF (regF ?_)
 refine op_field (o' := 0) fa_28_0 rfl rfl rfl ?_
 refine op_loadA (vs := [_, _, _]) Try.isAgg25 Try.sizeOf25 rfl (CellsAt.own (j := 0) (m := 3) (hS.at_ 0 rfl) rfl) rfl ?_
 refine op_call (vs := [_]) hS goes_31 rfl (ringOf_is S p.s.f _ (hsi.below hS.below) hok) rfl ?_
 rintro e W2 ⟨f0, rfl, _, hb⟩
 refine ⟨_, rfl, hb, fun hS' => ?_⟩
 clear hS; have hS := hS'; clear hS' hb
 refine op_build (us := [(0, .agg (List.toArray [_, _, _, _, _, _, _, _, _]))]) rfl (bld_106_0 _ _ _ _ _ _ _ _ _) rfl ?_
 refine op_box (cs := [_, _, _, _, _, _, _, _, _, _, _, _, _, _, _, _]) hS rfl rfl rfl ?_
 clear hS; intro B3 W3 hS
 refine op_assign rfl rfl ?_
 refine endF (XF.thenN ?_)
 refine seqF ?_
 refine regSL (ef := 11) (jy := 8) (ca := caNo (fun _ => [])) (ta := fun _ => 0) (Os := osY _ 0 9 B3 (mkC p.s.f f0 ⟨0, 0, none, 0, 0⟩ 0 0 (.slice none 0 0) (.slice none 0 0)) 106) (Gs := gsNo _) (al := []) (k := 12) (ds := []) followsM rfl hS rfl (by kernel_rfl) rfl (by decide) rfl rfl rfl rfl ?_
 refine bls_cons 1 rfl rfl (isV _) (fun hNo => sgV [(3, _)] rfl rfl rfl rfl hNo (w_free rfl) ⟨g_fr (by kernel_rfl) rfl, trivial⟩ (fun ev w he hw => rn_move rfl) (at_top rfl)) ?_
 refine bls_cons 2 rfl rfl (isV _) (fun hNo => sgV [(1, _)] rfl rfl rfl rfl hNo (w_free rfl) ⟨g_fr (by kernel_rfl) rfl, trivial⟩ (fun ev w he hw => rn_field (o' := 0) fa_28_0 rfl rfl) (at_top rfl)) ?_
 refine bls_cons 3 rfl rfl (isV _) (fun hNo => sgV [(10, _)] rfl rfl rfl rfl hNo (w_free rfl) ⟨g_dep 1 (by kernel_rfl) (at_dep rfl rfl rfl), trivial⟩ (fun ev w he hw => rn_loadA (vs := [_, _, _]) Try.isAgg25 Try.sizeOf25 rfl ((CellsAt.own (j := 0) (m := 3) (hw.at_ 1 (osY_at (i := 1) (j := 0) rfl rfl)) rfl))) (at_top rfl)) ?_
 refine bls_cons 4 rfl rfl (isSpN W3.heap.size S) (fun hNo => sg_call [isV _] rfl rfl rfl rfl hNo goes_32 (w_free rfl) ⟨p_tmp (g_dep 2 (by kernel_rfl) (at_dep rfl rfl rfl)), trivial⟩ (fun vs ev w' he hSt hlo hh => by have e := holds_isV (us := [_]) hh; subst e; exact copySp_is S p.s.f w' (hsi.below hSt.below) hlo) (at_top rfl)) ?_
 refine bls_cons 5 rfl rfl (isV _) (fun hNo => sgV [(1, _)] rfl rfl rfl rfl hNo (w_free rfl) ⟨g_fr (by kernel_rfl) rfl, trivial⟩ (fun ev w he hw => rn_field (o' := 3) fa_28_1 rfl rfl) (at_top rfl)) ?_
 refine bls_cons 6 rfl rfl (isV _) (fun hNo => sgV [(13, _)] rfl rfl rfl rfl hNo (w_free rfl) ⟨g_dep 4 (by kernel_rfl) (at_dep rfl rfl rfl), trivial⟩ (fun ev w he hw => rn_load Try.isAgg3 rfl ((cell_own (hw.at_ 1 (osY_at (i := 1) (j := 0) rfl rfl)) rfl))) (at_top rfl)) ?_
 refine bls_cons 7 rfl rfl (isV _) (fun hNo => sgV [(1, _)] rfl rfl rfl rfl hNo (w_free rfl) ⟨g_fr (by kernel_rfl) rfl, trivial⟩ (fun ev w he hw => rn_field (o' := 4) fa_28_2 rfl rfl) (at_top rfl)) ?_
 refine bls_cons 8 rfl rfl (isV _) (fun hNo => sgV [(15, _)] rfl rfl rfl rfl hNo (w_free rfl) ⟨g_dep 6 (by kernel_rfl) (at_dep rfl rfl rfl), trivial⟩ (fun ev w he hw => rn_load Try.isAgg3 rfl ((cell_own (hw.at_ 1 (osY_at (i := 1) (j := 0) rfl rfl)) rfl))) (at_top rfl)) ?_
 refine bls_cons 9 rfl rfl (isAuP W3.heap.size S p.st p.sy) (fun hNo => sg_ofs [(3, 12, isSpN W3.heap.size S), (5, 14, isV _), (7, 16, isV _)] rfl rfl rfl rfl hNo ⟨⟨by kernel_rfl, at_dep rfl rfl rfl⟩, ⟨by kernel_rfl, at_dep rfl rfl rfl⟩, ⟨by kernel_rfl, at_dep rfl rfl rfl⟩, trivial⟩ (by kernel_rfl) bld_auS (at_top rfl)) ?_
 refine bls_cons 10 rfl rfl (isV _) (fun hNo => sgV [(9, _)] rfl rfl rfl rfl hNo (w_free rfl) ⟨g_dep 0 (by kernel_rfl) (at_dep rfl rfl rfl), trivial⟩ (fun ev w he hw => rn_nilCheck rfl) (at_top rfl)) ?_
 refine bls_cons 11 rfl rfl (isV _) (fun hNo => sgV [(18, _)] rfl rfl rfl rfl hNo (w_free rfl) ⟨g_dep 9 (by kernel_rfl) (at_dep rfl rfl rfl), trivial⟩ (fun ev w he hw => rn_field (o' := 9) fa_106_1 rfl rfl) (at_top rfl)) ?_
 refine bls_any 12 rfl (eff_stP (py := isAuP W3.heap.size S p.st p.sy) (m := 7) 0 9 [(19, _)] rfl rfl rfl rfl (by kernel_rfl) rfl rfl (fun j hj => by rcases hj with h | rfl <;> first | (cases h <;> rfl) | rfl) ⟨g_dep 10 (by kernel_rfl) (at_dep rfl rfl rfl), trivial⟩ rfl rfl Try.sizeOf60 (fun v w ⟨sq, e, _⟩ => by subst e; exact ⟨[.int .i64 sq.tag, .int .i64 sq.dim, .slice sq.a sq.len sq.cap, .int .i64 p.st, .int .i64 p.sy, .slice none 0 0, .slice none 0 0], rfl, rfl, rfl⟩) rfl) ?_
 refine bls_nil ?_
 intro Bf4 y4 W4 Ks4 hsz4 hKs4 hS' hcov4
 clear hS; have hS := hS'.castO (O' := (_ :: _ :: Ot)) rfl; clear hS'
 refine castL (L' := [AwS _ _ (isV _), AwS _ _ (isV _), AwS _ _ (isV _), AwS _ _ (isSpN W3.heap.size S), AwS _ _ (isV _), AwS _ _ (isV _), AwS _ _ (isV _), AwS _ _ (isV _), (fun v w => v = _ ∧ AwS _ _ (isAuP W3.heap.size S p.st p.sy) v w), AwS _ _ (isV _), AwS _ _ (isV _), isV _]) rfl ?_
 refine fin_sV ?_
 refine fin_sV ?_
 refine fin_sV ?_
 refine fin_p ?_; intro _ _
 refine fin_sV ?_
 refine fin_sV ?_
 refine fin_sV ?_
 refine fin_sV ?_
 refine fin_p ?_; rintro _ ⟨rfl, hA4⟩
 obtain ⟨sq, rfl, _⟩ := hA4.here
 have HSp : Held w0 Ks4 (fun W2 => SIs W2 S sq) := fun h2 hk => isAuP_sq (hA4 _ (hcov4 h2 hk))
 refine fin_sV ?_
 refine fin_sV ?_
 refine fin_0 ?_
 refine fin_nil ?_
 refine endF (XF.thenN ?_)
 refine seqF (regF ?_)
 refine op_move rfl rfl ?_
 refine op_assign rfl rfl ?_
 refine endF (XF.thenN ?_)
 refine retF ?_
 refine XF.res (res1 Try.results46 rfl) ?_
 exact ⟨_, f0, sq, _, rfl, fun q hq => by simp [hq], HSp.more (fun q hq => by simp [hq]), (hS.perm (List.Perm.swap _ _ _)).tail⟩
theorem queryOne_c (ds d : Nat) (p : PV) (cp : Int) (wa : Option Addr) (wl wc : Nat) (ws : List Int) (w : World) (hp : PvIn w ds d p) (hrow : Row w wa ws) (hlen : ws.length = wl) (hwm : wl ≤ 9223372036854775807) (S : PS) (px : RV → PX) (hpx : pdsE p = 0 → PdsOk w S px p) :
  Calls Try.prog 18 #[p.val, .agg #[.int .i64 cp, .slice wa wl wc]] w (QOne S p ⟨cp, wa, wl, wc, ws⟩ w) := by
 refine enterF (args := [p.val, .agg #[.int .i64 cp, .slice wa wl wc]]) Try.func18 rfl Try.ntmps18 rfl ?_
 have hS := St.start w
 refine seqF (regF ?_)
 refine op_box (cs := [_, _, _, _, _, _]) hS rfl rfl rfl ?_
 clear hS; intro B1 W1 hS
 refine op_box (cs := [_, _]) hS rfl rfl rfl ?_
 clear hS; intro B2 W2 hS
 refine op_alloc (cs := [_, _, _, _, _, _, _]) hS Try.zeroValue60 rfl rfl ?_
 clear hS; intro B3 W3 hS
 refine op_assign rfl rfl ?_
 refine endF (XF.thenN ?_)
 refine seqF ?_
 refine seqF (regF ?_)
 refine op_loadA (vs := [_, _, _, _, _, _]) Try.isAgg28 Try.sizeOf28 rfl (CellsAt.own (j := 0) (m := 6) (hS.at_ 2 rfl) rfl) rfl ?_
 refine op_loadA (vs := [_, _]) Try.isAgg49 Try.sizeOf49 rfl (CellsAt.own (j := 0) (m := 2) (hS.at_ 1 rfl) rfl) rfl ?_
 refine op_call (vs := [_, _]) hS goes_45 rfl (stepA_is ds d p ⟨cp, wa, wl, wc, ws⟩ _ (hp.below hS.below) ⟨hrow.below hS.below, hlen⟩) rfl ?_
 rintro e W4 ⟨rfl, hb⟩
 refine ⟨_, rfl, hb, fun hS' => ?_⟩
 clear hS; have hS := hS'; clear hS' hb
 refine op_assign rfl rfl ?_
 refine endF (XF.thenN ?_)
 refine seqF (regF ?_)
 refine op_move rfl rfl ?_
 refine op_neq rfl rfl rfl ?_
 refine endF (XF.thenN ?_)
 refine condF rfl (fun hc => ?_) (fun hc => ?_)
 ·have hc16 := of_decide_eq_true hc; clear hc
  refine seqF (regF ?_)
  refine op_build (us := []) rfl (bld_60) rfl ?_
  refine op_move rfl rfl ?_
  refine op_storeA (i := 0) (vs := [_, _, _, _, _, _, _]) (cs' := [_, _, _, _, _, _, _]) (O' := [_, _, _]) hS Try.sizeOf60 rfl rfl (by first | rfl | (have h0 := hS.oneV 0 _ rfl; simp only [List.all_cons, List.all_nil, Bool.and_true, Bool.and_eq_true]; exact ⟨rfl, rfl, rfl, rfl, rfl, rfl, h0⟩)) rfl rfl rfl rfl ?_
  clear hS; intro W5 hS
  refine op_assign rfl rfl ?_
  refine endF (XF.thenN ?_)
  refine retF ?_
  refine XF.thenR ?_
  refine XF.res (resCT (vs := [_, _, _, _, _, _, _]) Try.results18 Try.isAgg60 Try.sizeOf60 rfl (CellsAt.own (j := 0) (m := 7) (hS.at_ 0 rfl) rfl) rfl) ?_
  exact qone_bad (by unfold qoneE; rw [if_pos hc16]) hc16 hS.below
 ·have hc16 := of_decide_eq_false hc; clear hc
  have h0 : ¬ stepE p ⟨cp, wa, wl, wc, ws⟩ ≠ 0 := hc16
  have hE : pdsE p = 0 := by
   by_cases h9 : pdsE p = 0
   ·exact h9
   ·exfalso; apply h0; unfold stepE; rw [if_pos h9]; exact h9
  have hok := hpx hE
  have hst : 0 ≤ p.st ∧ p.st ≤ 4096 := hok.st
  have hw4 : wl ≤ 4096 := by
   have h9 : stepE p ⟨cp, wa, wl, wc, ws⟩ = 0 := Decidable.of_not_not h0
   unfold stepE confB at h9
   rw [if_neg (fun h => h hE)] at h9
   split at h9
   ·rename_i h8
    simp only [Bool.and_eq_true, decide_eq_true_eq] at h8
    exact h8.2.1
   ·cases h9
  refine skipF ?_
  refine XF.thenN ?_
  refine seqF ?_
  refine seqF (regF ?_)
  refine op_field (o' := 3) fa_28_1 rfl rfl rfl ?_
  refine op_load Try.isAgg3 rfl (cell_own (hS.at_ 2 rfl) rfl) rfl ?_
  refine op_field (o' := 1) fa_49_1 rfl rfl rfl ?_
  refine op_load Try.isAgg29 rfl (cell_own (hS.at_ 1 rfl) rfl) rfl ?_
  refine op_len Try.underlying29 rfl rfl ?_
  refine op_add rfl rfl (IntWalk.i64_in _ (by omega)) rfl ?_
  refine op_gtr rfl rfl rfl ?_
  refine endF (XF.thenN ?_)
  refine condF rfl (fun hc => ?_) (fun hc => ?_)
  ·have hc25 := of_decide_eq_true hc; clear hc
   refine seqF (regF ?_)
   refine op_build (us := []) rfl (bld_60) rfl ?_
   refine op_storeA (i := 0) (vs := [_, _, _, _, _, _, _]) (cs' := [_, _, _, _, _, _, _]) (O' := [_, _, _]) hS Try.sizeOf60 rfl rfl (by first | rfl | (have h0 := hS.oneV 0 _ rfl; simp only [List.all_cons, List.all_nil, Bool.and_true, Bool.and_eq_true]; exact ⟨rfl, rfl, rfl, rfl, rfl, rfl, h0⟩)) rfl rfl rfl rfl ?_
   clear hS; intro W6 hS
   refine op_assign rfl rfl ?_
   refine endF (XF.thenN ?_)
   refine retF ?_
   refine XF.thenR ?_
   refine XF.res (resCT (vs := [_, _, _, _, _, _, _]) Try.results18 Try.isAgg60 Try.sizeOf60 rfl (CellsAt.own (j := 0) (m := 7) (hS.at_ 0 rfl) rfl) rfl) ?_
   exact qone_bad (by unfold qoneE; rw [if_neg h0, if_pos (by dsimp only; omega)]) (by decide) hS.below
  ·have hc25 := of_decide_eq_false hc; clear hc
   have h1 : p.st + (wl : Int) ≤ 4096 := by omega
   have hoE : qoneE p ⟨cp, wa, wl, wc, ws⟩ = 0 := by unfold qoneE; rw [if_neg h0, if_neg (by dsimp only; omega)]
   refine skipF ?_
   refine XF.thenN ?_
   refine seqF (regF ?_)
   refine op_loadA (vs := [_, _, _, _, _, _]) Try.isAgg28 Try.sizeOf28 rfl (CellsAt.own (j := 0) (m := 6) (hS.at_ 2 rfl) rfl) rfl ?_
   refine op_callX (vs := [_]) goes_46 rfl (newMaker_is S p _ _ _ w _ hS hok.si hok.ok) rfl ?_
   rintro e W9 ⟨Bm, f0, sq, Kn, rfl, hsub, HSp, hS9⟩
   refine ⟨_, rfl, ?_⟩
   clear hS; have hS := hS9; clear hS9
   refine op_assign rfl rfl ?_
   refine endF (XF.thenN ?_)
   refine seqF (regF ?_)
   refine op_field (o' := 0) fa_49_0 rfl rfl rfl ?_
   refine op_load Try.isAgg3 rfl (cell_own (hS.at_ 2 rfl) rfl) rfl ?_
   refine op_assign rfl rfl ?_
   refine endF (XF.thenN ?_)
   refine seqF ?_
   refine seqF ?_
   have hS := hS.newG 100 9
   refine regF ?_
   refine op_field (o' := 1) fa_49_1 rfl rfl rfl ?_
   refine op_load Try.isAgg29 rfl (cell_own (hS.at_ 2 rfl) rfl) rfl ?_
   refine op_len Try.underlying29 rfl rfl ?_
   refine op_move rfl rfl ?_
   refine endF (XF.thenN ?_)
   refine blockF ?_
   refine loopF (fun m l W => ∃ (i : Nat) (u : Value) (Kk : List (Nat × World)) (ns : List T9), i ≤ wl ∧ m = wl - i ∧ l = [(2, .pointer (some ⟨B1, 0, none⟩)), (3, .pointer (some ⟨B2, 0, none⟩)), (4, .pointer (some ⟨B3, 0, none⟩)), (7, .pointer (some ⟨Bm, 0, none⟩)), (8, .int .i64 (atF p.st cp i)), (32, .slice wa wl wc), (33, .int .i64 (wl : Int)), (34, .int .i64 (i : Int))] ∧ ns.map T9.pl = chL p.st cp ws i ∧ Held w Kk (fun W2 => SIs W2 S sq ∧ ∀ r ∈ ns, XIs W2 S r.x (oneX S)) ∧ St w ((Bm, mkC p.s.f f0 sq (p.st + (i : Int)) p.sy (.slice none 0 0) u, 106) :: [(B3, [.int .i64 0, .int .i64 0, .slice none 0 0, .int .i64 0, .int .i64 0, .slice none 0 0, .slice none 0 0], 60), (B2, [.int .i64 cp, .slice wa wl wc], 49), (B1, p.six, 28)]) [⟨u, ns.length, ns.flatMap T9.nine, 100, 9⟩] Kk W) (wl - 0) ([(2, _), (3, _), (4, _), (7, _), (8, _), (32, _), (33, _), (34, _)]) ⟨rfl, rfl, rfl, rfl, rfl, rfl, rfl, rfl, trivial⟩ (⟨0, _, _, [], Nat.zero_le _, rfl, rfl, rfl, (fun h2 hk => ⟨HSp h2 hk, fun r hr => by cases hr⟩), hS.castO (by simp)⟩) ?_
   clear hS
   rintro m l W ⟨i, u, Kk, ns, hi, rfl, rfl, hns, HN, hS⟩
   refine seqF (regF ?_)
   refine op_lss rfl rfl rfl ?_
   refine endF (XF.thenN ?_)
   refine seqF ?_
   refine condF rfl (fun hc => ?_) (fun hc => ?_)
   ·have hc35 := of_decide_eq_true hc; clear hc
    have hk : i < wl := by omega
    obtain ⟨b, off, y, rfl, hy, hyc⟩ := hrow.at1 (show i < ws.length by omega)
    have k1 := hS.old hyc
    have hnl : ns.length = i := by have h9 := congrArg List.length hns; rw [List.length_map, chL_len] at h9; exact h9
    refine skipF ?_
    refine XF.thenN ?_
    refine seqF ?_
    refine blockF ?_
    refine seqF (regF ?_)
    refine op_indexA  Try.underlying29 Try.sizeOf3 rfl rfl rfl (by omega) rfl rfl ?_
    refine op_load Try.isAgg3 rfl (k1) rfl ?_
    refine op_assign rfl rfl ?_
    refine endF (XF.thenN ?_)
    refine seqF (regF ?_)
    refine op_move rfl rfl ?_
    refine op_nilCheck rfl rfl ?_
    refine op_field (o' := 9) fa_106_1 rfl rfl rfl ?_
    refine op_field (o' := 12) fa_60_1 rfl rfl rfl ?_
    refine op_load Try.isAgg3 rfl (cell_own (hS.at_ 0 rfl) rfl) rfl ?_
    refine op_assign rfl rfl ?_
    refine endF (XF.thenN ?_)
    refine seqF (regF ?_)
    refine op_move rfl rfl ?_
    refine op_nilCheck rfl rfl ?_
    refine op_field (o' := 9) fa_106_1 rfl rfl rfl ?_
    refine op_field (o' := 12) fa_60_1 rfl rfl rfl ?_
    refine op_load Try.isAgg3 rfl (cell_own (hS.at_ 0 rfl) rfl) rfl ?_
    refine op_add rfl rfl (IntWalk.i64_in _ (by omega)) rfl ?_
    refine op_nilCheck rfl rfl ?_
    refine op_field (o' := 9) fa_106_1 rfl rfl rfl ?_
    refine op_field (o' := 12) fa_60_1 rfl rfl rfl ?_
    refine op_store (i := 0) (cs' := [_, _, _, _, _, _, _, _, _, _, _, _, _, _, _, _]) (O' := [_, _, _, _]) hS Try.sizeOf3 rfl rfl (by first | rfl | exact (hS.oneV 0 _ rfl :) | exact (hS.oneV 1 _ rfl :) | exact (hS.oneV 2 _ rfl :) | exact (hS.oneV 3 _ rfl :)) rfl rfl rfl rfl ?_
    clear hS; intro W7 hS
    refine endF (XF.thenN ?_)
    refine seqF (regF ?_)
    refine op_move rfl rfl ?_
    refine op_move rfl rfl ?_
    refine op_move rfl rfl ?_
    refine op_move rfl rfl ?_
    refine op_callX (vs := [_, _, _, _]) goes_47 rfl (qput_is S p.s.f f0 sq _ p.sy _ u ns.length (ns.flatMap T9.nine) Bm _ _ w _ _ _ _ hS (by omega) hok.si hok.ok) rfl ?_
    rintro e W9 ⟨u9, f9, Kn9, rfl, hsub9, HX9, hS9⟩
    refine ⟨_, rfl, ?_⟩
    clear hS; have hS := hS9; clear hS9
    refine endF (XF.thenN ?_)
    refine regF ?_
    refine op_move rfl rfl ?_
    refine op_assign rfl rfl ?_
    refine endF ?_
    refine XF.blkN ?_
    refine XF.thenN ?_
    refine regF ?_
    refine op_add rfl rfl (IntWalk.i64_in _ (by omega)) rfl ?_
    refine op_move rfl rfl ?_
    refine endF ?_
    exact XF.round (wl - (i + 1)) [(2, _), (3, _), (4, _), (7, _), (8, _), (32, _), (33, _), (34, _)] (by omega) ⟨rfl, rfl, rfl, rfl, rfl, rfl, rfl, rfl, trivial⟩ ⟨i + 1, u9, Kn9, ns ++ [⟨atF p.st cp i, y, p.st + (i : Int), f9⟩], by omega, rfl, rfl, by rw [List.map_append, hns, chL_succ, getD_at hy]; rfl, (fun h2 hk => ⟨(HN h2 (fun q hq => hk q (hsub9 q hq))).1, fun r hr => by
      rcases List.mem_append.1 hr with hr | hr
      ·exact (HN h2 (fun q hq => hk q (hsub9 q hq))).2 r hr
      ·rw [List.mem_singleton.1 hr]; exact HX9 h2 hk⟩), (hS.castO (by simp [Int.add_assoc])).castG (by simp)⟩
   ·have hc35 := of_decide_eq_false hc; clear hc
    have hil : i = wl := by omega
    subst hil
    refine exitF ?_
    refine XF.thenX ?_
    refine XF.thenX ?_
    refine XF.blkX ?_
    refine XF.thenN ?_
    refine seqF (regF ?_)
    refine op_move rfl rfl ?_
    refine op_move rfl rfl ?_
    refine op_buildSlice (us := [(0, .int .i64 _)]) hS Try.underlying29 Try.sizeOf3 Try.zeroValue3 rfl rfl rfl (bs_29_1 _) rfl ?_
    clear hS; intro B8 W8 hS
    refine op_nilCheck rfl rfl ?_
    refine op_field (o' := 9) fa_106_1 rfl rfl rfl ?_
    refine op_field (o' := 14) fa_60_3 rfl rfl rfl ?_
    refine op_store (i := 1) (cs' := [_, _, _, _, _, _, _, _, _, _, _, _, _, _, _, _]) (O' := [_, _, _, _, _]) hS Try.sizeOf29 rfl rfl (by first | rfl | exact (hS.oneV 0 _ rfl :) | exact (hS.oneV 1 _ rfl :) | exact (hS.oneV 2 _ rfl :) | exact (hS.oneV 3 _ rfl :)) rfl rfl rfl rfl ?_
    clear hS; intro W9 hS
    refine endF (XF.thenN ?_)
    refine seqF (regF ?_)
    refine op_move rfl rfl ?_
    refine op_nilCheck rfl rfl ?_
    refine op_field (o' := 9) fa_106_1 rfl rfl rfl ?_
    refine op_loadA (vs := [_, _, _, _, _, _, _]) Try.isAgg60 Try.sizeOf60 rfl (CellsAt.own (j := 9) (m := 7) (hS.at_ 1 rfl) rfl) rfl ?_
    refine op_storeA (i := 2) (vs := [_, _, _, _, _, _, _]) (cs' := [_, _, _, _, _, _, _]) (O' := [_, _, _, _, _]) hS Try.sizeOf60 rfl rfl (by first | rfl | (have h0 := hS.oneV 0 _ rfl; simp only [List.all_cons, List.all_nil, Bool.and_true, Bool.and_eq_true]; exact ⟨rfl, rfl, rfl, rfl, rfl, rfl, h0⟩)) rfl rfl rfl rfl ?_
    clear hS; intro W10 hS
    refine op_assign rfl rfl ?_
    refine endF (XF.thenN ?_)
    refine retF ?_
    refine XF.res (resCT (vs := [_, _, _, _, _, _, _]) Try.results18 Try.isAgg60 Try.sizeOf60 rfl (CellsAt.own (j := 0) (m := 7) (hS.at_ 2 rfl) rfl) rfl) ?_
    obtain ⟨a9, c9, rfl⟩ := hS.headSl
    exact ⟨hS.below, .inr ⟨hoE, sq, _, a9, c9, ns, rfl, (hS.own _ List.mem_cons_self).1, (HN.now (hS.keep Kk (fun q hq => by simp [hq]))).1, .inr ⟨_, 0, rfl, fun j hj => by
      cases j with
      | zero => have h9 := (hS.at_ 0 rfl); exact (CellsAt.own (j := 0) (m := 1) (vs := [_]) h9 rfl).1
      | succ j => simp at hj⟩, hns, hS.row 0 rfl, (HN.now (hS.keep Kk (fun q hq => by simp [hq]))).2⟩⟩
end Go.Proofs.Ytpkcaabbcoiiiaa
namespace Go.Proofs.Ytpkcaabbcoiiiaa
open Go Go.RowKit
theorem goes_39 : goesIn Try.prog 39 = true := by kernel_rfl
theorem goes_42 : goesIn Try.prog 42 = true := by kernel_rfl
theorem queryA_c (ds2 d2 : Nat) (p : PV) (S T : PS) (q : Bool) (ds d : Nat) (s : SV) (st sy : Int) (fa : Option Addr) (fl fc : Nat) (fs : List Int) (ta : Option Addr) (tl tc : Nat) (ts : List TV) (w : World) (hs : SIn w ds s) (hfrow : Row w fa fs) (hflen : fs.length = fl) (htrow : TRow w ta ts) (htlen : ts.length = tl) (htin : ∀ t ∈ ts, WIn w d t.x) (hfm : fl ≤ 9223372036854775807) (htm : tl ≤ 9223372036854775807) (hp : PvIn w ds2 d2 p) (hSS : pdsE p = 0 → SIs w S p.s.f) (hTT : spaceE s = 0 → SIs w T s.f) (hq : q = true ↔ S = T) :
  Calls Try.prog 15 #[p.val, .agg #[.int .i64 s.f.tag, .int .i64 s.f.dim, .slice s.f.a s.f.len s.f.cap, .int .i64 st, .int .i64 sy, .slice fa fl fc, .slice ta tl tc]] w (fun e w' => e = .returned (.int .i64 (queryE p ⟨s, st, sy, fa, fl, fc, fs, ta, tl, tc, ts⟩ q)) ∧ Below w.heap.size w w') := by
 refine enterF (args := [p.val, .agg #[.int .i64 s.f.tag, .int .i64 s.f.dim, .slice s.f.a s.f.len s.f.cap, .int .i64 st, .int .i64 sy, .slice fa fl fc, .slice ta tl tc]]) Try.func15 rfl Try.ntmps15 rfl ?_
 have hS := St.start w
 refine seqF (regF ?_)
 refine op_box (cs := [_, _, _, _, _, _]) hS rfl rfl rfl ?_
 clear hS; intro B1 W1 hS
 refine op_box (cs := [_, _, _, _, _, _, _]) hS rfl rfl rfl ?_
 clear hS; intro B2 W2 hS
 refine op_assign rfl rfl ?_
 refine endF (XF.thenN ?_)
 refine seqF ?_
 refine seqF (regF ?_)
 refine op_loadA (vs := [_, _, _, _, _, _]) Try.isAgg28 Try.sizeOf28 rfl (CellsAt.own (j := 0) (m := 6) (hS.at_ 1 rfl) rfl) rfl ?_
 refine op_call (vs := [_]) hS goes_30 rfl (pdsA_is ds2 d2 p _ (hp.below hS.below)) rfl ?_
 rintro e W3 ⟨rfl, hb⟩
 refine ⟨_, rfl, hb, fun hS' => ?_⟩
 clear hS; have hS := hS'; clear hS' hb
 refine op_assign rfl rfl ?_
 refine endF (XF.thenN ?_)
 refine seqF (regF ?_)
 refine op_move rfl rfl ?_
 refine op_neq rfl rfl rfl ?_
 refine endF (XF.thenN ?_)
 refine condF rfl (fun hc => ?_) (fun hc => ?_)
 ·have hc12 := of_decide_eq_true hc; clear hc
  refine seqF (regF ?_)
  refine op_move rfl rfl ?_
  refine op_assign rfl rfl ?_
  refine endF (XF.thenN ?_)
  refine retF ?_
  refine XF.thenR ?_
  refine XF.res (res1 Try.results15 rfl) ?_
  exact ⟨rint (by unfold queryE; rw [if_pos hc12]), hS.below⟩
 ·have hc12 := of_decide_eq_false hc; clear hc
  have h0 : ¬ pdsE p ≠ 0 := hc12
  have hp0 : pdsE p = 0 := by omega
  refine skipF ?_
  refine XF.thenN ?_
  refine seqF ?_
  refine seqF (regF ?_)
  refine op_loadA (vs := [_, _, _, _, _, _, _]) Try.isAgg60 Try.sizeOf60 rfl (CellsAt.own (j := 0) (m := 7) (hS.at_ 0 rfl) rfl) rfl ?_
  refine op_call (vs := [_]) hS goes_39 rfl (autoA_is ds d ⟨s, st, sy, fa, fl, fc, fs, ta, tl, tc, ts⟩ _ (AIn.below ⟨hs, hfrow, hflen, htrow, htlen, htin, hfm, htm⟩ hS.below)) rfl ?_
  rintro e W4 ⟨rfl, hb⟩
  refine ⟨_, rfl, hb, fun hS' => ?_⟩
  clear hS; have hS := hS'; clear hS' hb
  refine op_assign rfl rfl ?_
  refine endF (XF.thenN ?_)
  refine seqF (regF ?_)
  refine op_move rfl rfl ?_
  refine op_neq rfl rfl rfl ?_
  refine endF (XF.thenN ?_)
  refine condF rfl (fun hc => ?_) (fun hc => ?_)
  ·have hc17 := of_decide_eq_true hc; clear hc
   refine seqF (regF ?_)
   refine op_move rfl rfl ?_
   refine op_assign rfl rfl ?_
   refine endF (XF.thenN ?_)
   refine retF ?_
   refine XF.thenR ?_
   refine XF.res (res1 Try.results15 rfl) ?_
   exact ⟨rint (by unfold queryE; rw [if_neg h0, if_pos hc17]), hS.below⟩
  ·have hc17 := of_decide_eq_false hc; clear hc
   have h1 : ¬ autoE ⟨s, st, sy, fa, fl, fc, fs, ta, tl, tc, ts⟩ ≠ 0 := hc17
   have hse : spaceE s = 0 := by
    have h9 : autoE ⟨s, st, sy, fa, fl, fc, fs, ta, tl, tc, ts⟩ = 0 := by omega
    unfold autoE at h9
    by_cases h8 : spaceE s ≠ 0
    ·rw [if_pos h8] at h9; exact absurd h9 h8
    ·omega
   refine skipF ?_
   refine XF.thenN ?_
   refine seqF ?_
   refine seqF (regF ?_)
   refine op_field (o' := 0) fa_60_0 rfl rfl rfl ?_
   refine op_loadA (vs := [_, _, _]) Try.isAgg25 Try.sizeOf25 rfl (CellsAt.own (j := 0) (m := 3) (hS.at_ 0 rfl) rfl) rfl ?_
   refine op_field (o' := 0) fa_28_0 rfl rfl rfl ?_
   refine op_loadA (vs := [_, _, _]) Try.isAgg25 Try.sizeOf25 rfl (CellsAt.own (j := 0) (m := 3) (hS.at_ 1 rfl) rfl) rfl ?_
   refine op_call (vs := [_, _]) hS goes_40 rfl (sameSpA9 ((hTT hse).below hS.below) ((hSS hp0).below hS.below) q (hq.trans ⟨Eq.symm, Eq.symm⟩)) rfl ?_
   rintro e W5 ⟨rfl, hb⟩
   refine ⟨_, rfl, hb, fun hS' => ?_⟩
   clear hS; have hS := hS'; clear hS' hb
   refine op_not rfl rfl ?_
   refine op_move rfl rfl ?_
   refine op_cases (d := 25) rfl (fun hc => ?_) (fun hc => ?_)
   ·have hg25 := hc; clear hc
    have e1 : q = false := by simpa using hg25
    refine op_notF (d := 25) rfl rfl rfl rfl ?_
    refine op_notF (d := 25) rfl rfl rfl rfl ?_
    refine op_notF (d := 25) rfl rfl rfl rfl ?_
    refine op_notF (d := 25) rfl rfl rfl rfl ?_
    refine op_notF (d := 25) rfl rfl rfl rfl ?_
    refine op_pickT rfl rfl rfl ?_
    refine op_move rfl rfl ?_
    refine op_notF (d := 32) rfl rfl rfl rfl ?_
    refine op_notF (d := 32) rfl rfl rfl rfl ?_
    refine op_notF (d := 32) rfl rfl rfl rfl ?_
    refine op_notF (d := 32) rfl rfl rfl rfl ?_
    refine op_notF (d := 32) rfl rfl rfl rfl ?_
    refine op_pickT rfl rfl rfl ?_
    refine endF (XF.thenN ?_)
    refine condT rfl ?_
    refine seqF (regF ?_)
    refine op_assign rfl rfl ?_
    refine endF (XF.thenN ?_)
    refine retF ?_
    refine XF.thenR ?_
    refine XF.res (res1 Try.results15 rfl) ?_
    exact ⟨rint (by unfold queryE; rw [if_neg h0, if_neg h1, if_pos (Or.inl e1)]), hS.below⟩
   ·have hg25 := hc; clear hc
    have e1 : q = true := by simpa using hg25
    refine op_wantedF (d := 25) rfl rfl ?_
    refine op_field (o' := 4) fa_60_2 rfl rfl rfl ?_
    refine op_wantedF (d := 25) rfl rfl ?_
    refine op_load Try.isAgg3 rfl (cell_own (hS.at_ 0 rfl) rfl) rfl ?_
    refine op_wantedF (d := 25) rfl rfl ?_
    refine op_field (o' := 4) fa_28_2 rfl rfl rfl ?_
    refine op_wantedF (d := 25) rfl rfl ?_
    refine op_load Try.isAgg3 rfl (cell_own (hS.at_ 1 rfl) rfl) rfl ?_
    refine op_wantedF (d := 25) rfl rfl ?_
    refine op_neq rfl rfl rfl ?_
    refine op_pickF rfl rfl rfl ?_
    refine op_move rfl rfl ?_
    refine op_cases (d := 32) rfl (fun hc => ?_) (fun hc => ?_)
    ·have hg32 := of_decide_eq_true hc; clear hc
     refine op_notF (d := 32) rfl rfl rfl rfl ?_
     refine op_notF (d := 32) rfl rfl rfl rfl ?_
     refine op_notF (d := 32) rfl rfl rfl rfl ?_
     refine op_notF (d := 32) rfl rfl rfl rfl ?_
     refine op_notF (d := 32) rfl rfl rfl rfl ?_
     refine op_pickT rfl rfl rfl ?_
     refine endF (XF.thenN ?_)
     refine condT rfl ?_
     refine seqF (regF ?_)
     refine op_assign rfl rfl ?_
     refine endF (XF.thenN ?_)
     refine retF ?_
     refine XF.thenR ?_
     refine XF.res (res1 Try.results15 rfl) ?_
     exact ⟨rint (by unfold queryE; rw [if_neg h0, if_neg h1, if_pos (Or.inr (Or.inl hg32))]), hS.below⟩
    ·have hg32 := of_decide_eq_false hc; clear hc
     refine op_wantedF (d := 32) rfl rfl ?_
     refine op_field (o' := 3) fa_60_1 rfl rfl rfl ?_
     refine op_wantedF (d := 32) rfl rfl ?_
     refine op_load Try.isAgg3 rfl (cell_own (hS.at_ 0 rfl) rfl) rfl ?_
     refine op_wantedF (d := 32) rfl rfl ?_
     refine op_field (o' := 3) fa_28_1 rfl rfl rfl ?_
     refine op_wantedF (d := 32) rfl rfl ?_
     refine op_load Try.isAgg3 rfl (cell_own (hS.at_ 1 rfl) rfl) rfl ?_
     refine op_wantedF (d := 32) rfl rfl ?_
     refine op_lss rfl rfl rfl ?_
     refine op_pickF rfl rfl rfl ?_
     refine endF (XF.thenN ?_)
     refine condF rfl (fun hc => ?_) (fun hc => ?_)
     ·have hc38 := of_decide_eq_true hc; clear hc
      refine seqF (regF ?_)
      refine op_assign rfl rfl ?_
      refine endF (XF.thenN ?_)
      refine retF ?_
      refine XF.thenR ?_
      refine XF.res (res1 Try.results15 rfl) ?_
      exact ⟨rint (by unfold queryE; rw [if_neg h0, if_neg h1, if_pos (Or.inr (Or.inr hc38))]), hS.below⟩
     ·have hc38 := of_decide_eq_false hc; clear hc
      have h3 : ¬ (q = false ∨ sy ≠ p.sy ∨ st < p.st) := by rw [e1]; simp; omega
      refine skipF ?_
      refine XF.thenN ?_
      refine seqF ?_
      refine seqF (regF ?_)
      refine op_field (o' := 6) fa_60_4 rfl rfl rfl ?_
      refine op_load Try.isAgg58 rfl (cell_own (hS.at_ 0 rfl) rfl) rfl ?_
      refine op_len Try.underlying58 rfl rfl ?_
      refine op_move rfl rfl ?_
      refine endF (XF.thenN ?_)
      refine blockF ?_
      refine loopF (fun m l W => ∃ i : Nat, i ≤ tl ∧ m = tl - i ∧ l = [(2, .pointer (some ⟨B1, 0, none⟩)), (3, .pointer (some ⟨B2, 0, none⟩)), (40, .slice ta tl tc), (41, .int .i64 (tl : Int)), (42, .int .i64 (i : Int))] ∧ (ts.take i).all (qtrB p.st) = true ∧ St w [(B2, [.int .i64 s.f.tag, .int .i64 s.f.dim, .slice s.f.a s.f.len s.f.cap, .int .i64 st, .int .i64 sy, .slice fa fl fc, .slice ta tl tc], 60), (B1, p.six, 28)] [] [] W) (tl - 0) ([(2, _), (3, _), (40, _), (41, _), (42, _)]) ⟨rfl, rfl, rfl, rfl, rfl, trivial⟩ (⟨0, Nat.zero_le _, rfl, rfl, rfl, hS.clear⟩) ?_
      clear hS
      rintro m l W ⟨i, hi, rfl, rfl, hall, hS⟩
      refine seqF (regF ?_)
      refine op_lss rfl rfl rfl ?_
      refine endF (XF.thenN ?_)
      refine seqF ?_
      refine condF rfl (fun hc => ?_) (fun hc => ?_)
      ·have hc43 := of_decide_eq_true hc; clear hc
       have hk : i < tl := by omega
       obtain ⟨r, hr⟩ : ∃ r, ts[i]? = some r := ⟨ts[i]'(by omega), by simp [show i < ts.length by omega]⟩
       obtain ⟨b, off, rfl, hcs⟩ := htrow.at_ hr
       have k1 := CellsAt.agree hS.agree (Nat.zero_le _) hcs
       have hri := htin r (List.mem_of_getElem? hr)
       refine skipF ?_
       refine XF.thenN ?_
       refine seqF ?_
       refine blockF ?_
       refine seqF (regF ?_)
       refine op_indexA  Try.underlying58 Try.sizeOf100 rfl rfl rfl (by omega) rfl rfl ?_
       refine op_loadA (vs := [_, _, _, _, _, _, _, _, _]) Try.isAgg100 Try.sizeOf100 rfl (k1) rfl ?_
       refine op_alloc (cs := [_, _, _, _, _, _, _, _, _]) hS Try.zeroValue100 rfl rfl ?_
       clear hS; intro B6 W6 hS
       refine op_storeA (i := 0) (vs := [_, _, _, _, _, _, _, _, _]) (cs' := [_, _, _, _, _, _, _, _, _]) (O' := [_, _, _]) hS Try.sizeOf100 rfl rfl rfl rfl rfl rfl rfl ?_
       clear hS; intro W7 hS
       refine endF (XF.thenN ?_)
       refine seqF (regF ?_)
       refine op_field (o' := 1) fa_100_1 rfl rfl rfl ?_
       refine op_load Try.isAgg3 rfl (cell_own (hS.at_ 0 rfl) rfl) rfl ?_
       refine op_lss rfl rfl rfl ?_
       refine op_move rfl rfl ?_
       refine op_cases (d := 49) rfl (fun hc => ?_) (fun hc => ?_)
       ·have hg49 := of_decide_eq_true hc; clear hc
        refine op_notF (d := 49) rfl rfl rfl rfl ?_
        refine op_notF (d := 49) rfl rfl rfl rfl ?_
        refine op_notF (d := 49) rfl rfl rfl rfl ?_
        refine op_notF (d := 49) rfl rfl rfl rfl ?_
        refine op_notF (d := 49) rfl rfl rfl rfl ?_
        refine op_pickT rfl rfl rfl ?_
        refine endF (XF.thenN ?_)
        refine condT rfl ?_
        refine seqF (regF ?_)
        refine op_assign rfl rfl ?_
        refine endF (XF.thenN ?_)
        refine retF ?_
        refine XF.blkR ?_
        refine XF.thenR ?_
        refine XF.thenR ?_
        refine XF.blkR ?_
        refine XF.thenR ?_
        refine XF.res (res1 Try.results15 rfl) ?_
        exact ⟨rint (by unfold queryE; rw [if_neg h0, if_neg h1, if_neg h3, if_neg (by rw [all_false_at hr (by simp [qtrB]; omega)]; decide)]), hS.below⟩
       ·have hg49 := of_decide_eq_false hc; clear hc
        refine op_wantedF (d := 49) rfl rfl ?_
        refine op_field (o' := 2) fa_100_2 rfl rfl rfl ?_
        refine op_wantedF (d := 49) rfl rfl ?_
        refine op_load Try.isAgg3 rfl (cell_own (hS.at_ 0 rfl) rfl) rfl ?_
        refine op_wantedF (d := 49) rfl rfl ?_
        refine op_field (o' := 3) fa_28_1 rfl rfl rfl ?_
        refine op_wantedF (d := 49) rfl rfl ?_
        refine op_load Try.isAgg3 rfl (cell_own (hS.at_ 2 rfl) rfl) rfl ?_
        refine op_wantedF (d := 49) rfl rfl ?_
        refine op_lss rfl rfl rfl ?_
        refine op_pickF rfl rfl rfl ?_
        refine endF (XF.thenN ?_)
        refine condF rfl (fun hc => ?_) (fun hc => ?_)
        ·have hc55 := of_decide_eq_true hc; clear hc
         refine seqF (regF ?_)
         refine op_assign rfl rfl ?_
         refine endF (XF.thenN ?_)
         refine retF ?_
         refine XF.blkR ?_
         refine XF.thenR ?_
         refine XF.thenR ?_
         refine XF.blkR ?_
         refine XF.thenR ?_
         refine XF.res (res1 Try.results15 rfl) ?_
         exact ⟨rint (by unfold queryE; rw [if_neg h0, if_neg h1, if_neg h3, if_neg (by rw [all_false_at hr (by simp [qtrB]; omega)]; decide)]), hS.below⟩
        ·have hc55 := of_decide_eq_false hc; clear hc
         refine skipF ?_
         refine XF.blkN ?_
         refine XF.thenN ?_
         refine regF ?_
         refine op_add rfl rfl (IntWalk.i64_in _ (by omega)) rfl ?_
         refine op_move rfl rfl ?_
         refine endF ?_
         exact XF.round (tl - (i + 1)) [(2, _), (3, _), (40, _), (41, _), (42, _)] (by omega) ⟨rfl, rfl, rfl, rfl, rfl, trivial⟩ ⟨i + 1, by omega, rfl, rfl, all_take_at hr hall (by simp [qtrB]; omega), hS.tail.clear⟩
      ·have hc43 := of_decide_eq_false hc; clear hc
       rw [List.take_of_length_le (by omega)] at hall
       refine exitF ?_
       refine XF.thenX ?_
       refine XF.thenX ?_
       refine XF.blkX ?_
       refine XF.thenN ?_
       refine seqF (regF ?_)
       refine op_assign rfl rfl ?_
       refine endF (XF.thenN ?_)
       refine retF ?_
       refine XF.res (res1 Try.results15 rfl) ?_
       exact ⟨rint (by unfold queryE; rw [if_neg h0, if_neg h1, if_neg h3, if_pos hall]), hS.below⟩
theorem queryA_is (ds2 d2 ds d : Nat) (p : PV) (S T : PS) (q : Bool) (a : AV) (w : World) (hp : PvIn w ds2 d2 p) (h : AIn w ds d a) (hSS : pdsE p = 0 → SIs w S p.s.f) (hTT : spaceE a.s = 0 → SIs w T a.s.f) (hq : q = true ↔ S = T) : Calls Try.prog 15 #[p.val, a.val] w (fun e w' => e = .returned (.int .i64 (queryE p a q)) ∧ Below w.heap.size w w') := queryA_c ds2 d2 p S T q ds d _ _ _ _ _ _ _ _ _ _ _ w h.s h.frow h.flen h.trow h.tlen h.tin h.fmax h.tmax hp hSS hTT hq
theorem queryR_c (ds2 d2 : Nat) (p : PV) (S T : PS) (q : Bool) (ds d : Nat) (s : SV) (st sy : Int) (fa : Option Addr) (fl fc : Nat) (fs : List Int) (ta : Option Addr) (tl tc : Nat) (ts : List TV) (w : World) (hs : SIn w ds s) (hfrow : Row w fa fs) (hflen : fs.length = fl) (htrow : TRow w ta ts) (htlen : ts.length = tl) (htin : ∀ t ∈ ts, WIn w d t.x) (hfm : fl ≤ 9223372036854775807) (htm : tl ≤ 9223372036854775807) (hp : PvIn w ds2 d2 p) (hSS : pdsE p = 0 → SIs w S p.s.f) (hTT : spaceE s = 0 → SIs w T s.f) (hq : q = true ↔ S = T) :
  Calls Try.prog 16 #[p.val, .agg #[.int .i64 s.f.tag, .int .i64 s.f.dim, .slice s.f.a s.f.len s.f.cap, .int .i64 st, .int .i64 sy, .slice fa fl fc, .slice ta tl tc]] w (fun e w' => e = .returned (.int .i64 (queryE p ⟨s, st, sy, fa, fl, fc, fs, ta, tl, tc, ts⟩ q)) ∧ Below w.heap.size w w') := by
 refine enterF (args := [p.val, .agg #[.int .i64 s.f.tag, .int .i64 s.f.dim, .slice s.f.a s.f.len s.f.cap, .int .i64 st, .int .i64 sy, .slice fa fl fc, .slice ta tl tc]]) Try.func16 rfl Try.ntmps16 rfl ?_
 have hS := St.start w
 refine seqF (regF ?_)
 refine op_box (cs := [_, _, _, _, _, _]) hS rfl rfl rfl ?_
 clear hS; intro B1 W1 hS
 refine op_box (cs := [_, _, _, _, _, _, _]) hS rfl rfl rfl ?_
 clear hS; intro B2 W2 hS
 refine op_assign rfl rfl ?_
 refine endF (XF.thenN ?_)
 refine seqF (regF ?_)
 refine op_loadA (vs := [_, _, _, _, _, _]) Try.isAgg28 Try.sizeOf28 rfl (CellsAt.own (j := 0) (m := 6) (hS.at_ 1 rfl) rfl) rfl ?_
 refine op_call (vs := [_]) hS goes_41 rfl (pdsR_is ds2 d2 p _ (hp.below hS.below)) rfl ?_
 rintro e W3 ⟨rfl, hb⟩
 refine ⟨_, rfl, hb, fun hS' => ?_⟩
 clear hS; have hS := hS'; clear hS' hb
 refine op_assign rfl rfl ?_
 refine endF (XF.thenN ?_)
 refine seqF ?_
 refine seqF (regF ?_)
 refine op_move rfl rfl ?_
 refine op_neq rfl rfl rfl ?_
 refine endF (XF.thenN ?_)
 refine condF rfl (fun hc => ?_) (fun hc => ?_)
 ·have hc11 := of_decide_eq_true hc; clear hc
  refine seqF (regF ?_)
  refine op_move rfl rfl ?_
  refine op_assign rfl rfl ?_
  refine endF (XF.thenN ?_)
  refine retF ?_
  refine XF.thenR ?_
  refine XF.res (res1 Try.results16 rfl) ?_
  exact ⟨rint (by unfold queryE; rw [if_pos hc11]), hS.below⟩
 ·have hc11 := of_decide_eq_false hc; clear hc
  have h0 : ¬ pdsE p ≠ 0 := hc11
  have hp0 : pdsE p = 0 := by omega
  refine skipF ?_
  refine XF.thenN ?_
  refine seqF (regF ?_)
  refine op_loadA (vs := [_, _, _, _, _, _, _]) Try.isAgg60 Try.sizeOf60 rfl (CellsAt.own (j := 0) (m := 7) (hS.at_ 0 rfl) rfl) rfl ?_
  refine op_call (vs := [_]) hS goes_42 rfl (autoR_is ds d ⟨s, st, sy, fa, fl, fc, fs, ta, tl, tc, ts⟩ _ (AIn.below ⟨hs, hfrow, hflen, htrow, htlen, htin, hfm, htm⟩ hS.below)) rfl ?_
  rintro e W4 ⟨rfl, hb⟩
  refine ⟨_, rfl, hb, fun hS' => ?_⟩
  clear hS; have hS := hS'; clear hS' hb
  refine op_assign rfl rfl ?_
  refine endF (XF.thenN ?_)
  refine seqF ?_
  refine seqF (regF ?_)
  refine op_move rfl rfl ?_
  refine op_neq rfl rfl rfl ?_
  refine endF (XF.thenN ?_)
  refine condF rfl (fun hc => ?_) (fun hc => ?_)
  ·have hc16 := of_decide_eq_true hc; clear hc
   refine seqF (regF ?_)
   refine op_move rfl rfl ?_
   refine op_assign rfl rfl ?_
   refine endF (XF.thenN ?_)
   refine retF ?_
   refine XF.thenR ?_
   refine XF.res (res1 Try.results16 rfl) ?_
   exact ⟨rint (by unfold queryE; rw [if_neg h0, if_pos hc16]), hS.below⟩
  ·have hc16 := of_decide_eq_false hc; clear hc
   have h1 : ¬ autoE ⟨s, st, sy, fa, fl, fc, fs, ta, tl, tc, ts⟩ ≠ 0 := hc16
   have hse : spaceE s = 0 := by
    have h9 : autoE ⟨s, st, sy, fa, fl, fc, fs, ta, tl, tc, ts⟩ = 0 := by omega
    unfold autoE at h9
    by_cases h8 : spaceE s ≠ 0
    ·rw [if_pos h8] at h9; exact absurd h9 h8
    ·omega
   refine skipF ?_
   refine XF.thenN ?_
   refine seqF ?_
   refine seqF (regF ?_)
   refine op_field (o' := 0) fa_28_0 rfl rfl rfl ?_
   refine op_loadA (vs := [_, _, _]) Try.isAgg25 Try.sizeOf25 rfl (CellsAt.own (j := 0) (m := 3) (hS.at_ 1 rfl) rfl) rfl ?_
   refine op_field (o' := 0) fa_60_0 rfl rfl rfl ?_
   refine op_loadA (vs := [_, _, _]) Try.isAgg25 Try.sizeOf25 rfl (CellsAt.own (j := 0) (m := 3) (hS.at_ 0 rfl) rfl) rfl ?_
   refine op_call (vs := [_, _]) hS goes_43 rfl (sameSpR9 ((hSS hp0).below hS.below) ((hTT hse).below hS.below) q hq) rfl ?_
   rintro e W5 ⟨rfl, hb⟩
   refine ⟨_, rfl, hb, fun hS' => ?_⟩
   clear hS; have hS := hS'; clear hS' hb
   refine op_not rfl rfl ?_
   refine op_move rfl rfl ?_
   refine op_cases (d := 24) rfl (fun hc => ?_) (fun hc => ?_)
   ·have hg24 := hc; clear hc
    have e1 : q = false := by simpa using hg24
    refine op_notF (d := 24) rfl rfl rfl rfl ?_
    refine op_notF (d := 24) rfl rfl rfl rfl ?_
    refine op_notF (d := 24) rfl rfl rfl rfl ?_
    refine op_notF (d := 24) rfl rfl rfl rfl ?_
    refine op_notF (d := 24) rfl rfl rfl rfl ?_
    refine op_pickT rfl rfl rfl ?_
    refine op_move rfl rfl ?_
    refine op_notF (d := 31) rfl rfl rfl rfl ?_
    refine op_notF (d := 31) rfl rfl rfl rfl ?_
    refine op_notF (d := 31) rfl rfl rfl rfl ?_
    refine op_notF (d := 31) rfl rfl rfl rfl ?_
    refine op_notF (d := 31) rfl rfl rfl rfl ?_
    refine op_pickT rfl rfl rfl ?_
    refine endF (XF.thenN ?_)
    refine condT rfl ?_
    refine seqF (regF ?_)
    refine op_assign rfl rfl ?_
    refine endF (XF.thenN ?_)
    refine retF ?_
    refine XF.thenR ?_
    refine XF.res (res1 Try.results16 rfl) ?_
    exact ⟨rint (by unfold queryE; rw [if_neg h0, if_neg h1, if_pos (Or.inl e1)]), hS.below⟩
   ·have hg24 := hc; clear hc
    have e1 : q = true := by simpa using hg24
    refine op_wantedF (d := 24) rfl rfl ?_
    refine op_field (o' := 4) fa_60_2 rfl rfl rfl ?_
    refine op_wantedF (d := 24) rfl rfl ?_
    refine op_load Try.isAgg3 rfl (cell_own (hS.at_ 0 rfl) rfl) rfl ?_
    refine op_wantedF (d := 24) rfl rfl ?_
    refine op_field (o' := 4) fa_28_2 rfl rfl rfl ?_
    refine op_wantedF (d := 24) rfl rfl ?_
    refine op_load Try.isAgg3 rfl (cell_own (hS.at_ 1 rfl) rfl) rfl ?_
    refine op_wantedF (d := 24) rfl rfl ?_
    refine op_neq rfl rfl rfl ?_
    refine op_pickF rfl rfl rfl ?_
    refine op_move rfl rfl ?_
    refine op_cases (d := 31) rfl (fun hc => ?_) (fun hc => ?_)
    ·have hg31 := of_decide_eq_true hc; clear hc
     refine op_notF (d := 31) rfl rfl rfl rfl ?_
     refine op_notF (d := 31) rfl rfl rfl rfl ?_
     refine op_notF (d := 31) rfl rfl rfl rfl ?_
     refine op_notF (d := 31) rfl rfl rfl rfl ?_
     refine op_notF (d := 31) rfl rfl rfl rfl ?_
     refine op_pickT rfl rfl rfl ?_
     refine endF (XF.thenN ?_)
     refine condT rfl ?_
     refine seqF (regF ?_)
     refine op_assign rfl rfl ?_
     refine endF (XF.thenN ?_)
     refine retF ?_
     refine XF.thenR ?_
     refine XF.res (res1 Try.results16 rfl) ?_
     exact ⟨rint (by unfold queryE; rw [if_neg h0, if_neg h1, if_pos (Or.inr (Or.inl hg31))]), hS.below⟩
    ·have hg31 := of_decide_eq_false hc; clear hc
     refine op_wantedF (d := 31) rfl rfl ?_
     refine op_field (o' := 3) fa_60_1 rfl rfl rfl ?_
     refine op_wantedF (d := 31) rfl rfl ?_
     refine op_load Try.isAgg3 rfl (cell_own (hS.at_ 0 rfl) rfl) rfl ?_
     refine op_wantedF (d := 31) rfl rfl ?_
     refine op_field (o' := 3) fa_28_1 rfl rfl rfl ?_
     refine op_wantedF (d := 31) rfl rfl ?_
     refine op_load Try.isAgg3 rfl (cell_own (hS.at_ 1 rfl) rfl) rfl ?_
     refine op_wantedF (d := 31) rfl rfl ?_
     refine op_lss rfl rfl rfl ?_
     refine op_pickF rfl rfl rfl ?_
     refine endF (XF.thenN ?_)
     refine condF rfl (fun hc => ?_) (fun hc => ?_)
     ·have hc37 := of_decide_eq_true hc; clear hc
      refine seqF (regF ?_)
      refine op_assign rfl rfl ?_
      refine endF (XF.thenN ?_)
      refine retF ?_
      refine XF.thenR ?_
      refine XF.res (res1 Try.results16 rfl) ?_
      exact ⟨rint (by unfold queryE; rw [if_neg h0, if_neg h1, if_pos (Or.inr (Or.inr hc37))]), hS.below⟩
     ·have hc37 := of_decide_eq_false hc; clear hc
      have h3 : ¬ (q = false ∨ sy ≠ p.sy ∨ st < p.st) := by rw [e1]; simp; omega
      refine skipF ?_
      refine XF.thenN ?_
      refine seqF ?_
      refine seqF (regF ?_)
      refine op_assign rfl rfl ?_
      refine endF (XF.thenN ?_)
      refine blockF ?_
      refine loopF (fun m l W => ∃ i : Nat, i ≤ tl ∧ m = tl - i ∧ l = [(2, .pointer (some ⟨B1, 0, none⟩)), (3, .pointer (some ⟨B2, 0, none⟩)), (7, .int .i64 (i : Int))] ∧ (ts.take i).all (qtrB p.st) = true ∧ St w [(B2, [.int .i64 s.f.tag, .int .i64 s.f.dim, .slice s.f.a s.f.len s.f.cap, .int .i64 st, .int .i64 sy, .slice fa fl fc, .slice ta tl tc], 60), (B1, p.six, 28)] [] [] W) (tl - 0) ([(2, _), (3, _), (7, _)]) ⟨rfl, rfl, rfl, trivial⟩ (⟨0, Nat.zero_le _, rfl, rfl, rfl, hS.clear⟩) ?_
      clear hS
      rintro m l W ⟨i, hi, rfl, rfl, hall, hS⟩
      refine seqF ?_
      refine seqF (regF ?_)
      refine op_move rfl rfl ?_
      refine op_field (o' := 6) fa_60_4 rfl rfl rfl ?_
      refine op_load Try.isAgg58 rfl (cell_own (hS.at_ 0 rfl) rfl) rfl ?_
      refine op_len Try.underlying58 rfl rfl ?_
      refine op_lss rfl rfl rfl ?_
      refine endF (XF.thenN ?_)
      refine condF rfl (fun hc => ?_) (fun hc => ?_)
      ·have hc42 := of_decide_eq_true hc; clear hc
       have hk : i < tl := by omega
       obtain ⟨r, hr⟩ : ∃ r, ts[i]? = some r := ⟨ts[i]'(by omega), by simp [show i < ts.length by omega]⟩
       obtain ⟨b, off, rfl, hcs⟩ := htrow.at_ hr
       have k1 := CellsAt.agree hS.agree (Nat.zero_le _) hcs
       have hri := htin r (List.mem_of_getElem? hr)
       refine skipF ?_
       refine XF.thenN ?_
       refine seqF ?_
       refine blockF ?_
       refine seqF ?_
       by_cases hg0 : r.g < 0
       ·skip
        refine regB (m := 18) followsM hS (by kernel_rfl) (by kernel_rfl) rfl ?_
        refine bl_cons 1 rfl (isV _) (stab_isV _) (rgV (li := [(3, _)]) rfl (w_free rfl) ⟨g_fr (by kernel_rfl) rfl, trivial⟩ (fun w hw => rn_field (o' := 6) fa_60_4 rfl rfl) (at_top rfl)) ?_
        refine bl_cons 2 rfl (isV _) (stab_isV _) (rgV (li := [(45, _)]) rfl (w_free rfl) ⟨g_dep 0 (by kernel_rfl) (at_dep rfl rfl rfl), trivial⟩ (fun w hw => rn_load Try.isAgg58 rfl ((below_agree hw 0).cell (Nat.zero_le _) (cell_own (hS.at_ 0 rfl) rfl))) (at_top rfl)) ?_
        refine bl_cons 3 rfl (isV _) (stab_isV _) (rgV (li := [(7, _)]) rfl (w_free rfl) ⟨g_fr (by kernel_rfl) rfl, trivial⟩ (fun w hw => rn_move rfl) (at_top rfl)) ?_
        refine bl_cons 4 rfl (isV _) (stab_isV _) (rgV (li := [(46, _), (47, _)]) rfl (w_free rfl) ⟨g_dep 1 (by kernel_rfl) (at_dep rfl rfl rfl), g_dep 2 (by kernel_rfl) (at_dep rfl rfl rfl), trivial⟩ (fun w hw => rn_indexA  Try.underlying58 Try.sizeOf100 rfl rfl rfl (by omega) rfl) (at_top rfl)) ?_
        refine bl_cons 5 rfl (isV _) (stab_isV _) (rgV (li := [(48, _)]) rfl (w_free rfl) ⟨g_dep 3 (by kernel_rfl) (at_dep rfl rfl rfl), trivial⟩ (fun w hw => rn_field fa_100_1 rfl rfl) (at_top rfl)) ?_
        refine bl_cons 6 rfl (isV _) (stab_isV _) (rgV (li := [(49, _)]) rfl (w_free rfl) ⟨g_dep 4 (by kernel_rfl) (at_dep rfl rfl rfl), trivial⟩ (fun w hw => rn_load Try.isAgg3 rfl ((below_agree hw 0).cell (Nat.zero_le _) (k1.2.1))) (at_top rfl)) ?_
        refine bl_cons 7 rfl (isV (.bool true)) (stab_isV _) (rgVe (li := [(50, _)]) rfl (w_free rfl) ⟨g_dep 5 (by kernel_rfl) (at_dep rfl rfl rfl), trivial⟩ (fun w hw => rn_lss rfl rfl) (by rw [decide_eq_true hg0]) (at_top rfl)) ?_
        refine bl_cons 8 rfl (isV _) (stab_isV _) (rgV (li := [(51, _)]) rfl (w_free rfl) ⟨g_dep 6 (by kernel_rfl) (at_dep rfl rfl rfl), trivial⟩ (fun w hw => rn_move rfl) (at_top rfl)) ?_
        refine bl_cons 9 rfl (isV undef) (stab_isV _) (rg_no rfl (w_no 52 rfl (by kernel_rfl) (by kernel_rfl) (at_dep rfl rfl rfl) rfl) (at_top rfl)) ?_
        refine bl_cons 10 rfl (isV undef) (stab_isV _) (rg_no rfl (w_no 52 rfl (by kernel_rfl) (by kernel_rfl) (at_dep rfl rfl rfl) rfl) (at_top rfl)) ?_
        refine bl_cons 11 rfl (isV undef) (stab_isV _) (rg_no rfl (w_no 52 rfl (by kernel_rfl) (by kernel_rfl) (at_dep rfl rfl rfl) rfl) (at_top rfl)) ?_
        refine bl_cons 12 rfl (isV undef) (stab_isV _) (rg_no rfl (w_no 52 rfl (by kernel_rfl) (by kernel_rfl) (at_dep rfl rfl rfl) rfl) (at_top rfl)) ?_
        refine bl_cons 13 rfl (isV undef) (stab_isV _) (rg_no rfl (w_no 52 rfl (by kernel_rfl) (by kernel_rfl) (at_dep rfl rfl rfl) rfl) (at_top rfl)) ?_
        refine bl_cons 14 rfl (isV undef) (stab_isV _) (rg_no rfl (w_no 52 rfl (by kernel_rfl) (by kernel_rfl) (at_dep rfl rfl rfl) rfl) (at_top rfl)) ?_
        refine bl_cons 15 rfl (isV undef) (stab_isV _) (rg_no rfl (w_no 52 rfl (by kernel_rfl) (by kernel_rfl) (at_dep rfl rfl rfl) rfl) (at_top rfl)) ?_
        refine bl_cons 16 rfl (isV undef) (stab_isV _) (rg_no rfl (w_no 52 rfl (by kernel_rfl) (by kernel_rfl) (at_dep rfl rfl rfl) rfl) (at_top rfl)) ?_
        refine bl_cons 17 rfl (isV undef) (stab_isV _) (rg_no rfl (w_no 52 rfl (by kernel_rfl) (by kernel_rfl) (at_dep rfl rfl rfl) rfl) (at_top rfl)) ?_
        refine bl_cons 18 rfl (isV _) (stab_isV _) (rgV (li := [(52, _)]) rfl (w_free rfl) ⟨g_dep 7 (by kernel_rfl) (at_dep rfl rfl rfl), trivial⟩ (fun w hw => rn_pickT rfl rfl) (at_top rfl)) ?_
        refine bl_nil ?_
        intro W6 hbR hS'
        clear hS; have hS := hS'; clear hS'
        refine fin_v ?_
        refine fin_v ?_
        refine fin_v ?_
        refine fin_v ?_
        refine fin_v ?_
        refine fin_v ?_
        refine fin_v ?_
        refine fin_v ?_
        refine fin_v ?_
        refine fin_v ?_
        refine fin_v ?_
        refine fin_v ?_
        refine fin_v ?_
        refine fin_v ?_
        refine fin_v ?_
        refine fin_v ?_
        refine fin_v ?_
        refine fin_v ?_
        refine fin_nil ?_
        refine XF.thenN ?_
        refine condT rfl ?_
        refine seqF (regF ?_)
        refine op_assign rfl rfl ?_
        refine endF (XF.thenN ?_)
        refine retF ?_
        refine XF.blkR ?_
        refine XF.thenR ?_
        refine XF.thenR ?_
        refine XF.blkR ?_
        refine XF.thenR ?_
        refine XF.res (res1 Try.results16 rfl) ?_
        exact ⟨rint (by unfold queryE; rw [if_neg h0, if_neg h1, if_neg h3, if_neg (by rw [all_false_at hr (by simp [qtrB]; omega)]; decide)]), hS.below⟩
       ·skip
        refine regB (m := 18) followsM hS (by kernel_rfl) (by kernel_rfl) rfl ?_
        refine bl_cons 1 rfl (isV _) (stab_isV _) (rgV (li := [(3, _)]) rfl (w_free rfl) ⟨g_fr (by kernel_rfl) rfl, trivial⟩ (fun w hw => rn_field (o' := 6) fa_60_4 rfl rfl) (at_top rfl)) ?_
        refine bl_cons 2 rfl (isV _) (stab_isV _) (rgV (li := [(45, _)]) rfl (w_free rfl) ⟨g_dep 0 (by kernel_rfl) (at_dep rfl rfl rfl), trivial⟩ (fun w hw => rn_load Try.isAgg58 rfl ((below_agree hw 0).cell (Nat.zero_le _) (cell_own (hS.at_ 0 rfl) rfl))) (at_top rfl)) ?_
        refine bl_cons 3 rfl (isV _) (stab_isV _) (rgV (li := [(7, _)]) rfl (w_free rfl) ⟨g_fr (by kernel_rfl) rfl, trivial⟩ (fun w hw => rn_move rfl) (at_top rfl)) ?_
        refine bl_cons 4 rfl (isV _) (stab_isV _) (rgV (li := [(46, _), (47, _)]) rfl (w_free rfl) ⟨g_dep 1 (by kernel_rfl) (at_dep rfl rfl rfl), g_dep 2 (by kernel_rfl) (at_dep rfl rfl rfl), trivial⟩ (fun w hw => rn_indexA  Try.underlying58 Try.sizeOf100 rfl rfl rfl (by omega) rfl) (at_top rfl)) ?_
        refine bl_cons 5 rfl (isV _) (stab_isV _) (rgV (li := [(48, _)]) rfl (w_free rfl) ⟨g_dep 3 (by kernel_rfl) (at_dep rfl rfl rfl), trivial⟩ (fun w hw => rn_field fa_100_1 rfl rfl) (at_top rfl)) ?_
        refine bl_cons 6 rfl (isV _) (stab_isV _) (rgV (li := [(49, _)]) rfl (w_free rfl) ⟨g_dep 4 (by kernel_rfl) (at_dep rfl rfl rfl), trivial⟩ (fun w hw => rn_load Try.isAgg3 rfl ((below_agree hw 0).cell (Nat.zero_le _) (k1.2.1))) (at_top rfl)) ?_
        refine bl_cons 7 rfl (isV (.bool false)) (stab_isV _) (rgVe (li := [(50, _)]) rfl (w_free rfl) ⟨g_dep 5 (by kernel_rfl) (at_dep rfl rfl rfl), trivial⟩ (fun w hw => rn_lss rfl rfl) (by rw [decide_eq_false hg0]) (at_top rfl)) ?_
        refine bl_cons 8 rfl (isV _) (stab_isV _) (rgV (li := [(51, _)]) rfl (w_free rfl) ⟨g_dep 6 (by kernel_rfl) (at_dep rfl rfl rfl), trivial⟩ (fun w hw => rn_move rfl) (at_top rfl)) ?_
        refine bl_cons 9 rfl (isV _) (stab_isV _) (rgV (li := [(3, _)]) rfl (w_yes 52 rfl (by kernel_rfl) (by kernel_rfl) (at_dep rfl rfl rfl)) ⟨g_fr (by kernel_rfl) rfl, trivial⟩ (fun w hw => rn_field (o' := 6) fa_60_4 rfl rfl) (at_top rfl)) ?_
        refine bl_cons 10 rfl (isV _) (stab_isV _) (rgV (li := [(53, _)]) rfl (w_yes 52 rfl (by kernel_rfl) (by kernel_rfl) (at_dep rfl rfl rfl)) ⟨g_dep 8 (by kernel_rfl) (at_dep rfl rfl rfl), trivial⟩ (fun w hw => rn_load Try.isAgg58 rfl ((below_agree hw 0).cell (Nat.zero_le _) (cell_own (hS.at_ 0 rfl) rfl))) (at_top rfl)) ?_
        refine bl_cons 11 rfl (isV _) (stab_isV _) (rgV (li := [(7, _)]) rfl (w_yes 52 rfl (by kernel_rfl) (by kernel_rfl) (at_dep rfl rfl rfl)) ⟨g_fr (by kernel_rfl) rfl, trivial⟩ (fun w hw => rn_move rfl) (at_top rfl)) ?_
        refine bl_cons 12 rfl (isV _) (stab_isV _) (rgV (li := [(54, _), (55, _)]) rfl (w_yes 52 rfl (by kernel_rfl) (by kernel_rfl) (at_dep rfl rfl rfl)) ⟨g_dep 9 (by kernel_rfl) (at_dep rfl rfl rfl), g_dep 10 (by kernel_rfl) (at_dep rfl rfl rfl), trivial⟩ (fun w hw => rn_indexA  Try.underlying58 Try.sizeOf100 rfl rfl rfl (by omega) rfl) (at_top rfl)) ?_
        refine bl_cons 13 rfl (isV _) (stab_isV _) (rgV (li := [(56, _)]) rfl (w_yes 52 rfl (by kernel_rfl) (by kernel_rfl) (at_dep rfl rfl rfl)) ⟨g_dep 11 (by kernel_rfl) (at_dep rfl rfl rfl), trivial⟩ (fun w hw => rn_field fa_100_2 rfl rfl) (at_top rfl)) ?_
        refine bl_cons 14 rfl (isV _) (stab_isV _) (rgV (li := [(57, _)]) rfl (w_yes 52 rfl (by kernel_rfl) (by kernel_rfl) (at_dep rfl rfl rfl)) ⟨g_dep 12 (by kernel_rfl) (at_dep rfl rfl rfl), trivial⟩ (fun w hw => rn_load Try.isAgg3 rfl ((below_agree hw 0).cell (Nat.zero_le _) (k1.2.2.1))) (at_top rfl)) ?_
        refine bl_cons 15 rfl (isV _) (stab_isV _) (rgV (li := [(2, _)]) rfl (w_yes 52 rfl (by kernel_rfl) (by kernel_rfl) (at_dep rfl rfl rfl)) ⟨g_fr (by kernel_rfl) rfl, trivial⟩ (fun w hw => rn_field (o' := 3) fa_28_1 rfl rfl) (at_top rfl)) ?_
        refine bl_cons 16 rfl (isV _) (stab_isV _) (rgV (li := [(59, _)]) rfl (w_yes 52 rfl (by kernel_rfl) (by kernel_rfl) (at_dep rfl rfl rfl)) ⟨g_dep 14 (by kernel_rfl) (at_dep rfl rfl rfl), trivial⟩ (fun w hw => rn_load Try.isAgg3 rfl ((below_agree hw 0).cell (Nat.zero_le _) (cell_own (hS.at_ 1 rfl) rfl))) (at_top rfl)) ?_
        refine bl_cons 17 rfl (isV _) (stab_isV _) (rgV (li := [(58, _), (60, _)]) rfl (w_yes 52 rfl (by kernel_rfl) (by kernel_rfl) (at_dep rfl rfl rfl)) ⟨g_dep 13 (by kernel_rfl) (at_dep rfl rfl rfl), g_dep 15 (by kernel_rfl) (at_dep rfl rfl rfl), trivial⟩ (fun w hw => rn_lss rfl rfl) (at_top rfl)) ?_
        refine bl_cons 18 rfl (isV _) (stab_isV _) (rgV (li := [(52, _), (61, _)]) rfl (w_free rfl) ⟨g_dep 7 (by kernel_rfl) (at_dep rfl rfl rfl), g_dep 16 (by kernel_rfl) (at_dep rfl rfl rfl), trivial⟩ (fun w hw => rn_pickF rfl rfl) (at_top rfl)) ?_
        refine bl_nil ?_
        intro W7 hbR hS'
        clear hS; have hS := hS'; clear hS'
        refine fin_v ?_
        refine fin_v ?_
        refine fin_v ?_
        refine fin_v ?_
        refine fin_v ?_
        refine fin_v ?_
        refine fin_v ?_
        refine fin_v ?_
        refine fin_v ?_
        refine fin_v ?_
        refine fin_v ?_
        refine fin_v ?_
        refine fin_v ?_
        refine fin_v ?_
        refine fin_v ?_
        refine fin_v ?_
        refine fin_v ?_
        refine fin_v ?_
        refine fin_nil ?_
        refine XF.thenN ?_
        refine condF rfl (fun hc => ?_) (fun hc => ?_)
        ·have hc62 := hc; clear hc
         have hlt := of_decide_eq_true hc62
         refine seqF (regF ?_)
         refine op_assign rfl rfl ?_
         refine endF (XF.thenN ?_)
         refine retF ?_
         refine XF.blkR ?_
         refine XF.thenR ?_
         refine XF.thenR ?_
         refine XF.blkR ?_
         refine XF.thenR ?_
         refine XF.res (res1 Try.results16 rfl) ?_
         exact ⟨rint (by unfold queryE; rw [if_neg h0, if_neg h1, if_neg h3, if_neg (by rw [all_false_at hr (by simp [qtrB]; omega)]; decide)]), hS.below⟩
        ·have hc62 := hc; clear hc
         have hlt := of_decide_eq_false hc62
         refine skipF ?_
         refine XF.blkN ?_
         refine XF.thenN ?_
         refine regF ?_
         refine op_move rfl rfl ?_
         refine op_add rfl rfl (IntWalk.i64_in _ (by omega)) rfl ?_
         refine op_assign rfl rfl ?_
         refine endF ?_
         exact XF.round (tl - (i + 1)) [(2, _), (3, _), (7, _)] (by omega) ⟨rfl, rfl, rfl, trivial⟩ ⟨i + 1, by omega, rfl, rfl, all_take_at hr hall (by simp [qtrB]; omega), hS.clear⟩
      ·have hc42 := of_decide_eq_false hc; clear hc
       rw [List.take_of_length_le (by omega)] at hall
       refine exitF ?_
       refine XF.thenX ?_
       refine XF.thenX ?_
       refine XF.blkX ?_
       refine XF.thenN ?_
       refine seqF (regF ?_)
       refine op_assign rfl rfl ?_
       refine endF (XF.thenN ?_)
       refine retF ?_
       refine XF.res (res1 Try.results16 rfl) ?_
       exact ⟨rint (by unfold queryE; rw [if_neg h0, if_neg h1, if_neg h3, if_pos hall]), hS.below⟩
theorem queryR_is (ds2 d2 ds d : Nat) (p : PV) (S T : PS) (q : Bool) (a : AV) (w : World) (hp : PvIn w ds2 d2 p) (h : AIn w ds d a) (hSS : pdsE p = 0 → SIs w S p.s.f) (hTT : spaceE a.s = 0 → SIs w T a.s.f) (hq : q = true ↔ S = T) : Calls Try.prog 16 #[p.val, a.val] w (fun e w' => e = .returned (.int .i64 (queryE p a q)) ∧ Below w.heap.size w w') := queryR_c ds2 d2 p S T q ds d _ _ _ _ _ _ _ _ _ _ _ w h.s h.frow h.flen h.trow h.tlen h.tin h.fmax h.tmax hp hSS hTT hq
end Go.Proofs.Ytpkcaabbcoiiiaa
namespace Go.Proofs.Ytpkcaabbcoiiiaa
open Go Go.RowKit
def exW : WV := .mk ⟨false, 1, 0, none, 0, 0, [], none, 0, 0, [], none, 0, 0⟩ []
def exP (b1 b2 : Nat) : PV := ⟨.mk ⟨2, 9, none, 0, 0⟩ [], 2, 3, some ⟨b2, 0, none⟩, 2, 2, [⟨0, 1, 0, some ⟨b1, 0, none⟩, 2, 2, [2, 1], exW⟩, ⟨0, 2, 1, none, 0, 0, [], exW⟩]⟩
theorem exW_in (w : World) : WIn w 1 exW := ⟨⟨.inl rfl, rfl, by decide, (fun r hr => by cases hr), .inl rfl, rfl, (fun c hc => by cases hc), by decide⟩, rfl, .inl rfl, fun p hp => by cases hp⟩
theorem row2 {w : World} {b : Nat} {x y : Int} {T : TypeId} (h : w.heap[b]? = some (.cells (List.toArray [.int .i64 x, .int .i64 y]) T (0, 0))) : Row w (some ⟨b, 0, none⟩) [x, y] := row_own h
theorem exP_in {w : World} {b1 b2 : Nat} {T1 T2 : TypeId} (h1 : w.heap[b1]? = some (.cells (List.toArray [.int .i64 2, .int .i64 1]) T1 (0, 0)))
  (h2 : w.heap[b2]? = some (.cells (List.toArray ((⟨0, 1, 0, some ⟨b1, 0, none⟩, 2, 2, [2, 1], exW⟩ : RV).ten ++ (⟨0, 2, 1, none, 0, 0, [], exW⟩ : RV).ten)) T2 (0, 0))) : PvIn w 1 1 (exP b1 b2) := by
 refine ⟨⟨rfl, .inl rfl, fun p hp => by cases hp⟩, .inr ⟨b2, 0, rfl, fun i r hi => ?_⟩, rfl, fun r hr => ?_⟩
 ·match i, hi with
  | 0, hi =>
   cases hi
   exact CellsAt.own (j := 0) (m := 10) h2 rfl
  | 1, hi =>
   cases hi
   exact CellsAt.own (j := 10) (m := 10) h2 rfl
  | i + 2, hi => exact absurd hi (by simp [exP])
 ·rcases List.mem_cons.1 hr with rfl | hr
  ·exact ⟨row2 h1, rfl, exW_in w⟩
  ·rcases List.mem_cons.1 hr with rfl | hr
   ·exact ⟨.inl rfl, rfl, exW_in w⟩
   ·cases hr
theorem example_is (w : World) :
  Calls Try.prog 44 #[] w (fun e w' => ∃ b1 b2, e = .returned (exP b1 b2).val ∧ (∀ w2, Agree w.heap.size w' w2 → PvIn w2 1 1 (exP b1 b2)) ∧ Below w.heap.size w w') := by
 refine enterF (args := []) Try.func44 rfl Try.ntmps44 rfl ?_
 have hS := St.start w
 refine seqF (regF ?_)
 refine op_alloc (cs := [_, _, _, _, _, _]) hS Try.zeroValue28 rfl rfl ?_
 clear hS; intro B1 W1 hS
 refine endF (XF.thenN ?_)
 refine seqF (regF ?_)
 refine op_build (us := [(1, .int .i64 _)]) rfl (bld_45_1 _) rfl ?_
 refine op_alloc (cs := [_, _, _, _, _, _]) hS Try.zeroValue45 rfl rfl ?_
 clear hS; intro B2 W2 hS
 refine op_storeA (i := 0) (vs := [_, _, _, _, _, _]) (cs' := [_, _, _, _, _, _]) (O' := [_, _]) hS Try.sizeOf45 rfl rfl rfl rfl rfl rfl rfl ?_
 clear hS; intro W3 hS
 refine endF (XF.thenN ?_)
 refine seqF (regF ?_)
 refine op_build (us := [(0, .int .i64 _), (1, .int .i64 _)]) rfl (bld_25_0_1 _ _) rfl ?_
 refine op_buildSlice (us := [(0, .int .i64 _), (1, .int .i64 _)]) hS Try.underlying29 Try.sizeOf3 Try.zeroValue3 rfl rfl rfl (bs_29_2 _ _) rfl ?_
 clear hS; intro B4 W4 hS
 refine op_loadA (vs := [_, _, _, _, _, _]) Try.isAgg45 Try.sizeOf45 rfl (CellsAt.own (j := 0) (m := 6) (hS.at_ 1 rfl) rfl) rfl ?_
 refine op_build (us := [(1, .int .i64 _), (3, .slice _ _ _), (4, .agg (List.toArray [_, _, _, _, _, _]))]) rfl (bld_47_1_3_4 _ _ _ _ _ _ _ _ _ _) rfl ?_
 refine op_loadA (vs := [_, _, _, _, _, _]) Try.isAgg45 Try.sizeOf45 rfl (CellsAt.own (j := 0) (m := 6) (hS.at_ 1 rfl) rfl) rfl ?_
 refine op_build (us := [(1, .int .i64 _), (2, .int .i64 _), (4, .agg (List.toArray [_, _, _, _, _, _]))]) rfl (bld_47_1_2_4 _ _ _ _ _ _ _ _) rfl ?_
 refine op_buildSlice (us := [(0, .agg (List.toArray [_, _, _, _, _, _, _, _, _, _])), (1, .agg (List.toArray [_, _, _, _, _, _, _, _, _, _]))]) hS Try.underlying26 Try.sizeOf47 Try.zeroValue47 rfl rfl rfl (bs_26_2 _ _ _ _ _ _ _ _ _ _ _ _ _ _ _ _ _ _ _ _) rfl ?_
 clear hS; intro B5 W5 hS
 refine op_build (us := [(0, .agg (List.toArray [_, _, _])), (1, .int .i64 _), (2, .int .i64 _), (3, .slice _ _ _)]) rfl (bld_28_0_1_2_3 _ _ _ _ _ _ _ _) rfl ?_
 refine op_storeA (i := 3) (vs := [_, _, _, _, _, _]) (cs' := [_, _, _, _, _, _]) (O' := [_, _, _, _]) hS Try.sizeOf28 rfl rfl rfl rfl rfl rfl rfl ?_
 clear hS; intro W6 hS
 refine endF (XF.thenN ?_)
 refine retF ?_
 refine XF.res (resC1 (vs := [_, _, _, _, _, _]) Try.results44 Try.isAgg28 Try.sizeOf28 rfl (CellsAt.own (j := 0) (m := 6) (hS.at_ 3 rfl) rfl)) ?_
 exact ⟨B4, B5, rfl, fun w2 hg => exP_in ((hg.2 _ (hS.ge 1 rfl) (lt_of_heap (hS.at_ 1 rfl))).trans (hS.at_ 1 rfl)) ((hg.2 _ (hS.ge 0 rfl) (lt_of_heap (hS.at_ 0 rfl))).trans (hS.at_ 0 rfl)), hS.below⟩
theorem ex_ready {w : World} {b1 b2 b3 : Nat} (S : PS) (hS : S = .one 2 9) : Ready w S (fun _ => .one (pC 1)) (exP b1 b2) ⟨0, some ⟨b3, 0, none⟩, 1, 1, [1]⟩ := by
 subst hS
 have hx : XIs w (.one 2 9) exW.f (.one (pC 1)) := PIs.of (by decide) (exW_in w).1 (by decide)
 refine ⟨?_, by show plainB 2 9 0 = true; decide, ⟨none, 0, rfl⟩, fun r hr => ?_, by show 1 ≤ 4096; decide, fun r hr => ?_⟩
 ·have e1 : spaceE (exP b1 b2).s = 0 := by show spaceE (.mk ⟨2, 9, none, 0, 0⟩ []) = 0; decide
  have e2 : (exP b1 b2).rs.all (ruleB 2 3) = true := by simp [exP, ruleB, inQ]
  have e3 : chkW (exP b1 b2).s exW = 0 := by show chkW (.mk ⟨2, 9, none, 0, 0⟩ []) exW = 0; decide
  have e4 : wtE (exP b1 b2).s (exP b1 b2).rs = 0 := wtE_all (by simp [exP]; exact decide_eq_true e3)
  have e5 : pdsE (exP b1 b2) = 0 := by
   unfold pdsE
   rw [if_neg (by rw [e1]; simp), if_neg (by simp [exP]), if_neg (by simp [exP]), if_pos (show (exP b1 b2).rs.all (ruleB (exP b1 b2).st (exP b1 b2).sy) = true from e2), e4]
  unfold stepE
  rw [if_neg (by rw [e5]; simp), if_pos (by simp [confB, exP, inQ])]
 ·rcases List.mem_cons.1 hr with rfl | hr
  ·show 2 ≤ 4096; decide
  ·rcases List.mem_cons.1 hr with rfl | hr
   ·show 0 ≤ 4096; decide
   ·cases hr
 ·rcases List.mem_cons.1 hr with rfl | hr
  ·exact hx
  ·rcases List.mem_cons.1 hr with rfl | hr
   ·exact hx
   ·cases hr
end Go.Proofs.Ytpkcaabbcoiiiaa
namespace Go.Proofs.Ytpkcaabbcoiiiaa
open Go Go.RowKit
theorem goes_15 : goesIn Try.prog 15 = true := by kernel_rfl
theorem goes_16 : goesIn Try.prog 16 = true := by kernel_rfl
theorem goes_17 : goesIn Try.prog 17 = true := by kernel_rfl
theorem goes_18 : goesIn Try.prog 18 = true := by kernel_rfl
theorem ex_one {w : World} {b1 b2 : Nat} {a : Option Addr} (hp : PvIn w 1 1 (exP b1 b2)) (hr : Row w a [0, 2]) : Calls Try.prog 18 #[(exP b1 b2).val, .agg #[.int .i64 1, .slice a 2 2]] w fun e w' => ∃ (sq : SF) (B T tc : Nat), e = .returned (.tuple #[.agg #[.int .i64 sq.tag, .int .i64 sq.dim, .slice sq.a sq.len sq.cap, .int .i64 4, .int .i64 3, .slice (some ⟨B, 0, none⟩) 1 1, .slice (some ⟨T, 0, none⟩) 2 tc], .int .i64 0]) ∧ w.heap.size ≤ B ∧ w.heap.size ≤ T ∧ w'.cell? ⟨B, 0, none⟩ = some (.int .i64 3) ∧ w'.cell? ⟨T, 9, none⟩ = some (.int .i64 2) ∧ w'.cell? ⟨T, 10, none⟩ = some (.int .i64 2) ∧ Below w.heap.size w w' := by
 obtain ⟨S, px, hpx⟩ := pdsOk_ex hp
 have hE : pdsE (exP b1 b2) = 0 := by
  have h9 := (ex_ready (w := w) (b1 := b1) (b2 := b2) (b3 := 0) _ rfl).chk
  by_cases h8 : pdsE (exP b1 b2) = 0
  ·exact h8
  ·unfold stepE at h9; rw [if_pos h8] at h9; exact h9
 refine (queryOne_c 1 1 (exP b1 b2) 1 a 2 2 [0, 2] w hp hr rfl (by decide) S px hpx).mono ?_
 have hs : stepE (exP b1 b2) ⟨1, a, 2, 2, [0, 2]⟩ = 0 := by
  unfold stepE
  rw [hE]; rfl
 have ho : qoneE (exP b1 b2) ⟨1, a, 2, 2, [0, 2]⟩ = 0 := by
  unfold qoneE
  rw [hs]; rfl
 rintro e w' ⟨hb, ⟨h1, _⟩ | ⟨_, sq, B, ta, tc, ns, rfl, hB, _, hrow, hns, hown, _⟩⟩
 ·exact absurd ho h1
 ·have hc : chL (2 : Int) 1 [0, 2] 2 = [(1, 0, 2), (2, 2, 3)] := by rfl
  have hns' : ns.map T9.pl = [(1, 0, 2), (2, 2, 3)] := hns.trans hc
  match ns, hns' with
  | [⟨f1, g1, t1, x1⟩, ⟨f2, g2, t2, x2⟩], hns' =>
   simp only [List.map_cons, List.map_nil, List.cons.injEq, Prod.mk.injEq, and_true] at hns'
   obtain ⟨⟨rfl, rfl, rfl⟩, rfl, rfl, rfl⟩ := hns'
   rcases ownsRow_cells hown with ⟨_, h0⟩ | ⟨T, rfl, hT, hc9⟩
   ·exact absurd h0 (by simp)
   ·refine ⟨sq, B, T, tc, rfl, hB, hT, ?_, hc9 9 _ rfl, hc9 10 _ rfl, hb⟩
    obtain ⟨b, off, y, e1, hy, hyc⟩ := hrow.at1 (i := 0) (by simp)
    cases e1
    cases hy
    exact hyc
  | [], h => simp at h
  | [_], h => simp at h
  | _ :: _ :: _ :: _, h => simp at h
theorem awakeQ_is (w : World) :
  Calls Try.prog 17 #[] w (fun e w' => e = .returned (.bool (true)) ∧ Below w.heap.size w w') := by
 refine enterF (args := []) Try.func17 rfl Try.ntmps17 rfl ?_
 have hS := St.start w
 refine seqF (regF ?_)
 refine op_assign rfl rfl ?_
 refine endF (XF.thenN ?_)
 refine seqF (regF ?_)
 refine op_call (vs := []) hS goes_44 rfl (example_is _) rfl ?_
 rintro e W1 ⟨b1, b2, rfl, hex, hb⟩
 refine ⟨_, rfl, hb, fun hS' => ?_⟩
 clear hS; have hS := hS'; clear hS' hb
 refine op_buildSlice (us := [(0, .int .i64 _), (1, .int .i64 _)]) hS Try.underlying29 Try.sizeOf3 Try.zeroValue3 rfl rfl rfl (bs_29_2 _ _) rfl ?_
 clear hS; intro B2 W2 hS
 refine op_build (us := [(0, .int .i64 _), (1, .slice _ _ _)]) rfl (bld_49_0_1 _ _ _ _) rfl ?_
 have hp9 := hex _ (hS.since 0 rfl)
 refine op_call (vs := [_, _]) hS goes_18 rfl (ex_one hp9 (row2 (hS.at_ 0 rfl))) rfl ?_
 rintro e W3 ⟨sq, BF, BT, tc, rfl, hB9, hT9, kB, kT1, kT2, hb⟩
 refine ⟨_, rfl, hb, fun hS' => ?_⟩
 clear hS; have hS := hS'; clear hS'
 refine op_move rfl rfl ?_
 refine op_extract rfl rfl rfl ?_
 refine op_extract rfl rfl rfl ?_
 refine op_alloc (cs := [_, _, _, _, _, _, _]) hS Try.zeroValue60 rfl rfl ?_
 clear hS; intro B4 W4 hS
 refine op_storeA (i := 0) (vs := [_, _, _, _, _, _, _]) (cs' := [_, _, _, _, _, _, _]) (O' := [_, _]) hS Try.sizeOf60 rfl rfl rfl rfl rfl rfl rfl ?_
 clear hS; intro W5 hS
 refine op_assign rfl rfl ?_
 refine endF (XF.thenN ?_)
 refine seqF ?_
 have k1 := (hS.since 0 rfl).cell hB9 kB
 have k2 := (hS.since 0 rfl).cell hT9 kT1
 have k3 := (hS.since 0 rfl).cell hT9 kT2
 refine regF ?_
 refine op_move rfl rfl ?_
 refine op_eql rfl rfl rfl ?_
 refine op_move rfl rfl ?_
 refine op_cases (d := 12) rfl (fun hc => ?_) (fun hc => absurd (of_decide_eq_false hc) (by decide))
 have hc := of_decide_eq_true hc
 refine op_wantedF (d := 12) rfl rfl ?_
 refine op_field (o' := 3) fa_60_1 rfl rfl rfl ?_
 refine op_wantedF (d := 12) rfl rfl ?_
 refine op_load Try.isAgg3 rfl (cell_own (hS.at_ 0 rfl) rfl) rfl ?_
 refine op_wantedF (d := 12) rfl rfl ?_
 refine op_eql rfl rfl rfl ?_
 refine op_pickT rfl rfl rfl ?_
 refine op_move rfl rfl ?_
 refine op_cases (d := 17) rfl (fun hc => ?_) (fun hc => absurd (of_decide_eq_false hc) (by decide))
 have hc := of_decide_eq_true hc
 refine op_wantedF (d := 17) rfl rfl ?_
 refine op_field (o' := 6) fa_60_4 rfl rfl rfl ?_
 refine op_wantedF (d := 17) rfl rfl ?_
 refine op_load Try.isAgg58 rfl (cell_own (hS.at_ 0 rfl) rfl) rfl ?_
 refine op_wantedF (d := 17) rfl rfl ?_
 refine op_len Try.underlying58 rfl rfl ?_
 refine op_wantedF (d := 17) rfl rfl ?_
 refine op_eql rfl rfl rfl ?_
 refine op_pickT rfl rfl rfl ?_
 refine op_move rfl rfl ?_
 refine op_cases (d := 23) rfl (fun hc => ?_) (fun hc => absurd (of_decide_eq_false hc) (by decide))
 have hc := of_decide_eq_true hc
 refine op_wantedF (d := 23) rfl rfl ?_
 refine op_field (o' := 6) fa_60_4 rfl rfl rfl ?_
 refine op_wantedF (d := 23) rfl rfl ?_
 refine op_load Try.isAgg58 rfl (cell_own (hS.at_ 0 rfl) rfl) rfl ?_
 refine op_wantedF (d := 23) rfl rfl ?_
 refine op_indexA (j := 1) Try.underlying58 Try.sizeOf100 rfl rfl rfl (by omega) rfl rfl ?_
 refine op_wantedF (d := 23) rfl rfl ?_
 refine op_field fa_100_1 rfl rfl rfl ?_
 refine op_wantedF (d := 23) rfl rfl ?_
 refine op_load Try.isAgg3 rfl (k3) rfl ?_
 refine op_wantedF (d := 23) rfl rfl ?_
 refine op_eql rfl rfl rfl ?_
 refine op_pickT rfl rfl rfl ?_
 refine op_move rfl rfl ?_
 refine op_cases (d := 31) rfl (fun hc => ?_) (fun hc => absurd (of_decide_eq_false hc) (by decide))
 have hc := of_decide_eq_true hc
 refine op_wantedF (d := 31) rfl rfl ?_
 refine op_field (o' := 6) fa_60_4 rfl rfl rfl ?_
 refine op_wantedF (d := 31) rfl rfl ?_
 refine op_load Try.isAgg58 rfl (cell_own (hS.at_ 0 rfl) rfl) rfl ?_
 refine op_wantedF (d := 31) rfl rfl ?_
 refine op_indexA (j := 1) Try.underlying58 Try.sizeOf100 rfl rfl rfl (by omega) rfl rfl ?_
 refine op_wantedF (d := 31) rfl rfl ?_
 refine op_field fa_100_0 rfl (Nat.add_zero _) rfl ?_
 refine op_wantedF (d := 31) rfl rfl ?_
 refine op_load Try.isAgg3 rfl (k2) rfl ?_
 refine op_wantedF (d := 31) rfl rfl ?_
 refine op_eql rfl rfl rfl ?_
 refine op_pickT rfl rfl rfl ?_
 refine op_move rfl rfl ?_
 refine op_cases (d := 39) rfl (fun hc => ?_) (fun hc => absurd (of_decide_eq_false hc) (by decide))
 have hc := of_decide_eq_true hc
 refine op_wantedF (d := 39) rfl rfl ?_
 refine op_field (o' := 5) fa_60_3 rfl rfl rfl ?_
 refine op_wantedF (d := 39) rfl rfl ?_
 refine op_load Try.isAgg29 rfl (cell_own (hS.at_ 0 rfl) rfl) rfl ?_
 refine op_wantedF (d := 39) rfl rfl ?_
 refine op_len Try.underlying29 rfl rfl ?_
 refine op_wantedF (d := 39) rfl rfl ?_
 refine op_eql rfl rfl rfl ?_
 refine op_pickT rfl rfl rfl ?_
 refine op_move rfl rfl ?_
 refine op_cases (d := 45) rfl (fun hc => ?_) (fun hc => absurd (of_decide_eq_false hc) (by decide))
 have hc := of_decide_eq_true hc
 refine op_wantedF (d := 45) rfl rfl ?_
 refine op_field (o' := 5) fa_60_3 rfl rfl rfl ?_
 refine op_wantedF (d := 45) rfl rfl ?_
 refine op_load Try.isAgg29 rfl (cell_own (hS.at_ 0 rfl) rfl) rfl ?_
 refine op_wantedF (d := 45) rfl rfl ?_
 refine op_indexA (j := 0) Try.underlying29 Try.sizeOf3 rfl rfl rfl (by omega) (Nat.add_zero _) rfl ?_
 refine op_wantedF (d := 45) rfl rfl ?_
 refine op_load Try.isAgg3 rfl (k1) rfl ?_
 refine op_wantedF (d := 45) rfl rfl ?_
 refine op_eql rfl rfl rfl ?_
 refine op_pickT rfl rfl rfl ?_
 refine op_assign rfl rfl ?_
 refine endF (XF.thenN ?_)
 refine retF ?_
 refine XF.res (res1 Try.results17 rfl) ?_
 exact ⟨rfl, hS.below⟩
theorem queryChecks_walk0 (ds2 d2 ds d : Nat) (p : PV) (a : AV) (w : World) (hp : PvIn w ds2 d2 p) (ha : AIn w ds d a) :
  Calls Try.prog 4 #[p.val, a.val] w (fun e w' => e = .returned (.bool (true)) ∧ Below w.heap.size w w') := by
 refine enterF (args := [p.val, a.val]) Try.func4 rfl Try.ntmps4 rfl ?_
 have hS := St.start w
 obtain ⟨S, px, hpx⟩ := pdsOk_ex hp
 obtain ⟨T, hT⟩ : ∃ T, spaceE a.s = 0 → SIs w T a.s.f := by
  by_cases h : spaceE a.s = 0
  ·obtain ⟨T, _, h2, _⟩ := space_of ha.s h
   exact ⟨T, fun _ => h2⟩
  ·exact ⟨.one 0 0, fun h9 => absurd h9 h⟩
 obtain ⟨q, hq⟩ : ∃ q : Bool, q = true ↔ S = T := by
  by_cases h : S = T
  ·exact ⟨true, by simp [h]⟩
  ·exact ⟨false, by simp [h]⟩
 have hSS : pdsE p = 0 → SIs w S p.s.f := fun h => (hpx h).si
 refine seqF (regF ?_)
 refine op_box (cs := [_, _, _, _, _, _]) hS rfl rfl rfl ?_
 clear hS; intro B1 W1 hS
 refine op_box (cs := [_, _, _, _, _, _, _]) hS rfl rfl rfl ?_
 clear hS; intro B2 W2 hS
 refine op_assign rfl rfl ?_
 refine endF (XF.thenN ?_)
 refine seqF ?_
 refine regB (m := 11) followsM hS (by kernel_rfl) (by kernel_rfl) rfl ?_
 refine bl_cons 1 rfl (isV _) (stab_isV _) (rgV (li := [(2, _)]) rfl (w_free rfl) ⟨g_fr (by kernel_rfl) rfl, trivial⟩ (fun w hw => rn_loadA (vs := [_, _, _, _, _, _]) Try.isAgg28 Try.sizeOf28 rfl (CellsAt.agree (below_agree hw 0) (Nat.zero_le _) (CellsAt.own (j := 0) (m := 6) (hS.at_ 1 rfl) rfl))) (at_top rfl)) ?_
 refine bl_cons 2 rfl (isV _) (stab_isV _) (rgV (li := [(3, _)]) rfl (w_free rfl) ⟨g_fr (by kernel_rfl) rfl, trivial⟩ (fun w hw => rn_loadA (vs := [_, _, _, _, _, _, _]) Try.isAgg60 Try.sizeOf60 rfl (CellsAt.agree (below_agree hw 0) (Nat.zero_le _) (CellsAt.own (j := 0) (m := 7) (hS.at_ 0 rfl) rfl))) (at_top rfl)) ?_
 refine bl_cons 3 rfl (isV (.int .i64 (queryE p a q))) (stab_isV _) (rg_call [isV _, isV _] rfl goes_15 (w_free rfl) ⟨p_tmp (g_dep 0 (by kernel_rfl) (at_dep rfl rfl rfl)), p_tmp (g_dep 1 (by kernel_rfl) (at_dep rfl rfl rfl)), trivial⟩ (fun vs w' hb hh => by have e := holds_isV (us := [_, _]) hh; subst e; exact (queryA_is ds2 d2 ds d p S T q a w' (hp.below (hS.below.trans (hb.mono hS.below.size))) (ha.below (hS.below.trans (hb.mono hS.below.size))) (fun h => (hSS h).below (hS.below.trans (hb.mono hS.below.size))) (fun h => (hT h).below (hS.below.trans (hb.mono hS.below.size))) hq).mono fun e w2 h => ⟨_, h.1, rfl, h.2⟩) (at_top rfl)) ?_
 refine bl_cons 4 rfl (isV _) (stab_isV _) (rgV (li := [(2, _)]) rfl (w_free rfl) ⟨g_fr (by kernel_rfl) rfl, trivial⟩ (fun w hw => rn_loadA (vs := [_, _, _, _, _, _]) Try.isAgg28 Try.sizeOf28 rfl (CellsAt.agree (below_agree hw 0) (Nat.zero_le _) (CellsAt.own (j := 0) (m := 6) (hS.at_ 1 rfl) rfl))) (at_top rfl)) ?_
 refine bl_cons 5 rfl (isV _) (stab_isV _) (rgV (li := [(3, _)]) rfl (w_free rfl) ⟨g_fr (by kernel_rfl) rfl, trivial⟩ (fun w hw => rn_loadA (vs := [_, _, _, _, _, _, _]) Try.isAgg60 Try.sizeOf60 rfl (CellsAt.agree (below_agree hw 0) (Nat.zero_le _) (CellsAt.own (j := 0) (m := 7) (hS.at_ 0 rfl) rfl))) (at_top rfl)) ?_
 refine bl_cons 6 rfl (isV (.int .i64 (queryE p a q))) (stab_isV _) (rg_call [isV _, isV _] rfl goes_16 (w_free rfl) ⟨p_tmp (g_dep 3 (by kernel_rfl) (at_dep rfl rfl rfl)), p_tmp (g_dep 4 (by kernel_rfl) (at_dep rfl rfl rfl)), trivial⟩ (fun vs w' hb hh => by have e := holds_isV (us := [_, _]) hh; subst e; exact (queryR_is ds2 d2 ds d p S T q a w' (hp.below (hS.below.trans (hb.mono hS.below.size))) (ha.below (hS.below.trans (hb.mono hS.below.size))) (fun h => (hSS h).below (hS.below.trans (hb.mono hS.below.size))) (fun h => (hT h).below (hS.below.trans (hb.mono hS.below.size))) hq).mono fun e w2 h => ⟨_, h.1, rfl, h.2⟩) (at_top rfl)) ?_
 refine bl_cons 7 rfl (isV (.bool true)) (stab_isV _) (rgVe (li := [(7, _), (10, _)]) rfl (w_free rfl) ⟨g_dep 2 (by kernel_rfl) (at_dep rfl rfl rfl), g_dep 5 (by kernel_rfl) (at_dep rfl rfl rfl), trivial⟩ (fun w hw => rn_eql rfl rfl) (by simp) (at_top rfl)) ?_
 refine bl_cons 8 rfl (isV _) (stab_isV _) (rgV (li := [(11, _)]) rfl (w_free rfl) ⟨g_dep 6 (by kernel_rfl) (at_dep rfl rfl rfl), trivial⟩ (fun w hw => rn_move rfl) (at_top rfl)) ?_
 refine bl_cons 9 rfl (isV (.bool true)) (stab_isV _) (rg_call [] rfl goes_17 (w_yes 12 rfl (by kernel_rfl) (by kernel_rfl) (at_dep rfl rfl rfl)) trivial (fun vs w' hb hh => by have e := holds_isV (us := []) hh; subst e; exact (awakeQ_is w').mono fun e w2 h => ⟨_, h.1, rfl, h.2⟩) (at_top rfl)) ?_
 refine bl_cons 10 rfl (isV _) (stab_isV _) (rgV (li := [(12, _), (13, _)]) rfl (w_free rfl) ⟨g_dep 7 (by kernel_rfl) (at_dep rfl rfl rfl), g_dep 8 (by kernel_rfl) (at_dep rfl rfl rfl), trivial⟩ (fun w hw => rn_pickT rfl rfl) (at_top rfl)) ?_
 refine bl_cons 11 rfl (isV _) (stab_isV _) (rgV (li := [(14, _)]) rfl (w_free rfl) ⟨g_dep 9 (by kernel_rfl) (at_dep rfl rfl rfl), trivial⟩ (fun w hw => rn_assign rfl) (at_top rfl)) ?_
 refine bl_nil ?_
 intro W3 hbR hS'
 clear hS; have hS := hS'; clear hS'
 refine fin_v ?_
 refine fin_v ?_
 refine fin_v ?_
 refine fin_v ?_
 refine fin_v ?_
 refine fin_v ?_
 refine fin_v ?_
 refine fin_v ?_
 refine fin_v ?_
 refine fin_v ?_
 refine fin_v ?_
 refine fin_nil ?_
 refine XF.thenN ?_
 refine retF ?_
 refine XF.res (res1 Try.results4 rfl) ?_
 exact ⟨rfl, hS.below⟩
theorem queryChecks_walk (n m : Nat) (p : PV) (a : AV) (w : World) (hp : PvIn w n n p) (ha : AIn w m m a) : Calls Try.prog 4 #[p.val, a.val] w (fun e w' => e = .returned (.bool (true)) ∧ Below w.heap.size w w') := queryChecks_walk0 n n m m p a w hp ha
end Go.Proofs.Ytpkcaabbcoiiiaa
namespace Go.Proofs.Ytpkcaabbcoiiiaa
open Go.RowKit Go.ChangeShapes Go.WideShapes Go.Deep Go.Joins
theorem nine_len9 {cs : List Value} (h : cs.length = 9) : ∃ a b c d e f g i j, cs = [a, b, c, d, e, f, g, i, j] := by
 match cs, h with
 | [a, b, c, d, e, f, g, i, j], _ => exact ⟨a, b, c, d, e, f, g, i, j, rfl⟩
theorem seven_len9 {cs : List Value} (h : cs.length = 7) : ∃ a b c d e f g, cs = [a, b, c, d, e, f, g] := by
 match cs, h with
 | [a, b, c, d, e, f, g], _ => exact ⟨a, b, c, d, e, f, g, rfl⟩
section
variable {H : Type} {enc : TypeId × Value → H} {w : World} {base : Nat} {spare : Nat → Bool} {held : Bool}
theorem trans_in {n : Nat} {cs : List Value} {x : DataW H × List MemPlace} (h : DataW.trod enc Try.prog w base spare held n 100 cs = some x) : ∃ r : TV, cs = r.nine ∧ WIn w n r.x := by
 obtain ⟨xs, n', hn, _, hl, hlen, hg⟩ := DataW.trod_struct Try.underlying100 h
 rw [show Try.prog.cellsOf 100 = 9 by kernel_rfl] at hl
 obtain ⟨a, b, c, e, f, g, i, j, k, rfl⟩ := nine_len9 hl
 have hlen4 : xs.length = 4 := hlen
 have g0 := hg 0 _ rfl
 have g1 := hg 1 _ rfl
 have g2 := hg 2 _ rfl
 have g4 := hg 3 _ rfl
 rw [show Try.prog.cellsOf _ = 1 by kernel_rfl, List.getElem?_eq_getElem (by omega)] at g0 g1 g2
 rw [show Try.prog.cellsOf _ = 6 by kernel_rfl, List.getElem?_eq_getElem (by omega)] at g4
 obtain ⟨z0, e0, _, w0⟩ := DataW.trod_int (k := .i64) (by kernel_rfl) g0
 obtain ⟨z1, e1, _, w1⟩ := DataW.trod_int (k := .i64) (by kernel_rfl) g1
 obtain ⟨z2, e2, _, w2⟩ := DataW.trod_int (k := .i64) (by kernel_rfl) g2
 simp at e0 e1 e2
 subst e0 e1 e2
 obtain ⟨s, e4, hs⟩ := weight_in n' g4
 have e4' : [e, f, g, i, j, k] = s.f.six := by simpa using e4
 simp only [List.cons.injEq, and_true] at e4'
 obtain ⟨rfl, rfl, rfl, rfl, rfl, rfl⟩ := e4'
 exact ⟨⟨z0, z1, z2, s⟩, rfl, hs.more (by omega)⟩
theorem auto_in {n : Nat} {cs : List Value} {x : DataW H × List MemPlace} (h : DataW.trod enc Try.prog w base spare held n 60 cs = some x) : ∃ p : AV, cs = p.seven ∧ AIn w n n p := by
 obtain ⟨xs, n', hn, _, hl, hlen, hg⟩ := DataW.trod_struct Try.underlying60 h
 rw [show Try.prog.cellsOf 60 = 7 by kernel_rfl] at hl
 obtain ⟨a, b, c, d, e, f, g, rfl⟩ := seven_len9 hl
 have hlen5 : xs.length = 5 := hlen
 have g0 := hg 0 _ rfl
 have g1 := hg 1 _ rfl
 have g2 := hg 2 _ rfl
 have g3 := hg 3 _ rfl
 have g4 := hg 4 _ rfl
 rw [show Try.prog.cellsOf _ = 3 by kernel_rfl, List.getElem?_eq_getElem (by omega)] at g0
 rw [show Try.prog.cellsOf _ = 1 by kernel_rfl, List.getElem?_eq_getElem (by omega)] at g1 g2 g3 g4
 obtain ⟨s, es, hs⟩ := space_in n' g0
 have es' : [a, b, c] = [.int .i64 s.f.tag, .int .i64 s.f.dim, .slice s.f.a s.f.len s.f.cap] := by simpa using es
 simp only [List.cons.injEq, and_true] at es'
 obtain ⟨rfl, rfl, rfl⟩ := es'
 obtain ⟨z1, e1, _, w1⟩ := DataW.trod_int (k := .i64) (by kernel_rfl) g1
 obtain ⟨z2, e2, _, w2⟩ := DataW.trod_int (k := .i64) (by kernel_rfl) g2
 simp at e1 e2
 subst e1 e2
 obtain ⟨fa, fl, fc, fs, rfl, hfrow, hfl, hfc, hfm⟩ := ints_in (v := f) g3
 have hfm9 : fl ≤ 9223372036854775807 := by simp only [maxLen] at hfm; omega
 rcases DataW.trod_slice Try.underlying58 g4 with ⟨hcs, _⟩ | ⟨ad, len, cap, elems, rest, n2, hn2, hcs, _, hb, hle, hcap, hel, hi, _, _⟩
 ·simp at hcs
  subst hcs
  exact ⟨⟨s, z1, z2, fa, fl, fc, fs, none, 0, 0, []⟩, rfl, ⟨hs.more (by omega), hfrow, hfl, .inl rfl, rfl, (fun r hr => by cases hr), hfm9, Nat.zero_le _⟩⟩
 ·simp at hcs
  subst hcs
  rw [show Try.prog.cellsOf 100 = 9 by kernel_rfl] at hi
  obtain ⟨rs, hrl, hrs⟩ := list_pick len (fun i (r : TV) => (∀ (j : Nat) u, r.nine[j]? = some u → w.cell? (ad.add (i * 9 + j)) = some u) ∧ WIn w n2 r.x) (fun i hil => by
   have hii := hi i hil
   rw [List.getElem?_eq_getElem (by omega)] at hii
   obtain ⟨cs', hc, ht⟩ := Option.bind_eq_some_iff.1 hii
   obtain ⟨_, hcl, hat⟩ := World.cells?_some hc
   obtain ⟨r, rfl, hr⟩ := trans_in ht
   refine ⟨r, fun j u hj => ?_, hr⟩
   have hj9 : j < 9 := (List.getElem?_eq_some_iff.1 hj).1
   have h0 := hat j (by omega)
   rw [Go.Deep.add_add] at h0
   rw [h0]; exact hj)
  refine ⟨⟨s, z1, z2, fa, fl, fc, fs, some ad, len, cap, rs⟩, rfl, ⟨hs.more (by omega), hfrow, hfl, ?_, hrl, fun r hr => ?_, hfm9, by simp only [maxLen] at hcap hle; dsimp only; omega⟩⟩
  ·rcases Nat.eq_zero_or_pos len with h0 | h0
   ·exact .inl (List.length_eq_zero_iff.1 (by dsimp only; omega))
   ·obtain ⟨b, off, spot⟩ := ad
    have h1 := (hrs 0 (rs[0]'(by omega)) (List.getElem?_eq_getElem (by omega))).1 0 _ rfl
    have hspot : spot = none := by simpa [Addr.add] using World.cell?_spot h1
    subst hspot
    refine .inr ⟨b, off, rfl, fun i r hir => cellsAt_of _ _ fun j u hj => ?_⟩
    have h3 := (hrs i r hir).1 j u hj
    have e : ∀ k, ({ block := b, off := off } : Addr).add k = ⟨b, off + k, none⟩ := fun k => by simp [Addr.add]
    rw [e, ← Nat.add_assoc] at h3
    exact h3
  ·obtain ⟨i, hi', hic⟩ := List.mem_iff_getElem.1 hr
   exact (hrs i r (by rw [← hic]; exact List.getElem?_eq_getElem hi')).2.more (by omega)
theorem auto_open {r : Reach} {b0 : Nat} {v : Value} {d : DataW H} {p : List MemPlace} (hv : Value.okWide Try.prog w r b0 60 v) (h : DataW.Trod enc Try.prog w base spare held 60 v d p) :
  ∃ (n : Nat) (s : AV), v = s.val ∧ AIn w n n s := by
 obtain ⟨cs, rfl, _⟩ := okWide_struct Try.underlying60 hv
 obtain ⟨n, h⟩ := h
 obtain ⟨s, e, hs⟩ := auto_in (n := n) h
 have e' : cs.toList = _ := e
 exact ⟨n, s, by show Value.agg cs = Value.agg _; congr 1; exact Array.ext' e', hs⟩
end
end Go.Proofs.Ytpkcaabbcoiiiaa
