import Derived.Orders
import Derived.Below
import Derived.Deep.RegionHeld
import Derived.WalkKit
import Derived.KernelRfl
import Derived.Laws.Rows
import Derived.Laws.AppendOwn
import Derived.Laws.Strings
import Derived.Laws.Small
import Derived.Lib.Hide
import Derived.IntWalk
import Derived.Laws.Tables
import Derived.Laws.Concat
import Derived.Laws.MakeOwn
import Derived.Lib.OwnBridge
import Derived.Laws.IdiomStrings
import Derived.Lib.ItoaLen
import Derived.Lib.UnsafeStr
import Derived.Lib.AppendIntMem
import Derived.Test.YtpinbmjkbkogdaaRows
import Derived.Lib.SmallJoins
import Derived.Deep.Slices
import Derived.Deep.Fields
import Derived.ChangeSlices
import Derived.ChangeSame
import Derived.ProofKit
import Derived.RangeFuncNested
import Derived.RangeFuncBound
import Derived.RangeFuncCalls
import Derived.RangeFuncLeaves
import Derived.OwnWalkIn
import Derived.TacticsInMore
import Derived.LoopNIn
import Derived.Shelf.Abstract
import Derived.Test.YtpinbmjkbkogdaaConfA
import Derived.Test.YtpinbmjkbkogdaaConfB
set_option linter.unusedVariables false
set_option linter.unusedSimpArgs false
set_option linter.unusedSectionVars false
set_option linter.unnecessarySimpa false
namespace Go.Proofs.Ytpinbmjkbkogdaa
open Go Go.RowKit
set_option linter.unusedVariables false
theorem bld_53_0 (v0 : Int) : Try.prog.built 53 [(0, .int .i64 v0)] = some #[.int .i64 v0, .int .i64 0, .slice none 0 0] := by kernel_rfl
theorem bld_67 : Try.prog.built 67 [] = some #[.bool false, .int .i64 0, .int .u64 0, .slice none 0 0, .slice none 0 0, .slice none 0 0] := by kernel_rfl
theorem goes_12 : goesIn Try.prog 12 = true := by kernel_rfl
set_option maxRecDepth 100000 in
set_option maxHeartbeats 4000000 in
theorem ints_is (wa va : Option Addr) (wl wc vl vc : Nat) (ws vs : List Int) (w : World) (hrow : RowI w wa ws) (hlen : ws.length = wl) (hrov : RowI w va vs) (hlev : vs.length = vl) (hmx : wl ≤ 9223372036854775807) :
    Calls Try.prog 12 #[.slice wa wl wc, .slice va vl vc] w (fun e w' => e = .returned (.bool (decide (ws = vs))) ∧ Below w.heap.size w w') := by
  refine enterF (args := [.slice wa wl wc, .slice va vl vc]) Try.func12 rfl Try.ntmps12 rfl ?_
  have hS := St.start w
  refine seqF ?_
  refine regF ?_
  refine op_assign rfl rfl ?_
  refine endF ?_
  refine XF.thenN ?_
  refine seqF ?_
  refine seqF ?_
  refine regF ?_
  refine op_move rfl rfl ?_
  refine op_len Try.underlying23 rfl rfl ?_
  refine op_move rfl rfl ?_
  refine op_len Try.underlying23 rfl rfl ?_
  refine op_neq rfl rfl rfl ?_
  refine endF ?_
  refine XF.thenN ?_
  refine condF rfl (fun hc => ?_) (fun hc => ?_)
  · have hc10 := of_decide_eq_true hc; clear hc
    refine seqF ?_
    refine regF ?_
    refine op_assign rfl rfl ?_
    refine endF ?_
    refine XF.thenN ?_
    refine retF ?_
    refine XF.thenR ?_
    refine XF.res (res1 Try.results12 rfl) ?_
    exact ⟨rbool (decide_eq_false (fun h => absurd (congrArg List.length h) (by omega))).symm, hS.below⟩
  · have hc10 := of_decide_eq_false hc; clear hc
    have hll : wl = vl := by omega
    refine skipF ?_
    refine XF.thenN ?_
    refine seqF ?_
    refine seqF ?_
    refine regF ?_
    refine op_assign rfl rfl ?_
    refine endF ?_
    refine XF.thenN ?_
    refine blockF ?_
    refine loopF (fun m l W => ∃ i : Nat, i ≤ wl ∧ m = wl - i ∧ l = [(0, .slice wa wl wc), (1, .slice va vl vc), (5, .int .i64 (i : Int))] ∧ ws.take i = vs.take i ∧ St w [] [] [] W) (wl - 0) ([(0, _), (1, _), (5, _)]) ⟨rfl, rfl, rfl, trivial⟩ (⟨0, Nat.zero_le _, rfl, rfl, rfl, hS.clear⟩) ?_
    clear hS
    rintro m l W ⟨i, hi, rfl, rfl, hall, hS⟩
    refine seqF ?_
    refine seqF ?_
    refine regF ?_
    refine op_move rfl rfl ?_
    refine op_move rfl rfl ?_
    refine op_len Try.underlying23 rfl rfl ?_
    refine op_lss rfl rfl rfl ?_
    refine endF ?_
    refine XF.thenN ?_
    refine condF rfl (fun hc => ?_) (fun hc => ?_)
    · have hc14 := of_decide_eq_true hc; clear hc
      have hk : i < wl := by omega
      obtain ⟨b, off, y, rfl, hy, hyc⟩ := hrow.get (i := i) (by omega)
      obtain ⟨b2, off2, z, rfl, hz, hzc⟩ := hrov.get (i := i) (by omega)
      have k1 := (CellsAt.agree hS.agree (Nat.zero_le _) hyc).1
      have k2 := (CellsAt.agree hS.agree (Nat.zero_le _) hzc).1
      refine skipF ?_
      refine XF.thenN ?_
      refine seqF ?_
      refine blockF ?_
      refine seqF ?_
      refine regB (m := 9) followsM hS (by kernel_rfl) (by kernel_rfl) rfl ?_
      refine bl_cons 1 rfl (isV _) (stab_isV _) (rgV (li := [(0, _)]) rfl (w_free rfl) ⟨g_fr (by kernel_rfl) rfl, trivial⟩ (fun w hw => rn_move rfl) (at_top rfl)) ?_
      refine bl_cons 2 rfl (isV _) (stab_isV _) (rgV (li := [(5, _)]) rfl (w_free rfl) ⟨g_fr (by kernel_rfl) rfl, trivial⟩ (fun w hw => rn_move rfl) (at_top rfl)) ?_
      refine bl_cons 3 rfl (isV _) (stab_isV _) (rgV (li := [(17, _), (18, _)]) rfl (w_free rfl) ⟨g_dep 0 (by kernel_rfl) (at_dep rfl rfl rfl), g_dep 1 (by kernel_rfl) (at_dep rfl rfl rfl), trivial⟩ (fun w hw => rn_indexA  Try.underlying23 Try.sizeOf3 rfl rfl rfl (by omega) rfl) (at_top rfl)) ?_
      refine bl_cons 4 rfl (isV _) (stab_isV _) (rgV (li := [(19, _)]) rfl (w_free rfl) ⟨g_dep 2 (by kernel_rfl) (at_dep rfl rfl rfl), trivial⟩ (fun w hw => rn_load Try.isAgg3 rfl ((below_agree hw 0).cell (Nat.zero_le _) (k1))) (at_top rfl)) ?_
      refine bl_cons 5 rfl (isV _) (stab_isV _) (rgV (li := [(1, _)]) rfl (w_free rfl) ⟨g_fr (by kernel_rfl) rfl, trivial⟩ (fun w hw => rn_move rfl) (at_top rfl)) ?_
      refine bl_cons 6 rfl (isV _) (stab_isV _) (rgV (li := [(5, _)]) rfl (w_free rfl) ⟨g_fr (by kernel_rfl) rfl, trivial⟩ (fun w hw => rn_move rfl) (at_top rfl)) ?_
      refine bl_cons 7 rfl (isV _) (stab_isV _) (rgV (li := [(21, _), (22, _)]) rfl (w_free rfl) ⟨g_dep 4 (by kernel_rfl) (at_dep rfl rfl rfl), g_dep 5 (by kernel_rfl) (at_dep rfl rfl rfl), trivial⟩ (fun w hw => rn_indexA  Try.underlying23 Try.sizeOf3 rfl rfl rfl (by omega) rfl) (at_top rfl)) ?_
      refine bl_cons 8 rfl (isV _) (stab_isV _) (rgV (li := [(23, _)]) rfl (w_free rfl) ⟨g_dep 6 (by kernel_rfl) (at_dep rfl rfl rfl), trivial⟩ (fun w hw => rn_load Try.isAgg3 rfl ((below_agree hw 0).cell (Nat.zero_le _) (k2))) (at_top rfl)) ?_
      refine bl_cons 9 rfl (isV _) (stab_isV _) (rgV (li := [(20, _), (24, _)]) rfl (w_free rfl) ⟨g_dep 3 (by kernel_rfl) (at_dep rfl rfl rfl), g_dep 7 (by kernel_rfl) (at_dep rfl rfl rfl), trivial⟩ (fun w hw => rn_neq rfl rfl) (at_top rfl)) ?_
      refine bl_nil ?_
      intro W1 hbR hS'
      clear hS; have hS := hS'; clear hS'
      refine fin_v ?_
      refine fin_v ?_
      refine fin_v ?_
      refine fin_v ?_
      refine fin_v ?_
      refine fin_v ?_
      refine fin_v ?_
      refine fin_v ?_
      refine fin_v ?_
      refine fin_nil ?_
      refine XF.thenN ?_
      refine condF rfl (fun hc => ?_) (fun hc => ?_)
      · have hc25 := hc; clear hc
        refine seqF ?_
        refine regF ?_
        refine op_assign rfl rfl ?_
        refine endF ?_
        refine XF.thenN ?_
        refine retF ?_
        refine XF.blkR ?_
        refine XF.thenR ?_
        refine XF.thenR ?_
        refine XF.blkR ?_
        refine XF.thenR ?_
        refine XF.res (res1 Try.results12 rfl) ?_
        exact ⟨rbool (decide_eq_false (fun h => absurd (show y = z by have e := h ▸ hy; rw [hz] at e; exact (Option.some.inj e).symm) (by simpa using hc25))).symm, hS.below⟩
      · have hc25 := hc; clear hc
        refine skipF ?_
        refine XF.blkN ?_
        refine XF.thenN ?_
        refine regF ?_
        refine op_move rfl rfl ?_
        refine op_add rfl rfl (IntWalk.i64_in _ (by omega)) rfl ?_
        refine op_assign rfl rfl ?_
        refine endF ?_
        exact XF.round (wl - (i + 1)) [(0, _), (1, _), (5, _)] (by omega) ⟨rfl, rfl, rfl, trivial⟩ ⟨i + 1, by omega, rfl, rfl, take_same hall hy hz (by simpa using hc25), hS.clear⟩
    · have hc14 := of_decide_eq_false hc; clear hc
      refine exitF ?_
      refine XF.thenX ?_
      refine XF.thenX ?_
      refine XF.blkX ?_
      refine XF.thenN ?_
      refine seqF ?_
      refine regF ?_
      refine op_assign rfl rfl ?_
      refine endF ?_
      refine XF.thenN ?_
      refine retF ?_
      refine XF.res (res1 Try.results12 rfl) ?_
      rw [List.take_of_length_le (by omega), List.take_of_length_le (by omega)] at hall
      exact ⟨rbool (decide_eq_true hall).symm, hS.below⟩

set_option maxRecDepth 100000 in
set_option maxHeartbeats 4000000 in
theorem sameConf_is (p q : Int) (wa va : Option Addr) (wl wc vl vc : Nat) (ws vs : List Int) (w : World) (hrow : RowI w wa ws) (hlen : ws.length = wl) (hrov : RowI w va vs) (hlev : vs.length = vl) (hmx : wl ≤ 9223372036854775807) :
    Calls Try.prog 11 #[.agg #[.int .i64 p, .slice wa wl wc], .agg #[.int .i64 q, .slice va vl vc]] w (fun e w' => e = .returned (.bool (decide (p = q) && decide (ws = vs))) ∧ Below w.heap.size w w') := by
  refine enterF (args := [.agg #[.int .i64 p, .slice wa wl wc], .agg #[.int .i64 q, .slice va vl vc]]) Try.func11 rfl Try.ntmps11 rfl ?_
  have hS := St.start w
  refine seqF ?_
  refine regF ?_
  refine op_box (cs := [_, _]) hS rfl rfl rfl ?_
  clear hS; intro B1 W1 hS
  refine op_box (cs := [_, _]) hS rfl rfl rfl ?_
  clear hS; intro B2 W2 hS
  refine op_assign rfl rfl ?_
  refine endF ?_
  refine XF.thenN ?_
  refine seqF ?_
  refine regF ?_
  refine op_field (o' := 0) fa_31_0 rfl rfl rfl ?_
  refine op_load Try.isAgg3 rfl (cell_own (hS.at_ 1 rfl) rfl) rfl ?_
  refine op_field (o' := 0) fa_31_0 rfl rfl rfl ?_
  refine op_load Try.isAgg3 rfl (cell_own (hS.at_ 0 rfl) rfl) rfl ?_
  refine op_eql rfl rfl rfl ?_
  refine op_move rfl rfl ?_
  refine op_cases (d := 10) rfl (fun hc => ?_) (fun hc => ?_)
  · have hg10 := of_decide_eq_true hc; clear hc
    refine op_wantedF (d := 10) rfl rfl ?_
    refine op_field (o' := 1) fa_31_1 rfl rfl rfl ?_
    refine op_wantedF (d := 10) rfl rfl ?_
    refine op_load Try.isAgg23 rfl (cell_own (hS.at_ 1 rfl) rfl) rfl ?_
    refine op_wantedF (d := 10) rfl rfl ?_
    refine op_field (o' := 1) fa_31_1 rfl rfl rfl ?_
    refine op_wantedF (d := 10) rfl rfl ?_
    refine op_load Try.isAgg23 rfl (cell_own (hS.at_ 0 rfl) rfl) rfl ?_
    refine op_wantedF (d := 10) rfl rfl ?_
    refine op_call (vs := [_, _]) hS goes_12 rfl (ints_is _ _ _ _ _ _ ws vs _ (hrow.below hS.below) hlen (hrov.below hS.below) hlev hmx) rfl ?_
    rintro e W3 ⟨rfl, hb⟩
    refine ⟨_, rfl, hb, fun hS' => ?_⟩
    clear hS; have hS := hS'; clear hS' hb
    refine op_pickT rfl rfl rfl ?_
    refine op_assign rfl rfl ?_
    refine endF ?_
    refine XF.thenN ?_
    refine retF ?_
    refine XF.res (res1 Try.results11 rfl) ?_
    exact ⟨rbool (by rw [decide_eq_true hg10]; rfl), hS.below⟩
  · have hg10 := of_decide_eq_false hc; clear hc
    refine op_notF (d := 10) rfl rfl rfl rfl ?_
    refine op_notF (d := 10) rfl rfl rfl rfl ?_
    refine op_notF (d := 10) rfl rfl rfl rfl ?_
    refine op_notF (d := 10) rfl rfl rfl rfl ?_
    refine op_notF (d := 10) rfl rfl rfl rfl ?_
    refine op_pickF rfl rfl rfl ?_
    refine op_assign rfl rfl ?_
    refine endF ?_
    refine XF.thenN ?_
    refine retF ?_
    refine XF.res (res1 Try.results11 rfl) ?_
    exact ⟨rbool (by rw [decide_eq_false hg10]; rfl), hS.below⟩

set_option maxRecDepth 100000 in
set_option maxHeartbeats 4000000 in
theorem small_is (g : GV) (w : World) :
    Calls Try.prog 5 #[g.val] w (fun e w' => e = .returned (.bool (smallB g)) ∧ Below w.heap.size w w') := by
  refine enterF (args := [g.val]) Try.func5 rfl Try.ntmps5 rfl ?_
  have hS := St.start w
  refine seqF ?_
  refine regF ?_
  refine op_box (cs := [_, _, _, _, _, _, _, _, _, _]) hS rfl rfl rfl ?_
  clear hS; intro B1 W1 hS
  refine op_assign rfl rfl ?_
  refine endF ?_
  refine XF.thenN ?_
  refine seqF ?_
  refine regF ?_
  refine op_field (o' := 0) fa_29_0 rfl rfl rfl ?_
  refine op_load Try.isAgg22 rfl (cell_own (hS.at_ 0 rfl) rfl) rfl ?_
  refine op_len Try.underlying22 rfl rfl ?_
  refine op_leq rfl rfl rfl ?_
  refine op_move rfl rfl ?_
  refine op_cases (d := 7) rfl (fun hc => ?_) (fun hc => ?_)
  · have hg7 := of_decide_eq_true hc; clear hc
    refine op_wantedF (d := 7) rfl rfl ?_
    refine op_field (o' := 1) fa_29_1 rfl rfl rfl ?_
    refine op_wantedF (d := 7) rfl rfl ?_
    refine op_load Try.isAgg22 rfl (cell_own (hS.at_ 0 rfl) rfl) rfl ?_
    refine op_wantedF (d := 7) rfl rfl ?_
    refine op_len Try.underlying22 rfl rfl ?_
    refine op_wantedF (d := 7) rfl rfl ?_
    refine op_leq rfl rfl rfl ?_
    refine op_pickT rfl rfl rfl ?_
    refine op_move rfl rfl ?_
    refine op_cases (d := 13) rfl (fun hc => ?_) (fun hc => ?_)
    · have hg13 := of_decide_eq_true hc; clear hc
      refine op_wantedF (d := 13) rfl rfl ?_
      refine op_field (o' := 2) fa_29_2 rfl rfl rfl ?_
      refine op_wantedF (d := 13) rfl rfl ?_
      refine op_load Try.isAgg23 rfl (cell_own (hS.at_ 0 rfl) rfl) rfl ?_
      refine op_wantedF (d := 13) rfl rfl ?_
      refine op_len Try.underlying23 rfl rfl ?_
      refine op_wantedF (d := 13) rfl rfl ?_
      refine op_leq rfl rfl rfl ?_
      refine op_pickT rfl rfl rfl ?_
      refine op_move rfl rfl ?_
      refine op_cases (d := 19) rfl (fun hc => ?_) (fun hc => ?_)
      · have hg19 := of_decide_eq_true hc; clear hc
        refine op_wantedF (d := 19) rfl rfl ?_
        refine op_field (o' := 3) fa_29_3 rfl rfl rfl ?_
        refine op_wantedF (d := 19) rfl rfl ?_
        refine op_load Try.isAgg23 rfl (cell_own (hS.at_ 0 rfl) rfl) rfl ?_
        refine op_wantedF (d := 19) rfl rfl ?_
        refine op_len Try.underlying23 rfl rfl ?_
        refine op_wantedF (d := 19) rfl rfl ?_
        refine op_leq rfl rfl rfl ?_
        refine op_pickT rfl rfl rfl ?_
        refine op_move rfl rfl ?_
        refine op_cases (d := 25) rfl (fun hc => ?_) (fun hc => ?_)
        · have hg25 := of_decide_eq_true hc; clear hc
          refine op_wantedF (d := 25) rfl rfl ?_
          refine op_field (o' := 5) fa_29_5 rfl rfl rfl ?_
          refine op_wantedF (d := 25) rfl rfl ?_
          refine op_load Try.isAgg23 rfl (cell_own (hS.at_ 0 rfl) rfl) rfl ?_
          refine op_wantedF (d := 25) rfl rfl ?_
          refine op_len Try.underlying23 rfl rfl ?_
          refine op_wantedF (d := 25) rfl rfl ?_
          refine op_leq rfl rfl rfl ?_
          refine op_pickT rfl rfl rfl ?_
          refine op_move rfl rfl ?_
          refine op_cases (d := 31) rfl (fun hc => ?_) (fun hc => ?_)
          · have hg31 := of_decide_eq_true hc; clear hc
            refine op_wantedF (d := 31) rfl rfl ?_
            refine op_field (o' := 6) fa_29_6 rfl rfl rfl ?_
            refine op_wantedF (d := 31) rfl rfl ?_
            refine op_load Try.isAgg24 rfl (cell_own (hS.at_ 0 rfl) rfl) rfl ?_
            refine op_wantedF (d := 31) rfl rfl ?_
            refine op_len Try.underlying24 rfl rfl ?_
            refine op_wantedF (d := 31) rfl rfl ?_
            refine op_leq rfl rfl rfl ?_
            refine op_pickT rfl rfl rfl ?_
            refine op_move rfl rfl ?_
            refine op_cases (d := 37) rfl (fun hc => ?_) (fun hc => ?_)
            · have hg37 := of_decide_eq_true hc; clear hc
              refine op_wantedF (d := 37) rfl rfl ?_
              refine op_field (o' := 7) fa_29_7 rfl rfl rfl ?_
              refine op_wantedF (d := 37) rfl rfl ?_
              refine op_load Try.isAgg25 rfl (cell_own (hS.at_ 0 rfl) rfl) rfl ?_
              refine op_wantedF (d := 37) rfl rfl ?_
              refine op_len Try.underlying25 rfl rfl ?_
              refine op_wantedF (d := 37) rfl rfl ?_
              refine op_leq rfl rfl rfl ?_
              refine op_pickT rfl rfl rfl ?_
              refine op_move rfl rfl ?_
              refine op_cases (d := 43) rfl (fun hc => ?_) (fun hc => ?_)
              · have hg43 := of_decide_eq_true hc; clear hc
                refine op_wantedF (d := 43) rfl rfl ?_
                refine op_field (o' := 8) fa_29_8 rfl rfl rfl ?_
                refine op_wantedF (d := 43) rfl rfl ?_
                refine op_load Try.isAgg26 rfl (cell_own (hS.at_ 0 rfl) rfl) rfl ?_
                refine op_wantedF (d := 43) rfl rfl ?_
                refine op_len Try.underlying26 rfl rfl ?_
                refine op_wantedF (d := 43) rfl rfl ?_
                refine op_leq rfl rfl rfl ?_
                refine op_pickT rfl rfl rfl ?_
                refine op_move rfl rfl ?_
                refine op_cases (d := 49) rfl (fun hc => ?_) (fun hc => ?_)
                · have hg49 := of_decide_eq_true hc; clear hc
                  refine op_wantedF (d := 49) rfl rfl ?_
                  refine op_field (o' := 9) fa_29_9 rfl rfl rfl ?_
                  refine op_wantedF (d := 49) rfl rfl ?_
                  refine op_load Try.isAgg27 rfl (cell_own (hS.at_ 0 rfl) rfl) rfl ?_
                  refine op_wantedF (d := 49) rfl rfl ?_
                  refine op_len Try.underlying27 rfl rfl ?_
                  refine op_wantedF (d := 49) rfl rfl ?_
                  refine op_leq rfl rfl rfl ?_
                  refine op_pickT rfl rfl rfl ?_
                  refine op_assign rfl rfl ?_
                  refine endF ?_
                  refine XF.thenN ?_
                  refine retF ?_
                  refine XF.res (res1 Try.results5 rfl) ?_
                  exact ⟨rbool (by unfold smallB; rw [if_neg (by omega), if_neg (by omega), if_neg (by omega), if_neg (by omega), if_neg (by omega), if_neg (by omega), if_neg (by omega), if_neg (by omega)]; exact decide_eq_decide.2 (by omega)), hS.below⟩
                · have hg49 := of_decide_eq_false hc; clear hc
                  refine op_notF (d := 49) rfl rfl rfl rfl ?_
                  refine op_notF (d := 49) rfl rfl rfl rfl ?_
                  refine op_notF (d := 49) rfl rfl rfl rfl ?_
                  refine op_notF (d := 49) rfl rfl rfl rfl ?_
                  refine op_pickF rfl rfl rfl ?_
                  refine op_assign rfl rfl ?_
                  refine endF ?_
                  refine XF.thenN ?_
                  refine retF ?_
                  refine XF.res (res1 Try.results5 rfl) ?_
                  exact ⟨rbool (by unfold smallB; rw [if_neg (by omega), if_neg (by omega), if_neg (by omega), if_neg (by omega), if_neg (by omega), if_neg (by omega), if_neg (by omega), if_pos (by omega)]), hS.below⟩
              · have hg43 := of_decide_eq_false hc; clear hc
                refine op_notF (d := 43) rfl rfl rfl rfl ?_
                refine op_notF (d := 43) rfl rfl rfl rfl ?_
                refine op_notF (d := 43) rfl rfl rfl rfl ?_
                refine op_notF (d := 43) rfl rfl rfl rfl ?_
                refine op_pickF rfl rfl rfl ?_
                refine op_move rfl rfl ?_
                refine op_notF (d := 49) rfl rfl rfl rfl ?_
                refine op_notF (d := 49) rfl rfl rfl rfl ?_
                refine op_notF (d := 49) rfl rfl rfl rfl ?_
                refine op_notF (d := 49) rfl rfl rfl rfl ?_
                refine op_pickF rfl rfl rfl ?_
                refine op_assign rfl rfl ?_
                refine endF ?_
                refine XF.thenN ?_
                refine retF ?_
                refine XF.res (res1 Try.results5 rfl) ?_
                exact ⟨rbool (by unfold smallB; rw [if_neg (by omega), if_neg (by omega), if_neg (by omega), if_neg (by omega), if_neg (by omega), if_neg (by omega), if_pos (by omega)]), hS.below⟩
            · have hg37 := of_decide_eq_false hc; clear hc
              refine op_notF (d := 37) rfl rfl rfl rfl ?_
              refine op_notF (d := 37) rfl rfl rfl rfl ?_
              refine op_notF (d := 37) rfl rfl rfl rfl ?_
              refine op_notF (d := 37) rfl rfl rfl rfl ?_
              refine op_pickF rfl rfl rfl ?_
              refine op_move rfl rfl ?_
              refine op_notF (d := 43) rfl rfl rfl rfl ?_
              refine op_notF (d := 43) rfl rfl rfl rfl ?_
              refine op_notF (d := 43) rfl rfl rfl rfl ?_
              refine op_notF (d := 43) rfl rfl rfl rfl ?_
              refine op_pickF rfl rfl rfl ?_
              refine op_move rfl rfl ?_
              refine op_notF (d := 49) rfl rfl rfl rfl ?_
              refine op_notF (d := 49) rfl rfl rfl rfl ?_
              refine op_notF (d := 49) rfl rfl rfl rfl ?_
              refine op_notF (d := 49) rfl rfl rfl rfl ?_
              refine op_pickF rfl rfl rfl ?_
              refine op_assign rfl rfl ?_
              refine endF ?_
              refine XF.thenN ?_
              refine retF ?_
              refine XF.res (res1 Try.results5 rfl) ?_
              exact ⟨rbool (by unfold smallB; rw [if_neg (by omega), if_neg (by omega), if_neg (by omega), if_neg (by omega), if_neg (by omega), if_pos (by omega)]), hS.below⟩
          · have hg31 := of_decide_eq_false hc; clear hc
            refine op_notF (d := 31) rfl rfl rfl rfl ?_
            refine op_notF (d := 31) rfl rfl rfl rfl ?_
            refine op_notF (d := 31) rfl rfl rfl rfl ?_
            refine op_notF (d := 31) rfl rfl rfl rfl ?_
            refine op_pickF rfl rfl rfl ?_
            refine op_move rfl rfl ?_
            refine op_notF (d := 37) rfl rfl rfl rfl ?_
            refine op_notF (d := 37) rfl rfl rfl rfl ?_
            refine op_notF (d := 37) rfl rfl rfl rfl ?_
            refine op_notF (d := 37) rfl rfl rfl rfl ?_
            refine op_pickF rfl rfl rfl ?_
            refine op_move rfl rfl ?_
            refine op_notF (d := 43) rfl rfl rfl rfl ?_
            refine op_notF (d := 43) rfl rfl rfl rfl ?_
            refine op_notF (d := 43) rfl rfl rfl rfl ?_
            refine op_notF (d := 43) rfl rfl rfl rfl ?_
            refine op_pickF rfl rfl rfl ?_
            refine op_move rfl rfl ?_
            refine op_notF (d := 49) rfl rfl rfl rfl ?_
            refine op_notF (d := 49) rfl rfl rfl rfl ?_
            refine op_notF (d := 49) rfl rfl rfl rfl ?_
            refine op_notF (d := 49) rfl rfl rfl rfl ?_
            refine op_pickF rfl rfl rfl ?_
            refine op_assign rfl rfl ?_
            refine endF ?_
            refine XF.thenN ?_
            refine retF ?_
            refine XF.res (res1 Try.results5 rfl) ?_
            exact ⟨rbool (by unfold smallB; rw [if_neg (by omega), if_neg (by omega), if_neg (by omega), if_neg (by omega), if_pos (by omega)]), hS.below⟩
        · have hg25 := of_decide_eq_false hc; clear hc
          refine op_notF (d := 25) rfl rfl rfl rfl ?_
          refine op_notF (d := 25) rfl rfl rfl rfl ?_
          refine op_notF (d := 25) rfl rfl rfl rfl ?_
          refine op_notF (d := 25) rfl rfl rfl rfl ?_
          refine op_pickF rfl rfl rfl ?_
          refine op_move rfl rfl ?_
          refine op_notF (d := 31) rfl rfl rfl rfl ?_
          refine op_notF (d := 31) rfl rfl rfl rfl ?_
          refine op_notF (d := 31) rfl rfl rfl rfl ?_
          refine op_notF (d := 31) rfl rfl rfl rfl ?_
          refine op_pickF rfl rfl rfl ?_
          refine op_move rfl rfl ?_
          refine op_notF (d := 37) rfl rfl rfl rfl ?_
          refine op_notF (d := 37) rfl rfl rfl rfl ?_
          refine op_notF (d := 37) rfl rfl rfl rfl ?_
          refine op_notF (d := 37) rfl rfl rfl rfl ?_
          refine op_pickF rfl rfl rfl ?_
          refine op_move rfl rfl ?_
          refine op_notF (d := 43) rfl rfl rfl rfl ?_
          refine op_notF (d := 43) rfl rfl rfl rfl ?_
          refine op_notF (d := 43) rfl rfl rfl rfl ?_
          refine op_notF (d := 43) rfl rfl rfl rfl ?_
          refine op_pickF rfl rfl rfl ?_
          refine op_move rfl rfl ?_
          refine op_notF (d := 49) rfl rfl rfl rfl ?_
          refine op_notF (d := 49) rfl rfl rfl rfl ?_
          refine op_notF (d := 49) rfl rfl rfl rfl ?_
          refine op_notF (d := 49) rfl rfl rfl rfl ?_
          refine op_pickF rfl rfl rfl ?_
          refine op_assign rfl rfl ?_
          refine endF ?_
          refine XF.thenN ?_
          refine retF ?_
          refine XF.res (res1 Try.results5 rfl) ?_
          exact ⟨rbool (by unfold smallB; rw [if_neg (by omega), if_neg (by omega), if_neg (by omega), if_pos (by omega)]), hS.below⟩
      · have hg19 := of_decide_eq_false hc; clear hc
        refine op_notF (d := 19) rfl rfl rfl rfl ?_
        refine op_notF (d := 19) rfl rfl rfl rfl ?_
        refine op_notF (d := 19) rfl rfl rfl rfl ?_
        refine op_notF (d := 19) rfl rfl rfl rfl ?_
        refine op_pickF rfl rfl rfl ?_
        refine op_move rfl rfl ?_
        refine op_notF (d := 25) rfl rfl rfl rfl ?_
        refine op_notF (d := 25) rfl rfl rfl rfl ?_
        refine op_notF (d := 25) rfl rfl rfl rfl ?_
        refine op_notF (d := 25) rfl rfl rfl rfl ?_
        refine op_pickF rfl rfl rfl ?_
        refine op_move rfl rfl ?_
        refine op_notF (d := 31) rfl rfl rfl rfl ?_
        refine op_notF (d := 31) rfl rfl rfl rfl ?_
        refine op_notF (d := 31) rfl rfl rfl rfl ?_
        refine op_notF (d := 31) rfl rfl rfl rfl ?_
        refine op_pickF rfl rfl rfl ?_
        refine op_move rfl rfl ?_
        refine op_notF (d := 37) rfl rfl rfl rfl ?_
        refine op_notF (d := 37) rfl rfl rfl rfl ?_
        refine op_notF (d := 37) rfl rfl rfl rfl ?_
        refine op_notF (d := 37) rfl rfl rfl rfl ?_
        refine op_pickF rfl rfl rfl ?_
        refine op_move rfl rfl ?_
        refine op_notF (d := 43) rfl rfl rfl rfl ?_
        refine op_notF (d := 43) rfl rfl rfl rfl ?_
        refine op_notF (d := 43) rfl rfl rfl rfl ?_
        refine op_notF (d := 43) rfl rfl rfl rfl ?_
        refine op_pickF rfl rfl rfl ?_
        refine op_move rfl rfl ?_
        refine op_notF (d := 49) rfl rfl rfl rfl ?_
        refine op_notF (d := 49) rfl rfl rfl rfl ?_
        refine op_notF (d := 49) rfl rfl rfl rfl ?_
        refine op_notF (d := 49) rfl rfl rfl rfl ?_
        refine op_pickF rfl rfl rfl ?_
        refine op_assign rfl rfl ?_
        refine endF ?_
        refine XF.thenN ?_
        refine retF ?_
        refine XF.res (res1 Try.results5 rfl) ?_
        exact ⟨rbool (by unfold smallB; rw [if_neg (by omega), if_neg (by omega), if_pos (by omega)]), hS.below⟩
    · have hg13 := of_decide_eq_false hc; clear hc
      refine op_notF (d := 13) rfl rfl rfl rfl ?_
      refine op_notF (d := 13) rfl rfl rfl rfl ?_
      refine op_notF (d := 13) rfl rfl rfl rfl ?_
      refine op_notF (d := 13) rfl rfl rfl rfl ?_
      refine op_pickF rfl rfl rfl ?_
      refine op_move rfl rfl ?_
      refine op_notF (d := 19) rfl rfl rfl rfl ?_
      refine op_notF (d := 19) rfl rfl rfl rfl ?_
      refine op_notF (d := 19) rfl rfl rfl rfl ?_
      refine op_notF (d := 19) rfl rfl rfl rfl ?_
      refine op_pickF rfl rfl rfl ?_
      refine op_move rfl rfl ?_
      refine op_notF (d := 25) rfl rfl rfl rfl ?_
      refine op_notF (d := 25) rfl rfl rfl rfl ?_
      refine op_notF (d := 25) rfl rfl rfl rfl ?_
      refine op_notF (d := 25) rfl rfl rfl rfl ?_
      refine op_pickF rfl rfl rfl ?_
      refine op_move rfl rfl ?_
      refine op_notF (d := 31) rfl rfl rfl rfl ?_
      refine op_notF (d := 31) rfl rfl rfl rfl ?_
      refine op_notF (d := 31) rfl rfl rfl rfl ?_
      refine op_notF (d := 31) rfl rfl rfl rfl ?_
      refine op_pickF rfl rfl rfl ?_
      refine op_move rfl rfl ?_
      refine op_notF (d := 37) rfl rfl rfl rfl ?_
      refine op_notF (d := 37) rfl rfl rfl rfl ?_
      refine op_notF (d := 37) rfl rfl rfl rfl ?_
      refine op_notF (d := 37) rfl rfl rfl rfl ?_
      refine op_pickF rfl rfl rfl ?_
      refine op_move rfl rfl ?_
      refine op_notF (d := 43) rfl rfl rfl rfl ?_
      refine op_notF (d := 43) rfl rfl rfl rfl ?_
      refine op_notF (d := 43) rfl rfl rfl rfl ?_
      refine op_notF (d := 43) rfl rfl rfl rfl ?_
      refine op_pickF rfl rfl rfl ?_
      refine op_move rfl rfl ?_
      refine op_notF (d := 49) rfl rfl rfl rfl ?_
      refine op_notF (d := 49) rfl rfl rfl rfl ?_
      refine op_notF (d := 49) rfl rfl rfl rfl ?_
      refine op_notF (d := 49) rfl rfl rfl rfl ?_
      refine op_pickF rfl rfl rfl ?_
      refine op_assign rfl rfl ?_
      refine endF ?_
      refine XF.thenN ?_
      refine retF ?_
      refine XF.res (res1 Try.results5 rfl) ?_
      exact ⟨rbool (by unfold smallB; rw [if_neg (by omega), if_pos (by omega)]), hS.below⟩
  · have hg7 := of_decide_eq_false hc; clear hc
    refine op_notF (d := 7) rfl rfl rfl rfl ?_
    refine op_notF (d := 7) rfl rfl rfl rfl ?_
    refine op_notF (d := 7) rfl rfl rfl rfl ?_
    refine op_notF (d := 7) rfl rfl rfl rfl ?_
    refine op_pickF rfl rfl rfl ?_
    refine op_move rfl rfl ?_
    refine op_notF (d := 13) rfl rfl rfl rfl ?_
    refine op_notF (d := 13) rfl rfl rfl rfl ?_
    refine op_notF (d := 13) rfl rfl rfl rfl ?_
    refine op_notF (d := 13) rfl rfl rfl rfl ?_
    refine op_pickF rfl rfl rfl ?_
    refine op_move rfl rfl ?_
    refine op_notF (d := 19) rfl rfl rfl rfl ?_
    refine op_notF (d := 19) rfl rfl rfl rfl ?_
    refine op_notF (d := 19) rfl rfl rfl rfl ?_
    refine op_notF (d := 19) rfl rfl rfl rfl ?_
    refine op_pickF rfl rfl rfl ?_
    refine op_move rfl rfl ?_
    refine op_notF (d := 25) rfl rfl rfl rfl ?_
    refine op_notF (d := 25) rfl rfl rfl rfl ?_
    refine op_notF (d := 25) rfl rfl rfl rfl ?_
    refine op_notF (d := 25) rfl rfl rfl rfl ?_
    refine op_pickF rfl rfl rfl ?_
    refine op_move rfl rfl ?_
    refine op_notF (d := 31) rfl rfl rfl rfl ?_
    refine op_notF (d := 31) rfl rfl rfl rfl ?_
    refine op_notF (d := 31) rfl rfl rfl rfl ?_
    refine op_notF (d := 31) rfl rfl rfl rfl ?_
    refine op_pickF rfl rfl rfl ?_
    refine op_move rfl rfl ?_
    refine op_notF (d := 37) rfl rfl rfl rfl ?_
    refine op_notF (d := 37) rfl rfl rfl rfl ?_
    refine op_notF (d := 37) rfl rfl rfl rfl ?_
    refine op_notF (d := 37) rfl rfl rfl rfl ?_
    refine op_pickF rfl rfl rfl ?_
    refine op_move rfl rfl ?_
    refine op_notF (d := 43) rfl rfl rfl rfl ?_
    refine op_notF (d := 43) rfl rfl rfl rfl ?_
    refine op_notF (d := 43) rfl rfl rfl rfl ?_
    refine op_notF (d := 43) rfl rfl rfl rfl ?_
    refine op_pickF rfl rfl rfl ?_
    refine op_move rfl rfl ?_
    refine op_notF (d := 49) rfl rfl rfl rfl ?_
    refine op_notF (d := 49) rfl rfl rfl rfl ?_
    refine op_notF (d := 49) rfl rfl rfl rfl ?_
    refine op_notF (d := 49) rfl rfl rfl rfl ?_
    refine op_pickF rfl rfl rfl ?_
    refine op_assign rfl rfl ?_
    refine endF ?_
    refine XF.thenN ?_
    refine retF ?_
    refine XF.res (res1 Try.results5 rfl) ?_
    exact ⟨rbool (by unfold smallB; rw [if_pos (by omega)]), hS.below⟩

set_option maxRecDepth 100000 in
set_option maxHeartbeats 4000000 in
theorem echeck_c (va : Option Addr) (vl : Nat) (vc : Nat) (pa : Option Addr) (pl : Nat) (pc : Nat) (ea : Option Addr) (el : Nat) (ec : Nat) (es : List Int) (xa : Option Addr) (xl : Nat) (xc : Nat) (xs : List Int) (mn : Int) (oa : Option Addr) (ol : Nat) (oc : Nat) (os : List Int) (sa : Option Addr) (sl : Nat) (sc : Nat) (ss : List TV) (ta : Option Addr) (tl : Nat) (tc : Nat) (ts : List UV) (na : Option Addr) (nl : Nat) (nc : Nat) (ns : List NV) (ka : Option Addr) (kl : Nat) (kc : Nat) (ks : List KV) (w : World) (he : RowI w ea es) (hel : es.length = el) (hx : RowI w xa xs) (hxl : xs.length = xl) (ho : RowI w oa os) (hol : os.length = ol) (hs : RowL TV.sev 7 w sa ss) (hsl : ss.length = sl) (ht : RowL UV.four 4 w ta ts) (htl : ts.length = tl) (hn : RowL NV.two 2 w na ns) (hnl : ns.length = nl) (hk : RowL KV.two 2 w ka ks) (hkl : ks.length = kl) (b1 : vl ≤ 5000) (b2 : pl ≤ 5000) (b3 : el ≤ 5000) (b4 : xl ≤ 5000) (b5 : ol ≤ 5000) (b6 : sl ≤ 5000) (b7 : tl ≤ 5000) (b8 : nl ≤ 5000) (b9 : kl ≤ 5000) :
    Calls Try.prog 19 #[.agg #[.slice va vl vc, .slice pa pl pc, .slice ea el ec, .slice xa xl xc, .int .i64 mn, .slice oa ol oc, .slice sa sl sc, .slice ta tl tc, .slice na nl nc, .slice ka kl kc], .int .i64 1] w (fun e w' => e = .returned (.int .i64 (checkE ⟨va, vl, vc, pa, pl, pc, ea, el, ec, es, xa, xl, xc, xs, mn, oa, ol, oc, os, sa, sl, sc, ss, ta, tl, tc, ts, na, nl, nc, ns, ka, kl, kc, ks⟩)) ∧ Below w.heap.size w w') := by
  refine enterF (args := [.agg #[.slice va vl vc, .slice pa pl pc, .slice ea el ec, .slice xa xl xc, .int .i64 mn, .slice oa ol oc, .slice sa sl sc, .slice ta tl tc, .slice na nl nc, .slice ka kl kc], .int .i64 1]) Try.func19 rfl Try.ntmps19 rfl ?_
  have hS := St.start w
  refine seqF ?_
  refine regF ?_
  refine op_box (cs := [_, _, _, _, _, _, _, _, _, _]) hS rfl rfl rfl ?_
  clear hS; intro B1 W1 hS
  refine op_assign rfl rfl ?_
  refine endF ?_
  refine XF.thenN ?_
  refine seqF ?_
  refine seqF ?_
  refine regF ?_
  refine op_loadA (vs := [_, _, _, _, _, _, _, _, _, _]) Try.isAgg29 Try.sizeOf29 rfl (CellsAt.own (j := 0) (m := 10) (hS.at_ 0 rfl) rfl) rfl ?_
  refine op_call (vs := [_]) hS goes_15 rfl (check_c _ vl vc _ pl pc _ el ec es _ xl xc xs mn _ ol oc os _ sl sc ss _ tl tc ts _ nl nc ns _ kl kc ks  _ (he.below hS.below) hel (hx.below hS.below) hxl (ho.below hS.below) hol (hs.below hS.below) hsl (ht.below hS.below) htl (hn.below hS.below) hnl (hk.below hS.below) hkl b1 b2 b3 b4 b5 b6 b7 b8 b9) rfl ?_
  rintro e W2 ⟨rfl, hb⟩
  refine ⟨_, rfl, hb, fun hS' => ?_⟩
  clear hS; have hS := hS'; clear hS' hb
  refine op_assign rfl rfl ?_
  refine endF ?_
  refine XF.thenN ?_
  refine seqF ?_
  refine regF ?_
  refine op_move rfl rfl ?_
  refine op_neq rfl rfl rfl ?_
  refine endF ?_
  refine XF.thenN ?_
  refine condF rfl (fun hc => ?_) (fun hc => ?_)
  · have hc9 := of_decide_eq_true hc; clear hc
    refine seqF ?_
    refine regF ?_
    refine op_move rfl rfl ?_
    refine op_assign rfl rfl ?_
    refine endF ?_
    refine XF.thenN ?_
    refine retF ?_
    refine XF.thenR ?_
    refine XF.res (res1 Try.results19 rfl) ?_
    exact ⟨rfl, hS.below⟩
  · have hc9 := of_decide_eq_false hc; clear hc
    have hce : checkE ⟨va, vl, vc, pa, pl, pc, ea, el, ec, es, xa, xl, xc, xs, mn, oa, ol, oc, os, sa, sl, sc, ss, ta, tl, tc, ts, na, nl, nc, ns, ka, kl, kc, ks⟩ = 0 := Decidable.of_not_not hc9
    refine skipF ?_
    refine XF.thenN ?_
    refine seqF ?_
    refine seqF ?_
    refine regF ?_
    refine op_move rfl rfl ?_
    refine op_neq rfl rfl rfl ?_
    refine op_move rfl rfl ?_
    refine op_cases (d := 13) rfl (fun hc => absurd (of_decide_eq_true hc) (by exact fun h => h rfl)) (fun hc => ?_)
    have hc := of_decide_eq_false hc
    refine op_notF (d := 13) rfl rfl rfl rfl ?_
    refine op_notF (d := 13) rfl rfl rfl rfl ?_
    refine op_pickF rfl rfl rfl ?_
    refine op_move rfl rfl ?_
    refine op_notF (d := 17) rfl rfl rfl rfl ?_
    refine op_notF (d := 17) rfl rfl rfl rfl ?_
    refine op_pickF rfl rfl rfl ?_
    refine endF ?_
    refine XF.thenN ?_
    refine condN rfl ?_
    refine skipF ?_
    refine XF.thenN ?_
    refine seqF ?_
    refine regF ?_
    refine op_assign rfl rfl ?_
    refine endF ?_
    refine XF.thenN ?_
    refine retF ?_
    refine XF.res (res1 Try.results19 rfl) ?_
    exact ⟨rint hce.symm, hS.below⟩

set_option maxRecDepth 100000 in
set_option maxHeartbeats 4000000 in
theorem space_is (n : Int) (w : World) :
    Calls Try.prog 20 #[.int .i64 1, .int .i64 n] w (fun e w' => e = .returned (.agg #[.int .i64 1, .int .i64 0, .slice none 0 0]) ∧ Below w.heap.size w w') := by
  refine enterF (args := [.int .i64 1, .int .i64 n]) Try.func20 rfl Try.ntmps20 rfl ?_
  have hS := St.start w
  refine seqF ?_
  refine regF ?_
  refine op_alloc (cs := [_, _, _]) hS Try.zeroValue53 rfl rfl ?_
  clear hS; intro B1 W1 hS
  refine endF ?_
  refine XF.thenN ?_
  refine seqF ?_
  refine seqF ?_
  refine regF ?_
  refine op_move rfl rfl ?_
  refine endF ?_
  refine XF.thenN ?_
  refine blockF ?_
  refine seqF ?_
  refine regF ?_
  refine op_eql rfl rfl rfl ?_
  refine op_assign rfl rfl ?_
  refine endF ?_
  refine XF.thenN ?_
  refine condF rfl (fun hc => absurd (of_decide_eq_true hc) (by decide)) (fun hc => ?_)
  have hc := of_decide_eq_false hc
  refine seqF ?_
  refine regF ?_
  refine op_eql rfl rfl rfl ?_
  refine op_assign rfl rfl ?_
  refine endF ?_
  refine XF.thenN ?_
  refine condF rfl (fun hc => absurd (of_decide_eq_true hc) (by decide)) (fun hc => ?_)
  have hc := of_decide_eq_false hc
  refine skipF ?_
  refine XF.blkN ?_
  refine XF.thenN ?_
  refine seqF ?_
  refine regF ?_
  refine op_build (us := [(0, .int .i64 _)]) rfl (bld_53_0 _) rfl ?_
  refine op_storeA (i := 0) (vs := [_, _, _]) (cs' := [_, _, _]) (O' := [_]) hS Try.sizeOf53 rfl rfl rfl rfl rfl rfl rfl ?_
  clear hS; intro W2 hS
  refine endF ?_
  refine XF.thenN ?_
  refine retF ?_
  refine XF.res (resC1 (vs := [_, _, _]) Try.results20 Try.isAgg53 Try.sizeOf53 rfl (CellsAt.own (j := 0) (m := 3) (hS.at_ 0 rfl) rfl)) ?_
  exact ⟨rfl, hS.below⟩

set_option maxRecDepth 100000 in
set_option maxHeartbeats 4000000 in
theorem worth_is (n : Int) (s : TV) (w : World) :
    Calls Try.prog 21 #[.int .i64 1, .int .i64 n, s.val] w (fun e w' => e = .returned (.agg #[.bool false, .int .i64 0, .int .u64 0, .slice none 0 0, .slice none 0 0, .slice none 0 0]) ∧ Below w.heap.size w w') := by
  refine enterF (args := [.int .i64 1, .int .i64 n, s.val]) Try.func21 rfl Try.ntmps21 rfl ?_
  have hS := St.start w
  refine seqF ?_
  refine regF ?_
  refine op_box (cs := [_, _, _, _, _, _, _]) hS rfl rfl rfl ?_
  clear hS; intro B1 W1 hS
  refine op_alloc (cs := [_, _, _, _, _, _]) hS Try.zeroValue67 rfl rfl ?_
  clear hS; intro B2 W2 hS
  refine endF ?_
  refine XF.thenN ?_
  refine seqF ?_
  refine seqF ?_
  refine regF ?_
  refine op_move rfl rfl ?_
  refine endF ?_
  refine XF.thenN ?_
  refine blockF ?_
  refine seqF ?_
  refine regF ?_
  refine op_eql rfl rfl rfl ?_
  refine op_assign rfl rfl ?_
  refine endF ?_
  refine XF.thenN ?_
  refine condF rfl (fun hc => absurd (of_decide_eq_true hc) (by decide)) (fun hc => ?_)
  have hc := of_decide_eq_false hc
  refine seqF ?_
  refine regF ?_
  refine op_eql rfl rfl rfl ?_
  refine op_assign rfl rfl ?_
  refine endF ?_
  refine XF.thenN ?_
  refine condF rfl (fun hc => absurd (of_decide_eq_true hc) (by decide)) (fun hc => ?_)
  have hc := of_decide_eq_false hc
  refine skipF ?_
  refine XF.blkN ?_
  refine XF.thenN ?_
  refine seqF ?_
  refine regF ?_
  refine op_build (us := []) rfl (bld_67) rfl ?_
  refine op_storeA (i := 0) (vs := [_, _, _, _, _, _]) (cs' := [_, _, _, _, _, _]) (O' := [_, _]) hS Try.sizeOf67 rfl rfl rfl rfl rfl rfl rfl ?_
  clear hS; intro W3 hS
  refine endF ?_
  refine XF.thenN ?_
  refine retF ?_
  refine XF.res (resC1 (vs := [_, _, _, _, _, _]) Try.results21 Try.isAgg67 Try.sizeOf67 rfl (CellsAt.own (j := 0) (m := 6) (hS.at_ 0 rfl) rfl)) ?_
  exact ⟨rfl, hS.below⟩
end Go.Proofs.Ytpinbmjkbkogdaa
namespace Go.Proofs.Ytpinbmjkbkogdaa
open Go Go.RowKit
set_option linter.unusedVariables false
theorem bld_56 : Try.prog.built 56 [] = some #[.int .i64 0, .int .i64 0, .slice none 0 0, .int .i64 0, .int .i64 0, .slice none 0 0] := by kernel_rfl
theorem bld_56_0_1_2 (v00 : Value) (v01 : Value) (v02 : Value) (v1 : Int) (v2 : Int) : Try.prog.built 56 [(0, .agg #[v00, v01, v02]), (1, .int .i64 v1), (2, .int .i64 v2)] = some #[v00, v01, v02, .int .i64 v1, .int .i64 v2, .slice none 0 0] := by kernel_rfl
theorem bld_69_1_3_4 (v1 : Int) (v3a : Option Addr) (v3l : Nat) (v3c : Nat) (v40 : Value) (v41 : Value) (v42 : Value) (v43 : Value) (v44 : Value) (v45 : Value) : Try.prog.built 69 [(1, .int .i64 v1), (3, .slice v3a v3l v3c), (4, .agg #[v40, v41, v42, v43, v44, v45])] = some #[.int .i64 0, .int .i64 v1, .int .i64 0, .slice v3a v3l v3c, v40, v41, v42, v43, v44, v45] := by kernel_rfl
theorem bld_69_1_4 (v1 : Int) (v40 : Value) (v41 : Value) (v42 : Value) (v43 : Value) (v44 : Value) (v45 : Value) : Try.prog.built 69 [(1, .int .i64 v1), (4, .agg #[v40, v41, v42, v43, v44, v45])] = some #[.int .i64 0, .int .i64 v1, .int .i64 0, .slice none 0 0, v40, v41, v42, v43, v44, v45] := by kernel_rfl
theorem bld_76_2 (v2 : Int) : Try.prog.built 76 [(2, .int .i64 v2)] = some #[.int .i64 0, .int .i64 0, .int .i64 v2, .int .i64 0, .int .i64 0, .int .i64 0, .int .i64 0] := by kernel_rfl
theorem bs_54_1 (v00 : Value) (v01 : Value) (v02 : Value) (v03 : Value) (v04 : Value) (v05 : Value) (v06 : Value) (v07 : Value) (v08 : Value) (v09 : Value) : Instr.fill (fun i => some (i * 10, 10)) ((Array.range (1 * 10)).map ((Value.cells (.agg #[.int .i64 0, .int .i64 0, .int .i64 0, .slice none 0 0, .bool false, .int .i64 0, .int .u64 0, .slice none 0 0, .slice none 0 0, .slice none 0 0]))[· % (Value.cells (.agg #[.int .i64 0, .int .i64 0, .int .i64 0, .slice none 0 0, .bool false, .int .i64 0, .int .u64 0, .slice none 0 0, .slice none 0 0, .slice none 0 0])).size]!)) [(0, .agg #[v00, v01, v02, v03, v04, v05, v06, v07, v08, v09])] = some (List.toArray [v00, v01, v02, v03, v04, v05, v06, v07, v08, v09]) := by kernel_rfl
theorem fa_56_3 (w : World) (b o : Nat) : (Instr.fieldAt 56 (.pointer (some ⟨b, o, none⟩)) 3).run Try.prog w = .ok (.pointer (some ⟨b, o + 5, none⟩)) w := by
  simp [Instr.fieldAt, run_underlying Try.underlying56, Instr.sureAddr, go_sem, Addr.add_lit]
theorem goes_19 : goesIn Try.prog 19 = true := by kernel_rfl
theorem goes_20 : goesIn Try.prog 20 = true := by kernel_rfl
theorem goes_21 : goesIn Try.prog 21 = true := by kernel_rfl
theorem inf_69 : Try.prog.info? 69 = some Try.t69 := by kernel_rfl
set_option maxRecDepth 100000 in
set_option maxHeartbeats 4000000 in
theorem pds_c (va : Option Addr) (vl : Nat) (vc : Nat) (pa : Option Addr) (pl : Nat) (pc : Nat) (ea : Option Addr) (el : Nat) (ec : Nat) (es : List Int) (xa : Option Addr) (xl : Nat) (xc : Nat) (xs : List Int) (mn : Int) (oa : Option Addr) (ol : Nat) (oc : Nat) (os : List Int) (sa : Option Addr) (sl : Nat) (sc : Nat) (ss : List TV) (ta : Option Addr) (tl : Nat) (tc : Nat) (ts : List UV) (na : Option Addr) (nl : Nat) (nc : Nat) (ns : List NV) (ka : Option Addr) (kl : Nat) (kc : Nat) (ks : List KV) (w : World) (he : RowI w ea es) (hel : es.length = el) (hx : RowI w xa xs) (hxl : xs.length = xl) (ho : RowI w oa os) (hol : os.length = ol) (hs : RowL TV.sev 7 w sa ss) (hsl : ss.length = sl) (ht : RowL UV.four 4 w ta ts) (htl : ts.length = tl) (hn : RowL NV.two 2 w na ns) (hnl : ns.length = nl) (hk : RowL KV.two 2 w ka ks) (hkl : ks.length = kl) (b1 : vl ≤ 5000) (b2 : pl ≤ 5000) (b3 : el ≤ 5000) (b4 : xl ≤ 5000) (b5 : ol ≤ 5000) (b6 : sl ≤ 5000) (b7 : tl ≤ 5000) (b8 : nl ≤ 5000) (b9 : kl ≤ 5000) (hco : CallsOk ⟨va, vl, vc, pa, pl, pc, ea, el, ec, es, xa, xl, xc, xs, mn, oa, ol, oc, os, sa, sl, sc, ss, ta, tl, tc, ts, na, nl, nc, ns, ka, kl, kc, ks⟩) :
    Calls Try.prog 14 #[.agg #[.slice va vl vc, .slice pa pl pc, .slice ea el ec, .slice xa xl xc, .int .i64 mn, .slice oa ol oc, .slice sa sl sc, .slice ta tl tc, .slice na nl nc, .slice ka kl kc], .int .i64 1] w (PdsRet ⟨va, vl, vc, pa, pl, pc, ea, el, ec, es, xa, xl, xc, xs, mn, oa, ol, oc, os, sa, sl, sc, ss, ta, tl, tc, ts, na, nl, nc, ns, ka, kl, kc, ks⟩ w) := by
  refine enterF (args := [.agg #[.slice va vl vc, .slice pa pl pc, .slice ea el ec, .slice xa xl xc, .int .i64 mn, .slice oa ol oc, .slice sa sl sc, .slice ta tl tc, .slice na nl nc, .slice ka kl kc], .int .i64 1]) Try.func14 rfl Try.ntmps14 rfl ?_
  have hS := St.start w
  refine seqF ?_
  refine regF ?_
  refine op_box (cs := [_, _, _, _, _, _, _, _, _, _]) hS rfl rfl rfl ?_
  clear hS; intro B1 W1 hS
  refine op_alloc (cs := [_, _, _, _, _, _]) hS Try.zeroValue56 rfl rfl ?_
  clear hS; intro B2 W2 hS
  refine op_assign rfl rfl ?_
  refine endF ?_
  refine XF.thenN ?_
  refine seqF ?_
  refine seqF ?_
  refine regF ?_
  refine op_loadA (vs := [_, _, _, _, _, _, _, _, _, _]) Try.isAgg29 Try.sizeOf29 rfl (CellsAt.own (j := 0) (m := 10) (hS.at_ 1 rfl) rfl) rfl ?_
  refine op_move rfl rfl ?_
  refine op_call (vs := [_, _]) hS goes_19 rfl (echeck_c _ vl vc _ pl pc _ el ec es _ xl xc xs mn _ ol oc os _ sl sc ss _ tl tc ts _ nl nc ns _ kl kc ks  _ (he.below hS.below) hel (hx.below hS.below) hxl (ho.below hS.below) hol (hs.below hS.below) hsl (ht.below hS.below) htl (hn.below hS.below) hnl (hk.below hS.below) hkl b1 b2 b3 b4 b5 b6 b7 b8 b9) rfl ?_
  rintro e W3 ⟨rfl, hb⟩
  refine ⟨_, rfl, hb, fun hS' => ?_⟩
  clear hS; have hS := hS'; clear hS' hb
  refine op_assign rfl rfl ?_
  refine endF ?_
  refine XF.thenN ?_
  refine seqF ?_
  refine regF ?_
  refine op_move rfl rfl ?_
  refine op_neq rfl rfl rfl ?_
  refine endF ?_
  refine XF.thenN ?_
  refine condF rfl (fun hc => ?_) (fun hc => ?_)
  · have hc18 := of_decide_eq_true hc; clear hc
    refine seqF ?_
    refine regF ?_
    refine op_build (us := []) rfl (bld_56) rfl ?_
    refine op_move rfl rfl ?_
    refine op_storeA (i := 0) (vs := [_, _, _, _, _, _]) (cs' := [_, _, _, _, _, _]) (O' := [_, _]) hS Try.sizeOf56 rfl rfl rfl rfl rfl rfl rfl ?_
    clear hS; intro W4 hS
    refine op_assign rfl rfl ?_
    refine endF ?_
    refine XF.thenN ?_
    refine retF ?_
    refine XF.thenR ?_
    refine XF.res (resCT (vs := [_, _, _, _, _, _]) Try.results14 Try.isAgg56 Try.sizeOf56 rfl (CellsAt.own (j := 0) (m := 6) (hS.at_ 0 rfl) rfl) rfl) ?_
    exact ⟨hS.below, .inl ⟨hc18, rfl⟩⟩
  · have hc18 := of_decide_eq_false hc; clear hc
    have hce : checkE ⟨va, vl, vc, pa, pl, pc, ea, el, ec, es, xa, xl, xc, xs, mn, oa, ol, oc, os, sa, sl, sc, ss, ta, tl, tc, ts, na, nl, nc, ns, ka, kl, kc, ks⟩ = 0 := Decidable.of_not_not hc18
    refine skipF ?_
    refine XF.thenN ?_
    refine seqF ?_
    refine regF ?_
    refine op_field (o' := 0) fa_29_0 rfl rfl rfl ?_
    refine op_load Try.isAgg22 rfl (cell_own (hS.at_ 1 rfl) rfl) rfl ?_
    refine op_len Try.underlying22 rfl rfl ?_
    refine op_assign rfl rfl ?_
    refine endF ?_
    refine XF.thenN ?_
    refine seqF ?_
    refine regBA (cs := [_, _, _, _, _, _]) followsM 8 7 hS rfl rfl rfl rfl Try.zeroValue56 rfl (by kernel_rfl) (by kernel_rfl) (by kernel_rfl) (fun d hd => by cases hd) ?_
    refine bla_cons 1 rfl rfl (isV _) (stab_isV _) (agV (li := [(1, _)]) rfl (w_free rfl) ⟨g_fr (by kernel_rfl) rfl, trivial⟩ (fun w hw => rn_move rfl) (at_top rfl)) ?_
    refine bla_cons 2 rfl rfl (isV _) (stab_isV _) (agV (li := [(7, _)]) rfl (w_free rfl) ⟨g_fr (by kernel_rfl) rfl, trivial⟩ (fun w hw => rn_move rfl) (at_top rfl)) ?_
    refine bla_cons 3 rfl rfl (isV (.agg #[.int .i64 1, .int .i64 0, .slice none 0 0])) (stab_isV _) (ag_call [isV _, isV _] rfl goes_20 (w_free rfl) ⟨p_tmp (g_dep 0 (by kernel_rfl) (at_dep rfl rfl rfl)), p_tmp (g_dep 1 (by kernel_rfl) (at_dep rfl rfl rfl)), trivial⟩ (fun vs w' hb hh => by have e := holds_isV (us := [_, _]) hh; subst e; exact (space_is _ _).mono fun e w2 h => ⟨_, h.1, fun _ _ => rfl, h.2⟩) (at_top rfl)) ?_
    refine bla_cons 4 rfl rfl (isV _) (stab_isV _) (agV (li := [(2, _)]) rfl (w_free rfl) ⟨g_fr (by kernel_rfl) rfl, trivial⟩ (fun w hw => rn_field (o' := 5) fa_29_5 rfl rfl) (at_top rfl)) ?_
    refine bla_cons 5 rfl rfl (isV _) (stab_isV _) (agV (li := [(27, _)]) rfl (w_free rfl) ⟨g_dep 3 (by kernel_rfl) (at_dep rfl rfl rfl), trivial⟩ (fun w hw => rn_load Try.isAgg23 rfl ((below_agree hw 0).cell (Nat.zero_le _) (cell_own (hS.at_ 1 rfl) rfl))) (at_top rfl)) ?_
    refine bla_cons 6 rfl rfl (isV _) (stab_isV _) (agV (li := [(28, _)]) rfl (w_free rfl) ⟨g_dep 4 (by kernel_rfl) (at_dep rfl rfl rfl), trivial⟩ (fun w hw => rn_len Try.underlying23 rfl) (at_top rfl)) ?_
    refine bla_cons 7 rfl rfl (isV _) (stab_isV _) (agV (li := [(26, _), (29, _)]) rfl (w_free rfl) ⟨g_dep 2 (by kernel_rfl) (at_dep rfl rfl rfl), g_dep 5 (by kernel_rfl) (at_dep rfl rfl rfl), trivial⟩ (fun w hw => rn_build (us := [(0, .agg (List.toArray [_, _, _])), (1, .int .i64 _), (2, .int .i64 _)]) rfl (bld_56_0_1_2 _ _ _ _ _)) (at_top rfl)) ?_
    refine bla_alloc 8 rfl rfl ?_
    refine bla_nil ?_
    intro B5 AB5 W5 hbR hA1 hA2 hBlo hBhi hS'
    clear hS; have hS := hS'; clear hS'
    refine fin_av ?_
    refine fin_av ?_
    refine fin_av ?_
    refine fin_av ?_
    refine fin_av ?_
    refine fin_av ?_
    refine fin_av ?_
    refine fin_v ?_
    refine fin_nil ?_
    refine op_storeA (i := 0) (vs := [_, _, _, _, _, _]) (cs' := [_, _, _, _, _, _]) (O' := [_, _, _]) hS Try.sizeOf56 rfl rfl rfl rfl rfl rfl rfl ?_
    clear hS; intro W6 hS
    refine endF ?_
    refine XF.thenN ?_
    refine seqF ?_
    refine seqF ?_
    have hS := hS.newG 69 10
    refine regF ?_
    refine op_field (o' := 6) fa_29_6 rfl rfl rfl ?_
    refine op_load Try.isAgg24 rfl (cell_own (hS.at_ 2 rfl) rfl) rfl ?_
    refine op_len Try.underlying24 rfl rfl ?_
    refine op_move rfl rfl ?_
    refine endF ?_
    refine XF.thenN ?_
    refine blockF ?_
    refine loopF (fun m l W => ∃ (i : Nat) (qs : List QV) (v : Value) (Kk : List (Nat × World)), i ≤ sl ∧ m = sl - i ∧ l = [(1, .int .i64 1), (2, .pointer (some ⟨B1, 0, none⟩)), (4, .pointer (some ⟨B2, 0, none⟩)), (7, .int .i64 (vl : Int)), (8, .pointer (some ⟨B5, 0, none⟩)), (32, .slice sa sl sc), (33, .int .i64 (sl : Int)), (34, .int .i64 (i : Int))] ∧ qs.length = i ∧ qs.map QV.pl = (ss.take i).map (stepR ⟨va, vl, vc, pa, pl, pc, ea, el, ec, es, xa, xl, xc, xs, mn, oa, ol, oc, os, sa, sl, sc, ss, ta, tl, tc, ts, na, nl, nc, ns, ka, kl, kc, ks⟩) ∧ Held w Kk (fun W2 => ∀ q ∈ qs, QN w.heap.size W2 q) ∧ St w [(B5, [.int .i64 1, .int .i64 0, .slice none 0 0, .int .i64 1, .int .i64 (ol : Int), v], 56), (B2, [.int .i64 0, .int .i64 0, .slice none 0 0, .int .i64 0, .int .i64 0, .slice none 0 0], 56), (B1, [.slice va vl vc, .slice pa pl pc, .slice ea el ec, .slice xa xl xc, .int .i64 mn, .slice oa ol oc, .slice sa sl sc, .slice ta tl tc, .slice na nl nc, .slice ka kl kc], 29)] [⟨v, i, qs.flatMap QV.ten, 69, 10⟩] Kk W) (sl - 0) ([(1, _), (2, _), (4, _), (7, _), (8, _), (32, _), (33, _), (34, _)]) ⟨rfl, rfl, rfl, rfl, rfl, rfl, rfl, rfl, trivial⟩ (⟨0, [], _, [], Nat.zero_le _, rfl, rfl, rfl, rfl, (fun _ _ q hq => by cases hq), hS.clear⟩) ?_
    clear hS
    rintro m l W ⟨i, qs, v, Kk, hi, rfl, rfl, hql, hqm, HQ, hS⟩
    refine seqF ?_
    refine regF ?_
    refine op_lss rfl rfl rfl ?_
    refine endF ?_
    refine XF.thenN ?_
    refine seqF ?_
    refine condF rfl (fun hc => ?_) (fun hc => ?_)
    · have hc35 := of_decide_eq_true hc; clear hc
      have hk1 : i < sl := by omega
      obtain ⟨b, off, s, rfl, hy, hyc⟩ := hs.get (i := i) (by omega)
      have k1 := CellsAt.agree hS.agree (Nat.zero_le _) hyc
      refine skipF ?_
      refine XF.thenN ?_
      refine seqF ?_
      refine blockF ?_
      refine seqF ?_
      refine regF ?_
      refine op_indexA  Try.underlying24 Try.sizeOf76 rfl rfl rfl (by omega) rfl rfl ?_
      refine op_loadA (vs := [_, _, _, _, _, _, _]) Try.isAgg76 Try.sizeOf76 rfl (k1) rfl ?_
      refine op_alloc (cs := [_, _, _, _, _, _, _]) hS Try.zeroValue76 rfl rfl ?_
      clear hS; intro B7 W7 hS
      refine op_storeA (i := 0) (vs := [_, _, _, _, _, _, _]) (cs' := [_, _, _, _, _, _, _]) (O' := [_, _, _, _]) hS Try.sizeOf76 rfl rfl rfl rfl rfl rfl rfl ?_
      clear hS; intro W8 hS
      refine endF ?_
      refine XF.thenN ?_
      refine seqF ?_
      have hsz9 := hS.below.size
      refine regF ?_
      refine op_field (o' := 1) fa_76_1 rfl rfl rfl ?_
      refine op_load Try.isAgg3 rfl (cell_own (hS.at_ 0 rfl) rfl) rfl ?_
      refine op_rowK (us := [(0, .int .i64 s.t)]) hS Try.underlying23 Try.sizeOf3 Try.zeroValue3 rfl rfl rfl (bs_23_1 _) rfl ?_
      intro B90 W90 hB90 hlo90 hS9
      clear hS; have hS := hS9; clear hS9
      have H90 : Held w [(_, W90)] (fun W2 => W2.heap[B90]? = some (.cells #[.int .i64 s.t] 3 (0, 0))) := Held.one (fun W2 hg => (hg.2 _ hlo90 (lt_of_heap hB90)).trans hB90)
      refine op_assign rfl rfl ?_
      refine endF ?_
      refine XF.thenN ?_
      refine seqF ?_
      refine seqF ?_
      refine regF ?_
      refine op_field (o' := 2) fa_76_2 rfl rfl rfl ?_
      refine op_load Try.isAgg74 rfl (cell_own (hS.at_ 0 rfl) rfl) rfl ?_
      refine op_eql rfl rfl rfl ?_
      refine endF ?_
      refine XF.thenN ?_
      refine condF rfl (fun hc => ?_) (fun hc => ?_)
      · have hc43 := of_decide_eq_true hc; clear hc
        have h8 : s.k = 8 := hc43
        obtain ⟨n8, k8, u8, hn8, hnt8, hu8, hk8, hke8⟩ := hco s (List.mem_of_getElem? hy) h8
        have hnt9 : n8 < tl := hnt8
        have hke9 : k8 < el := hke8
        obtain ⟨tb, to_, u9, rfl, hu9, huc9⟩ := ht.get (i := n8) (by omega)
        obtain rfl : u8 = u9 := Option.some.inj (hu8.symm.trans hu9)
        obtain ⟨eb, eo, e8, rfl, he8, hec8⟩ := he.get (i := k8) (by omega)
        have k2 := (CellsAt.agree hS.agree (Nat.zero_le _) huc9).2.1
        have k3 := (CellsAt.agree hS.agree (Nat.zero_le _) hec8).1
        have hsz11 := hS.below.size
        refine regB (m := 15) followsM hS (by kernel_rfl) (by kernel_rfl) rfl ?_
        refine bl_cons 1 rfl (isV _) (stab_isV _) (rgV (li := [(2, _)]) rfl (w_free rfl) ⟨g_fr (by kernel_rfl) rfl, trivial⟩ (fun w hw => rn_field (o' := 2) fa_29_2 rfl rfl) (at_top rfl)) ?_
        refine bl_cons 2 rfl (isV _) (stab_isV _) (rgV (li := [(44, _)]) rfl (w_free rfl) ⟨g_dep 0 (by kernel_rfl) (at_dep rfl rfl rfl), trivial⟩ (fun w hw => rn_load Try.isAgg23 rfl ((below_agree hw 0).cell (Nat.zero_le _) (cell_own (hS.at_ 3 rfl) rfl))) (at_top rfl)) ?_
        refine bl_cons 3 rfl (isV _) (stab_isV _) (rgV (li := [(2, _)]) rfl (w_free rfl) ⟨g_fr (by kernel_rfl) rfl, trivial⟩ (fun w hw => rn_field (o' := 7) fa_29_7 rfl rfl) (at_top rfl)) ?_
        refine bl_cons 4 rfl (isV _) (stab_isV _) (rgV (li := [(46, _)]) rfl (w_free rfl) ⟨g_dep 2 (by kernel_rfl) (at_dep rfl rfl rfl), trivial⟩ (fun w hw => rn_load Try.isAgg25 rfl ((below_agree hw 0).cell (Nat.zero_le _) (cell_own (hS.at_ 3 rfl) rfl))) (at_top rfl)) ?_
        refine bl_cons 5 rfl (isV _) (stab_isV _) (rgV (li := [(10, _)]) rfl (w_free rfl) ⟨g_fr (by kernel_rfl) rfl, trivial⟩ (fun w hw => rn_field (o' := 6) fa_76_6 rfl rfl) (at_top rfl)) ?_
        refine bl_cons 6 rfl (isV _) (stab_isV _) (rgV (li := [(48, _)]) rfl (w_free rfl) ⟨g_dep 4 (by kernel_rfl) (at_dep rfl rfl rfl), trivial⟩ (fun w hw => rn_load Try.isAgg3 rfl ((below_agree hw 0).cell (Nat.zero_le _) (cell_own (hS.at_ 0 rfl) rfl))) (at_top rfl)) ?_
        refine bl_cons 7 rfl (isV _) (stab_isV _) (rgV (li := [(47, _), (49, _)]) rfl (w_free rfl) ⟨g_dep 3 (by kernel_rfl) (at_dep rfl rfl rfl), g_dep 5 (by kernel_rfl) (at_dep rfl rfl rfl), trivial⟩ (fun w hw => rn_indexA (j := n8) Try.underlying25 Try.sizeOf47 rfl rfl (hn8) (hnt8) rfl) (at_top rfl)) ?_
        refine bl_cons 8 rfl (isV _) (stab_isV _) (rgV (li := [(50, _)]) rfl (w_free rfl) ⟨g_dep 6 (by kernel_rfl) (at_dep rfl rfl rfl), trivial⟩ (fun w hw => rn_field fa_47_1 rfl rfl) (at_top rfl)) ?_
        refine bl_cons 9 rfl (isV _) (stab_isV _) (rgV (li := [(51, _)]) rfl (w_free rfl) ⟨g_dep 7 (by kernel_rfl) (at_dep rfl rfl rfl), trivial⟩ (fun w hw => rn_load Try.isAgg3 rfl ((below_agree hw 0).cell (Nat.zero_le _) (k2))) (at_top rfl)) ?_
        refine bl_cons 10 rfl (isV _) (stab_isV _) (rgV (li := [(45, _), (52, _)]) rfl (w_free rfl) ⟨g_dep 1 (by kernel_rfl) (at_dep rfl rfl rfl), g_dep 8 (by kernel_rfl) (at_dep rfl rfl rfl), trivial⟩ (fun w hw => rn_indexA (j := k8) Try.underlying23 Try.sizeOf3 rfl rfl (hk8) (hke8) rfl) (at_top rfl)) ?_
        refine bl_cons 11 rfl (isV _) (stab_isV _) (rgV (li := [(53, _)]) rfl (w_free rfl) ⟨g_dep 9 (by kernel_rfl) (at_dep rfl rfl rfl), trivial⟩ (fun w hw => rn_load Try.isAgg3 rfl ((below_agree hw 0).cell (Nat.zero_le _) (k3))) (at_top rfl)) ?_
        refine bl_cons 12 rfl (isV _) (stab_isV _) (rgV (li := [(10, _)]) rfl (w_free rfl) ⟨g_fr (by kernel_rfl) rfl, trivial⟩ (fun w hw => rn_field (o' := 1) fa_76_1 rfl rfl) (at_top rfl)) ?_
        refine bl_cons 13 rfl (isV _) (stab_isV _) (rgV (li := [(55, _)]) rfl (w_free rfl) ⟨g_dep 11 (by kernel_rfl) (at_dep rfl rfl rfl), trivial⟩ (fun w hw => rn_load Try.isAgg3 rfl ((below_agree hw 0).cell (Nat.zero_le _) (cell_own (hS.at_ 0 rfl) rfl))) (at_top rfl)) ?_
        refine bl_cons 14 rfl (isRow W90.heap.size 2 3 _) (stab_isRow) (rg_rowV (us := [.int .i64 _, .int .i64 _]) rfl (w_free rfl) Try.underlying23 Try.sizeOf3 Try.zeroValue3 rfl rfl ⟨p_tmp (g_dep 10 (by kernel_rfl) (at_dep rfl rfl rfl)), p_tmp (g_dep 12 (by kernel_rfl) (at_dep rfl rfl rfl)), trivial⟩ (bs_23_2 _ _) (at_top rfl)) ?_
        refine bl_cons 15 rfl (isRow W90.heap.size 2 3 _) (stab_isRow) (rg_same rfl (g_dep 13 (by kernel_rfl) (at_dep rfl rfl rfl)) (at_top rfl)) ?_
        refine bl_nil ?_
        intro W9 hbR hS'
        clear hS; have hS := hS'; clear hS'
        refine fin_v ?_
        refine fin_v ?_
        refine fin_v ?_
        refine fin_v ?_
        refine fin_v ?_
        refine fin_v ?_
        refine fin_v ?_
        refine fin_v ?_
        refine fin_v ?_
        refine fin_v ?_
        refine fin_v ?_
        refine fin_v ?_
        refine fin_v ?_
        refine fin_p ?_; rintro _ ⟨B11_13, rfl, hlo11_13, hrow11_13⟩
        refine fin_p ?_; rintro _ ⟨B11_14, rfl, hlo11_14, hrow11_14⟩
        have H11 : Held w [(_, W9)] (fun W2 => W2.heap[B11_14]? = some (.cells #[.int .i64 e8, .int .i64 s.t] 3 (0, 0))) := Held.one (fun W2 hg => (hg.2 _ hlo11_14 (lt_of_heap hrow11_14)).trans hrow11_14)
        refine fin_nil ?_
        refine XF.thenN ?_
        refine regBP (p := 11) (k := 13) (gi := 0) (m := 1) followsM hS rfl rfl (by kernel_rfl) (by kernel_rfl) (by kernel_rfl) (fun d hd => by cases hd) rfl rfl Try.underlying54 inf_69 rfl rfl (by show 0 < 10; decide) rfl rfl rfl (by simp only [maxLen]; omega) (by show (i + 1) * 144 ≤ _; omega) ?_
        refine blp_v 1 rfl rfl (by kernel_rfl) (rgV (li := [(8, _)]) rfl (w_free rfl) ⟨g_fr (by kernel_rfl) rfl, trivial⟩ (fun w hw => rn_field (o' := 5) fa_56_3 rfl rfl) (at_top rfl)) ?_
        refine blp_v 2 rfl rfl (by kernel_rfl) (rgV (li := [(58, _)]) rfl (w_free rfl) ⟨g_dep 0 (by kernel_rfl) (at_dep rfl rfl rfl), trivial⟩ (fun w hw => rn_load Try.isAgg54 rfl ((below_agree hw 0).cell (Nat.zero_le _) (cell_own (hS.at_ 1 rfl) rfl))) (at_top rfl)) ?_
        refine blp_v 3 rfl rfl (by kernel_rfl) (rgV (li := [(10, _)]) rfl (w_free rfl) ⟨g_fr (by kernel_rfl) rfl, trivial⟩ (fun w hw => rn_field (o' := 0) fa_76_0 rfl rfl) (at_top rfl)) ?_
        refine blp_v 4 rfl rfl (by kernel_rfl) (rgV (li := [(60, _)]) rfl (w_free rfl) ⟨g_dep 2 (by kernel_rfl) (at_dep rfl rfl rfl), trivial⟩ (fun w hw => rn_load Try.isAgg3 rfl ((below_agree hw 0).cell (Nat.zero_le _) (cell_own (hS.at_ 0 rfl) rfl))) (at_top rfl)) ?_
        refine blp_v 5 rfl rfl (by kernel_rfl) (rgV (li := [(11, _)]) rfl (w_free rfl) ⟨g_fr (by kernel_rfl) rfl, trivial⟩ (fun w hw => rn_move rfl) (at_top rfl)) ?_
        refine blp_v 6 rfl rfl (by kernel_rfl) (rgV (li := [(1, _)]) rfl (w_free rfl) ⟨g_fr (by kernel_rfl) rfl, trivial⟩ (fun w hw => rn_move rfl) (at_top rfl)) ?_
        refine blp_v 7 rfl rfl (by kernel_rfl) (rgV (li := [(7, _)]) rfl (w_free rfl) ⟨g_fr (by kernel_rfl) rfl, trivial⟩ (fun w hw => rn_move rfl) (at_top rfl)) ?_
        refine blp_v 8 rfl rfl (by kernel_rfl) (rgV (li := [(10, _)]) rfl (w_free rfl) ⟨g_fr (by kernel_rfl) rfl, trivial⟩ (fun w hw => rn_loadA (vs := [_, _, _, _, _, _, _]) Try.isAgg76 Try.sizeOf76 rfl (CellsAt.agree (below_agree hw 0) (Nat.zero_le _) (CellsAt.own (j := 0) (m := 7) (hS.at_ 0 rfl) rfl))) (at_top rfl)) ?_
        refine blp_v 9 rfl rfl (by kernel_rfl) (rg_call [isV _, isV _, isV _] rfl goes_21 (w_free rfl) ⟨p_tmp (g_dep 5 (by kernel_rfl) (at_dep rfl rfl rfl)), p_tmp (g_dep 6 (by kernel_rfl) (at_dep rfl rfl rfl)), p_tmp (g_dep 7 (by kernel_rfl) (at_dep rfl rfl rfl)), trivial⟩ (fun vs w' hb hh => by have e := holds_isV (us := [_, _, _]) hh; subst e; exact (worth_is _ ⟨_, _, _, _, _, _, _⟩ _).mono fun e w2 h => ⟨_, h.1, rfl, h.2⟩) (at_top rfl)) ?_
        refine blp_v 10 rfl rfl (by kernel_rfl) (rgV (li := [(61, _), (62, _), (66, _)]) rfl (w_free rfl) ⟨g_dep 3 (by kernel_rfl) (at_dep rfl rfl rfl), g_dep 4 (by kernel_rfl) (at_dep rfl rfl rfl), g_dep 8 (by kernel_rfl) (at_dep rfl rfl rfl), trivial⟩ (fun w hw => rn_build (us := [(1, .int .i64 _), (3, .slice _ _ _), (4, .agg (List.toArray [_, _, _, _, _, _]))]) rfl (bld_69_1_3_4 _ _ _ _ _ _ _ _ _ _)) (at_top rfl)) ?_
        refine blp_q 11 rfl rfl (by kernel_rfl) (isRow W9.heap.size 1 69 _) (stab_isRow) (rg_rowV (us := [.agg (List.toArray [_, _, _, _, _, _, _, _, _, _])]) rfl (w_free rfl) Try.underlying54 Try.sizeOf69 Try.zeroValue69 rfl rfl ⟨p_tmp (g_dep 9 (by kernel_rfl) (at_dep rfl rfl rfl)), trivial⟩ (bs_54_1 _ _ _ _ _ _ _ _ _ _) (at_top rfl)) ?_
        refine blp_app 12 rfl rfl ?_
        refine blp_late 13 rfl rfl (rgV (li := [(8, _)]) rfl (w_free rfl) ⟨g_fr (by kernel_rfl) rfl, trivial⟩ (fun w hw => rn_field (o' := 5) fa_56_3 rfl rfl) (at_top rfl)) (lgV (li := [(8, _)]) rfl (w_free rfl) ⟨g_fr (by kernel_rfl) rfl, trivial⟩ (fun w => rn_field (o' := 5) fa_56_3 rfl rfl) (at_top rfl) rfl) ?_
        refine blp_nil ⟨_, _, g_dep 1 (by kernel_rfl) (at_dep rfl rfl rfl), g_dep 10 (by kernel_rfl) (at_dep rfl rfl rfl), rowOf_isRow rfl rfl, ?_⟩
        intro A10 v10 news10 W10 hbR hqA10 hS'
        clear hS; have hS := hS'; clear hS'
        cases hqA10
        refine fin_v ?_
        refine fin_v ?_
        refine fin_v ?_
        refine fin_v ?_
        refine fin_v ?_
        refine fin_v ?_
        refine fin_v ?_
        refine fin_v ?_
        refine fin_v ?_
        refine fin_v ?_
        refine fin_p ?_; intro _ _
        refine fin_v ?_
        refine fin_v ?_
        obtain ⟨a2, c2, e2, hac2⟩ := ownsRow_sl (hS.row 0 rfl)
        dsimp only at e2
        subst e2
        refine fin_nil ?_
        refine op_store (i := 1) (cs' := [_, _, _, _, _, _]) (O' := [_, _, _, _]) hS Try.sizeOf54 rfl rfl rfl rfl rfl rfl rfl ?_
        clear hS; intro W11 hS
        refine endF ?_
        refine XF.blkN ?_
        refine XF.thenN ?_
        refine regF ?_
        refine op_add rfl rfl (IntWalk.i64_in _ (by omega)) rfl ?_
        refine op_move rfl rfl ?_
        refine endF ?_
        have hS9 := hS.tail
        refine XF.round (sl - (i + 1)) [(1, _), (2, _), (4, _), (7, _), (8, _), (32, _), (33, _), (34, _)] (by omega) ⟨rfl, rfl, rfl, rfl, rfl, rfl, rfl, rfl, trivial⟩ ⟨i + 1, qs ++ [⟨s.f, some ⟨B11_14, 0, none⟩, 2, 2, [e8, s.t]⟩], _, _, by omega, rfl, rfl, by simp [hql]; try omega, by rw [List.map_append, hqm, List.take_add_one, List.map_append, hy, List.map_cons, List.map_nil]; show _ = _ ++ [_]; rw [stepR_two h8 hn8 hu8 hk8 he8]; rfl, ?_, hS9.castG (by simp [Nat.add_assoc])⟩
        exact fun h2 hk q hq => by
          rcases List.mem_append.1 hq with hq | hq
          · exact HQ h2 (fun r hr => hk r (by simp [hr])) q hq
          · rw [List.mem_singleton] at hq; subst hq
            exact ⟨rfl, .inr ⟨B11_14, rfl, Nat.le_trans hsz11 hlo11_14, H11 h2 (fun r hr => hk r (by simp at hr; subst hr; simp))⟩⟩
      · have hc43 := of_decide_eq_false hc; clear hc
        have n8 : ¬ s.k = 8 := hc43
        refine skipF ?_
        refine XF.thenN ?_
        refine regBP (p := 11) (k := 13) (gi := 0) (m := 1) followsM hS rfl rfl (by kernel_rfl) (by kernel_rfl) (by kernel_rfl) (fun d hd => by cases hd) rfl rfl Try.underlying54 inf_69 rfl rfl (by show 0 < 10; decide) rfl rfl rfl (by simp only [maxLen]; omega) (by show (i + 1) * 144 ≤ _; omega) ?_
        refine blp_v 1 rfl rfl (by kernel_rfl) (rgV (li := [(8, _)]) rfl (w_free rfl) ⟨g_fr (by kernel_rfl) rfl, trivial⟩ (fun w hw => rn_field (o' := 5) fa_56_3 rfl rfl) (at_top rfl)) ?_
        refine blp_v 2 rfl rfl (by kernel_rfl) (rgV (li := [(58, _)]) rfl (w_free rfl) ⟨g_dep 0 (by kernel_rfl) (at_dep rfl rfl rfl), trivial⟩ (fun w hw => rn_load Try.isAgg54 rfl ((below_agree hw 0).cell (Nat.zero_le _) (cell_own (hS.at_ 1 rfl) rfl))) (at_top rfl)) ?_
        refine blp_v 3 rfl rfl (by kernel_rfl) (rgV (li := [(10, _)]) rfl (w_free rfl) ⟨g_fr (by kernel_rfl) rfl, trivial⟩ (fun w hw => rn_field (o' := 0) fa_76_0 rfl rfl) (at_top rfl)) ?_
        refine blp_v 4 rfl rfl (by kernel_rfl) (rgV (li := [(60, _)]) rfl (w_free rfl) ⟨g_dep 2 (by kernel_rfl) (at_dep rfl rfl rfl), trivial⟩ (fun w hw => rn_load Try.isAgg3 rfl ((below_agree hw 0).cell (Nat.zero_le _) (cell_own (hS.at_ 0 rfl) rfl))) (at_top rfl)) ?_
        refine blp_v 5 rfl rfl (by kernel_rfl) (rgV (li := [(11, _)]) rfl (w_free rfl) ⟨g_fr (by kernel_rfl) rfl, trivial⟩ (fun w hw => rn_move rfl) (at_top rfl)) ?_
        refine blp_v 6 rfl rfl (by kernel_rfl) (rgV (li := [(1, _)]) rfl (w_free rfl) ⟨g_fr (by kernel_rfl) rfl, trivial⟩ (fun w hw => rn_move rfl) (at_top rfl)) ?_
        refine blp_v 7 rfl rfl (by kernel_rfl) (rgV (li := [(7, _)]) rfl (w_free rfl) ⟨g_fr (by kernel_rfl) rfl, trivial⟩ (fun w hw => rn_move rfl) (at_top rfl)) ?_
        refine blp_v 8 rfl rfl (by kernel_rfl) (rgV (li := [(10, _)]) rfl (w_free rfl) ⟨g_fr (by kernel_rfl) rfl, trivial⟩ (fun w hw => rn_loadA (vs := [_, _, _, _, _, _, _]) Try.isAgg76 Try.sizeOf76 rfl (CellsAt.agree (below_agree hw 0) (Nat.zero_le _) (CellsAt.own (j := 0) (m := 7) (hS.at_ 0 rfl) rfl))) (at_top rfl)) ?_
        refine blp_v 9 rfl rfl (by kernel_rfl) (rg_call [isV _, isV _, isV _] rfl goes_21 (w_free rfl) ⟨p_tmp (g_dep 5 (by kernel_rfl) (at_dep rfl rfl rfl)), p_tmp (g_dep 6 (by kernel_rfl) (at_dep rfl rfl rfl)), p_tmp (g_dep 7 (by kernel_rfl) (at_dep rfl rfl rfl)), trivial⟩ (fun vs w' hb hh => by have e := holds_isV (us := [_, _, _]) hh; subst e; exact (worth_is _ ⟨_, _, _, _, _, _, _⟩ _).mono fun e w2 h => ⟨_, h.1, rfl, h.2⟩) (at_top rfl)) ?_
        refine blp_v 10 rfl rfl (by kernel_rfl) (rgV (li := [(61, _), (62, _), (66, _)]) rfl (w_free rfl) ⟨g_dep 3 (by kernel_rfl) (at_dep rfl rfl rfl), g_dep 4 (by kernel_rfl) (at_dep rfl rfl rfl), g_dep 8 (by kernel_rfl) (at_dep rfl rfl rfl), trivial⟩ (fun w hw => rn_build (us := [(1, .int .i64 _), (3, .slice _ _ _), (4, .agg (List.toArray [_, _, _, _, _, _]))]) rfl (bld_69_1_3_4 _ _ _ _ _ _ _ _ _ _)) (at_top rfl)) ?_
        refine blp_q 11 rfl rfl (by kernel_rfl) (isRow W90.heap.size 1 69 _) (stab_isRow) (rg_rowV (us := [.agg (List.toArray [_, _, _, _, _, _, _, _, _, _])]) rfl (w_free rfl) Try.underlying54 Try.sizeOf69 Try.zeroValue69 rfl rfl ⟨p_tmp (g_dep 9 (by kernel_rfl) (at_dep rfl rfl rfl)), trivial⟩ (bs_54_1 _ _ _ _ _ _ _ _ _ _) (at_top rfl)) ?_
        refine blp_app 12 rfl rfl ?_
        refine blp_late 13 rfl rfl (rgV (li := [(8, _)]) rfl (w_free rfl) ⟨g_fr (by kernel_rfl) rfl, trivial⟩ (fun w hw => rn_field (o' := 5) fa_56_3 rfl rfl) (at_top rfl)) (lgV (li := [(8, _)]) rfl (w_free rfl) ⟨g_fr (by kernel_rfl) rfl, trivial⟩ (fun w => rn_field (o' := 5) fa_56_3 rfl rfl) (at_top rfl) rfl) ?_
        refine blp_nil ⟨_, _, g_dep 1 (by kernel_rfl) (at_dep rfl rfl rfl), g_dep 10 (by kernel_rfl) (at_dep rfl rfl rfl), rowOf_isRow rfl rfl, ?_⟩
        intro A12 v12 news12 W12 hbR hqA12 hS'
        clear hS; have hS := hS'; clear hS'
        cases hqA12
        refine fin_v ?_
        refine fin_v ?_
        refine fin_v ?_
        refine fin_v ?_
        refine fin_v ?_
        refine fin_v ?_
        refine fin_v ?_
        refine fin_v ?_
        refine fin_v ?_
        refine fin_v ?_
        refine fin_p ?_; intro _ _
        refine fin_v ?_
        refine fin_v ?_
        obtain ⟨a2, c2, e2, hac2⟩ := ownsRow_sl (hS.row 0 rfl)
        dsimp only at e2
        subst e2
        refine fin_nil ?_
        refine op_store (i := 1) (cs' := [_, _, _, _, _, _]) (O' := [_, _, _, _]) hS Try.sizeOf54 rfl rfl rfl rfl rfl rfl rfl ?_
        clear hS; intro W13 hS
        refine endF ?_
        refine XF.blkN ?_
        refine XF.thenN ?_
        refine regF ?_
        refine op_add rfl rfl (IntWalk.i64_in _ (by omega)) rfl ?_
        refine op_move rfl rfl ?_
        refine endF ?_
        have hS9 := hS.tail
        refine XF.round (sl - (i + 1)) [(1, _), (2, _), (4, _), (7, _), (8, _), (32, _), (33, _), (34, _)] (by omega) ⟨rfl, rfl, rfl, rfl, rfl, rfl, rfl, rfl, trivial⟩ ⟨i + 1, qs ++ [⟨s.f, some ⟨B90, 0, none⟩, 1, 1, [s.t]⟩], _, _, by omega, rfl, rfl, by simp [hql]; try omega, by rw [List.map_append, hqm, List.take_add_one, List.map_append, hy, List.map_cons, List.map_nil]; show _ = _ ++ [_]; rw [stepR_one n8]; rfl, ?_, hS9.castG (by simp [Nat.add_assoc])⟩
        exact fun h2 hk q hq => by
          rcases List.mem_append.1 hq with hq | hq
          · exact HQ h2 (fun r hr => hk r (by simp [hr])) q hq
          · rw [List.mem_singleton] at hq; subst hq
            exact ⟨rfl, .inr ⟨B90, rfl, Nat.le_trans hsz9 hlo90, H90 h2 (fun r hr => hk r (by simp at hr; subst hr; simp))⟩⟩
    · have hc35 := of_decide_eq_false hc; clear hc
      rw [List.take_of_length_le (by omega)] at hqm
      refine exitF ?_
      refine XF.thenX ?_
      refine XF.thenX ?_
      refine XF.blkX ?_
      refine XF.thenN ?_
      refine seqF ?_
      refine seqF ?_
      refine regF ?_
      refine op_field (o' := 3) fa_29_3 rfl rfl rfl ?_
      refine op_load Try.isAgg23 rfl (cell_own (hS.at_ 2 rfl) rfl) rfl ?_
      refine op_len Try.underlying23 rfl rfl ?_
      refine op_move rfl rfl ?_
      refine endF ?_
      refine XF.thenN ?_
      refine blockF ?_
      refine loopF (fun m l W => ∃ (i : Nat) (qs : List QV) (v : Value) (Kk : List (Nat × World)), i ≤ xl ∧ m = xl - i ∧ l = [(1, .int .i64 1), (2, .pointer (some ⟨B1, 0, none⟩)), (4, .pointer (some ⟨B2, 0, none⟩)), (7, .int .i64 (vl : Int)), (8, .pointer (some ⟨B5, 0, none⟩)), (73, .slice xa xl xc), (74, .int .i64 (xl : Int)), (75, .int .i64 (i : Int))] ∧ qs.length = sl + i ∧ qs.map QV.pl = ss.map (stepR ⟨va, vl, vc, pa, pl, pc, ea, el, ec, es, xa, xl, xc, xs, mn, oa, ol, oc, os, sa, sl, sc, ss, ta, tl, tc, ts, na, nl, nc, ns, ka, kl, kc, ks⟩) ++ (xs.take i).map exitR' ∧ Held w Kk (fun W2 => ∀ q ∈ qs, QN w.heap.size W2 q) ∧ St w [(B5, [.int .i64 1, .int .i64 0, .slice none 0 0, .int .i64 1, .int .i64 (ol : Int), v], 56), (B2, [.int .i64 0, .int .i64 0, .slice none 0 0, .int .i64 0, .int .i64 0, .slice none 0 0], 56), (B1, [.slice va vl vc, .slice pa pl pc, .slice ea el ec, .slice xa xl xc, .int .i64 mn, .slice oa ol oc, .slice sa sl sc, .slice ta tl tc, .slice na nl nc, .slice ka kl kc], 29)] [⟨v, sl + i, qs.flatMap QV.ten, 69, 10⟩] Kk W) (xl - 0) ([(1, _), (2, _), (4, _), (7, _), (8, _), (73, _), (74, _), (75, _)]) ⟨rfl, rfl, rfl, rfl, rfl, rfl, rfl, rfl, trivial⟩ (⟨0, qs, _, Kk, Nat.zero_le _, rfl, rfl, by omega, by rw [hqm]; simp, HQ, hS.castG (by rw [show i = sl + 0 by omega])⟩) ?_
      clear hS
      rintro m l W ⟨i, qs, v, Kk, hi, rfl, rfl, hql, hqm, HQ, hS⟩
      refine seqF ?_
      refine regF ?_
      refine op_lss rfl rfl rfl ?_
      refine endF ?_
      refine XF.thenN ?_
      refine seqF ?_
      refine condF rfl (fun hc => ?_) (fun hc => ?_)
      · have hc76 := of_decide_eq_true hc; clear hc
        have hk1 : i < xl := by omega
        obtain ⟨b, off, y, rfl, hy, hyc⟩ := hx.get (i := i) (by omega)
        have k1 := (CellsAt.agree hS.agree (Nat.zero_le _) hyc).1
        refine skipF ?_
        refine XF.thenN ?_
        refine seqF ?_
        refine blockF ?_
        refine seqF ?_
        refine regF ?_
        refine op_indexA  Try.underlying23 Try.sizeOf3 rfl rfl rfl (by omega) rfl rfl ?_
        refine op_load Try.isAgg3 rfl (k1) rfl ?_
        refine op_assign rfl rfl ?_
        refine endF ?_
        refine XF.thenN ?_
        refine regBP (p := 9) (k := 11) (gi := 0) (m := 1) followsM hS rfl rfl (by kernel_rfl) (by kernel_rfl) (by kernel_rfl) (fun d hd => by cases hd) rfl rfl Try.underlying54 inf_69 rfl rfl (by show 0 < 10; decide) rfl rfl rfl (by simp only [maxLen]; omega) (by show (sl + i + 1) * 144 ≤ _; omega) ?_
        refine blp_v 1 rfl rfl (by kernel_rfl) (rgV (li := [(8, _)]) rfl (w_free rfl) ⟨g_fr (by kernel_rfl) rfl, trivial⟩ (fun w hw => rn_field (o' := 5) fa_56_3 rfl rfl) (at_top rfl)) ?_
        refine blp_v 2 rfl rfl (by kernel_rfl) (rgV (li := [(79, _)]) rfl (w_free rfl) ⟨g_dep 0 (by kernel_rfl) (at_dep rfl rfl rfl), trivial⟩ (fun w hw => rn_load Try.isAgg54 rfl ((below_agree hw 0).cell (Nat.zero_le _) (cell_own (hS.at_ 0 rfl) rfl))) (at_top rfl)) ?_
        refine blp_v 3 rfl rfl (by kernel_rfl) (rgV (li := [(13, _)]) rfl (w_free rfl) ⟨g_fr (by kernel_rfl) rfl, trivial⟩ (fun w hw => rn_move rfl) (at_top rfl)) ?_
        refine blp_v 4 rfl rfl (by kernel_rfl) (rgV (li := [(1, _)]) rfl (w_free rfl) ⟨g_fr (by kernel_rfl) rfl, trivial⟩ (fun w hw => rn_move rfl) (at_top rfl)) ?_
        refine blp_v 5 rfl rfl (by kernel_rfl) (rgV (li := [(7, _)]) rfl (w_free rfl) ⟨g_fr (by kernel_rfl) rfl, trivial⟩ (fun w hw => rn_move rfl) (at_top rfl)) ?_
        refine blp_v 6 rfl rfl (by kernel_rfl) (rgV (li := []) rfl (w_free rfl) trivial (fun w hw => rn_build (us := [(2, .int .i64 _)]) rfl (bld_76_2 _)) (at_top rfl)) ?_
        refine blp_v 7 rfl rfl (by kernel_rfl) (rg_call [isV _, isV _, isV _] rfl goes_21 (w_free rfl) ⟨p_tmp (g_dep 3 (by kernel_rfl) (at_dep rfl rfl rfl)), p_tmp (g_dep 4 (by kernel_rfl) (at_dep rfl rfl rfl)), p_tmp (g_dep 5 (by kernel_rfl) (at_dep rfl rfl rfl)), trivial⟩ (fun vs w' hb hh => by have e := holds_isV (us := [_, _, _]) hh; subst e; exact (worth_is _ ⟨_, _, _, _, _, _, _⟩ _).mono fun e w2 h => ⟨_, h.1, rfl, h.2⟩) (at_top rfl)) ?_
        refine blp_v 8 rfl rfl (by kernel_rfl) (rgV (li := [(81, _), (85, _)]) rfl (w_free rfl) ⟨g_dep 2 (by kernel_rfl) (at_dep rfl rfl rfl), g_dep 6 (by kernel_rfl) (at_dep rfl rfl rfl), trivial⟩ (fun w hw => rn_build (us := [(1, .int .i64 _), (4, .agg (List.toArray [_, _, _, _, _, _]))]) rfl (bld_69_1_4 _ _ _ _ _ _ _)) (at_top rfl)) ?_
        refine blp_q 9 rfl rfl (by kernel_rfl) (isRow W.heap.size 1 69 _) (stab_isRow) (rg_rowV (us := [.agg (List.toArray [_, _, _, _, _, _, _, _, _, _])]) rfl (w_free rfl) Try.underlying54 Try.sizeOf69 Try.zeroValue69 rfl rfl ⟨p_tmp (g_dep 7 (by kernel_rfl) (at_dep rfl rfl rfl)), trivial⟩ (bs_54_1 _ _ _ _ _ _ _ _ _ _) (at_top rfl)) ?_
        refine blp_app 10 rfl rfl ?_
        refine blp_late 11 rfl rfl (rgV (li := [(8, _)]) rfl (w_free rfl) ⟨g_fr (by kernel_rfl) rfl, trivial⟩ (fun w hw => rn_field (o' := 5) fa_56_3 rfl rfl) (at_top rfl)) (lgV (li := [(8, _)]) rfl (w_free rfl) ⟨g_fr (by kernel_rfl) rfl, trivial⟩ (fun w => rn_field (o' := 5) fa_56_3 rfl rfl) (at_top rfl) rfl) ?_
        refine blp_nil ⟨_, _, g_dep 1 (by kernel_rfl) (at_dep rfl rfl rfl), g_dep 8 (by kernel_rfl) (at_dep rfl rfl rfl), rowOf_isRow rfl rfl, ?_⟩
        intro A14 v14 news14 W14 hbR hqA14 hS'
        clear hS; have hS := hS'; clear hS'
        cases hqA14
        refine fin_v ?_
        refine fin_v ?_
        refine fin_v ?_
        refine fin_v ?_
        refine fin_v ?_
        refine fin_v ?_
        refine fin_v ?_
        refine fin_v ?_
        refine fin_p ?_; intro _ _
        refine fin_v ?_
        refine fin_v ?_
        obtain ⟨a2, c2, e2, hac2⟩ := ownsRow_sl (hS.row 0 rfl)
        dsimp only at e2
        subst e2
        refine fin_nil ?_
        refine op_store (i := 0) (cs' := [_, _, _, _, _, _]) (O' := [_, _, _]) hS Try.sizeOf54 rfl rfl rfl rfl rfl rfl rfl ?_
        clear hS; intro W15 hS
        refine endF ?_
        refine XF.blkN ?_
        refine XF.thenN ?_
        refine regF ?_
        refine op_add rfl rfl (IntWalk.i64_in _ (by omega)) rfl ?_
        refine op_move rfl rfl ?_
        refine endF ?_
        have hS9 := hS
        refine XF.round (xl - (i + 1)) [(1, _), (2, _), (4, _), (7, _), (8, _), (73, _), (74, _), (75, _)] (by omega) ⟨rfl, rfl, rfl, rfl, rfl, rfl, rfl, rfl, trivial⟩ ⟨i + 1, qs ++ [⟨y, none, 0, 0, []⟩], _, _, by omega, rfl, rfl, by simp [hql]; try omega, by rw [List.map_append, hqm, List.take_add_one, List.map_append, hy, List.append_assoc]; rfl, ?_, hS9.castG (by simp [Nat.add_assoc])⟩
        exact fun h2 hk q hq => by
          rcases List.mem_append.1 hq with hq | hq
          · exact HQ h2 (fun r hr => hk r (by simp [hr])) q hq
          · rw [List.mem_singleton] at hq; subst hq
            exact ⟨rfl, .inl rfl⟩
      · have hc76 := of_decide_eq_false hc; clear hc
        rw [List.take_of_length_le (by omega)] at hqm
        obtain ⟨a9, c9, rfl, hac⟩ := ownsRow_sl (v := v) (n := sl + i) (hS.row 0 rfl)
        refine exitF ?_
        refine XF.thenX ?_
        refine XF.thenX ?_
        refine XF.blkX ?_
        refine XF.thenN ?_
        refine seqF ?_
        refine regF ?_
        refine op_loadA (vs := [_, _, _, _, _, _]) Try.isAgg56 Try.sizeOf56 rfl (CellsAt.own (j := 0) (m := 6) (hS.at_ 0 rfl) rfl) rfl ?_
        refine op_storeA (i := 1) (vs := [_, _, _, _, _, _]) (cs' := [_, _, _, _, _, _]) (O' := [_, _, _]) hS Try.sizeOf56 rfl rfl rfl rfl rfl rfl rfl ?_
        clear hS; intro W16 hS
        refine op_assign rfl rfl ?_
        refine endF ?_
        refine XF.thenN ?_
        refine retF ?_
        refine XF.res (resCT (vs := [_, _, _, _, _, _]) Try.results14 Try.isAgg56 Try.sizeOf56 rfl (CellsAt.own (j := 0) (m := 6) (hS.at_ 1 rfl) rfl) rfl) ?_
        exact ⟨hS.below, .inr ⟨hce, a9, c9, qs, by rw [hql], by rw [hql]; exact hS.row 0 rfl, hqm, HQ hS (fun r hr => by simp [hr])⟩⟩
end Go.Proofs.Ytpinbmjkbkogdaa
namespace Go.Proofs.Ytpinbmjkbkogdaa
open Go Go.RowKit
set_option linter.unusedVariables false
theorem flat_at {α : Type} {f : α → List Value} {sz : Nat} (hf : ∀ x, (f x).length = sz) : ∀ {xs : List α} {i : Nat} {x : α}, xs[i]? = some x → ((xs.flatMap f).drop (i * sz)).take sz = f x
  | [], i, x, h => by simp at h
  | y :: xs, 0, x, h => by
    simp at h; subst h
    rw [Nat.zero_mul, List.drop_zero, List.flatMap_cons, List.take_append_of_le_length (by rw [hf]; exact Nat.le_refl _), List.take_of_length_le (by rw [hf]; exact Nat.le_refl _)]
  | y :: xs, i + 1, x, h => by
    have h2 : (i + 1) * sz = (f y).length + i * sz := by rw [hf, Nat.succ_mul, Nat.add_comm]
    rw [List.flatMap_cons, h2, ← List.drop_drop, List.drop_left]
    exact flat_at hf (by simpa using h)
theorem rowL_own {α : Type} {f : α → List Value} {sz : Nat} {W : World} {B : Nat} {xs : List α} {T : TypeId} (hf : ∀ x, (f x).length = sz) (h : W.heap[B]? = some (.cells (xs.flatMap f).toArray T (0, 0))) : RowL f sz W (some ⟨B, 0, none⟩) xs :=
  .inr ⟨B, 0, rfl, fun i x hx => by rw [Nat.zero_add]; exact CellsAt.own h (flat_at hf hx)⟩
structure KnownG (g : GV) : Prop where
  v : g.vl = 0
  p : g.pl = 2
  el : g.el = 2
  es : g.es = [0, 3]
  xl : g.xl = 2
  xs : g.xs = [1, 4]
  mn : g.mn = 0
  ol : g.ol = 5
  os : g.os = [0, 0, 0, 1, 1]
  sl : g.sl = 3
  ss : g.ss = [⟨0, 2, 8, 0, 0, 0, 0⟩, ⟨2, 1, 1, 0, 0, 0, 0⟩, ⟨3, 4, 1, 0, 0, 0, 0⟩]
  tl : g.tl = 1
  ts : ∃ nm, g.ts = [⟨nm, 1, 0, 2⟩]
  nl : g.nl = 0
  ns : g.ns = []
  kl : g.kl = 0
  ks : g.ks = []
theorem KnownG.few {g : GV} (h : KnownG g) : GFew g := ⟨by rw [h.v]; decide, by rw [h.p]; decide, by rw [h.el]; decide, by rw [h.xl]; decide, by rw [h.ol]; decide, by rw [h.sl]; decide, by rw [h.tl]; decide, by rw [h.nl]; decide, by rw [h.kl]; decide⟩
theorem KnownG.facts {g : GV} (h : KnownG g) : checkE g = 0 ∧ CallsOk g ∧ g.ss.map (stepR g) ++ g.xs.map exitR' = [(0, [3, 2]), (2, [1]), (3, [4]), (1, []), (4, [])] ∧ confE g 3 [0] = (0, [3, 2]) := by
  obtain ⟨va, vl, vc, pa, pl, pc, ea, el, ec, es, xa, xl, xc, xs, mn, oa, ol, oc, os, sa, sl, sc, ss, ta, tl, tc, ts, na, nl, nc, ns, ka, kl, kc, ks⟩ := g
  obtain ⟨h1, h2, h3, h4, h5, h6, h7, h8, h9, h10, h11, h12, ⟨nm, h13⟩, h14, h15, h16, h17⟩ := h
  dsimp only at h1 h2 h3 h4 h5 h6 h7 h8 h9 h10 h11 h12 h13 h14 h15 h16 h17
  subst h1 h2 h3 h4 h5 h6 h7 h8 h9 h10 h11 h12 h13 h14 h15 h16 h17
  refine ⟨rfl, fun s hs h8 => ?_, rfl, rfl⟩
  simp only [List.mem_cons, List.not_mem_nil, or_false] at hs
  rcases hs with rfl | rfl | rfl
  · exact ⟨0, 1, ⟨nm, 1, 0, 2⟩, rfl, by show (0 : Nat) < 1; decide, rfl, rfl, by show (1 : Nat) < 2; decide⟩
  · exact absurd h8 (by decide)
  · exact absurd h8 (by decide)
theorem pdsRet_ok {g : GV} {w : World} {e : Ending} {w' : World} (h : PdsRet g w e w') (hc : checkE g = 0) : ∃ a c, ∃ qs : List QV, e = .returned (.tuple #[.agg #[.int .i64 1, .int .i64 0, .slice none 0 0, .int .i64 1, .int .i64 (g.ol : Int), .slice a qs.length c], .int .i64 0]) ∧
    w'.ownsRow w.heap.size 69 10 (.slice a qs.length c) qs.length (qs.flatMap QV.ten) ∧ qs.map QV.pl = g.ss.map (stepR g) ++ g.xs.map exitR' ∧ (∀ q ∈ qs, QN w.heap.size w' q) ∧ Below w.heap.size w w' := by
  obtain ⟨hb, ⟨h1, _⟩ | ⟨_, a, c, qs, h2, h3, h4, h5⟩⟩ := h
  · exact absurd hc h1
  · exact ⟨a, c, qs, h2, h3, h4, h5, hb⟩
theorem confRet_ok {R : Int × List Int} {w : World} {e : Ending} {w' : World} {l : List Int} (h : ConfRet R w e w') (hR : R = (0, l)) : ∃ a c, e = .returned (.tuple #[.agg #[.int .i64 0, .slice a l.length c], .int .i64 0]) ∧ RowN w.heap.size w' a c l ∧ Below w.heap.size w w' := by
  subst hR
  obtain ⟨hb, ⟨h1, _⟩ | ⟨_, a, c, h2, h3⟩⟩ := h
  · exact absurd rfl h1
  · exact ⟨a, c, h2, h3, hb⟩
theorem five_rules {qs : List QV} (h : qs.map QV.pl = [(0, [3, 2]), (2, [1]), (3, [4]), (1, []), (4, [])]) : ∃ a0 l0 c0 q1 q2 q3 a4 l4 c4, qs = [⟨0, a0, l0, c0, [3, 2]⟩, q1, q2, q3, ⟨4, a4, l4, c4, []⟩] := by
  have hl : qs.length = 5 := by simpa using congrArg List.length h
  match qs, hl, h with
  | [⟨g0, a0, l0, c0, w0⟩, q1, q2, q3, ⟨g4, a4, l4, c4, w4⟩], _, h =>
    simp only [List.map_cons, List.map_nil, List.cons.injEq, QV.pl, Prod.mk.injEq] at h
    obtain ⟨⟨rfl, rfl⟩, _, _, _, ⟨rfl, rfl⟩, _⟩ := h
    exact ⟨a0, l0, c0, q1, q2, q3, a4, l4, c4, rfl⟩
theorem old_heap {lo : Nat} {A W : World} {B : Nat} {o : Obj} (hg : Agree lo A W) (hB : lo ≤ B) (h : A.heap[B]? = some o) : W.heap[B]? = some o := (hg.2 B hB (lt_of_heap h)).trans h
end Go.Proofs.Ytpinbmjkbkogdaa
namespace Go.Proofs.Ytpinbmjkbkogdaa
open Go Go.RowKit
set_option linter.unusedVariables false
theorem bld_29_1_2_3_5_6_7 (v1a : Option Addr) (v1l : Nat) (v1c : Nat) (v2a : Option Addr) (v2l : Nat) (v2c : Nat) (v3a : Option Addr) (v3l : Nat) (v3c : Nat) (v5a : Option Addr) (v5l : Nat) (v5c : Nat) (v6a : Option Addr) (v6l : Nat) (v6c : Nat) (v7a : Option Addr) (v7l : Nat) (v7c : Nat) : Try.prog.built 29 [(1, .slice v1a v1l v1c), (2, .slice v2a v2l v2c), (3, .slice v3a v3l v3c), (5, .slice v5a v5l v5c), (6, .slice v6a v6l v6c), (7, .slice v7a v7l v7c)] = some #[.slice none 0 0, .slice v1a v1l v1c, .slice v2a v2l v2c, .slice v3a v3l v3c, .int .i64 0, .slice v5a v5l v5c, .slice v6a v6l v6c, .slice v7a v7l v7c, .slice none 0 0, .slice none 0 0] := by kernel_rfl
theorem bld_47_0_1_3 (v0 : ByteArray) (v1 : Int) (v3 : Int) : Try.prog.built 47 [(0, .string v0), (1, .int .i64 v1), (3, .int .i64 v3)] = some #[.string v0, .int .i64 v1, .int .i64 0, .int .i64 v3] := by kernel_rfl
theorem bld_76_0_1_2 (v0 : Int) (v1 : Int) (v2 : Int) : Try.prog.built 76 [(0, .int .i64 v0), (1, .int .i64 v1), (2, .int .i64 v2)] = some #[.int .i64 v0, .int .i64 v1, .int .i64 v2, .int .i64 0, .int .i64 0, .int .i64 0, .int .i64 0] := by kernel_rfl
theorem bld_76_1_2 (v1 : Int) (v2 : Int) : Try.prog.built 76 [(1, .int .i64 v1), (2, .int .i64 v2)] = some #[.int .i64 0, .int .i64 v1, .int .i64 v2, .int .i64 0, .int .i64 0, .int .i64 0, .int .i64 0] := by kernel_rfl
theorem bs_22_2 (v0 : ByteArray) (v1 : ByteArray) : Instr.fill (fun i => some (i * 1, 1)) ((Array.range (2 * 1)).map ((Value.cells (.string ByteArray.empty))[· % (Value.cells (.string ByteArray.empty)).size]!)) [(0, .string v0), (1, .string v1)] = some (List.toArray [.string v0, .string v1]) := by kernel_rfl
theorem bs_23_5 (v0 : Int) (v1 : Int) (v2 : Int) (v3 : Int) (v4 : Int) : Instr.fill (fun i => some (i * 1, 1)) ((Array.range (5 * 1)).map ((Value.cells (.int .i64 0))[· % (Value.cells (.int .i64 0)).size]!)) [(0, .int .i64 v0), (1, .int .i64 v1), (2, .int .i64 v2), (3, .int .i64 v3), (4, .int .i64 v4)] = some (List.toArray [.int .i64 v0, .int .i64 v1, .int .i64 v2, .int .i64 v3, .int .i64 v4]) := by kernel_rfl
theorem bs_24_3 (v00 : Value) (v01 : Value) (v02 : Value) (v03 : Value) (v04 : Value) (v05 : Value) (v06 : Value) (v10 : Value) (v11 : Value) (v12 : Value) (v13 : Value) (v14 : Value) (v15 : Value) (v16 : Value) (v20 : Value) (v21 : Value) (v22 : Value) (v23 : Value) (v24 : Value) (v25 : Value) (v26 : Value) : Instr.fill (fun i => some (i * 7, 7)) ((Array.range (3 * 7)).map ((Value.cells (.agg #[.int .i64 0, .int .i64 0, .int .i64 0, .int .i64 0, .int .i64 0, .int .i64 0, .int .i64 0]))[· % (Value.cells (.agg #[.int .i64 0, .int .i64 0, .int .i64 0, .int .i64 0, .int .i64 0, .int .i64 0, .int .i64 0])).size]!)) [(0, .agg #[v00, v01, v02, v03, v04, v05, v06]), (1, .agg #[v10, v11, v12, v13, v14, v15, v16]), (2, .agg #[v20, v21, v22, v23, v24, v25, v26])] = some (List.toArray [v00, v01, v02, v03, v04, v05, v06, v10, v11, v12, v13, v14, v15, v16, v20, v21, v22, v23, v24, v25, v26]) := by kernel_rfl
theorem bs_25_1 (v00 : Value) (v01 : Value) (v02 : Value) (v03 : Value) : Instr.fill (fun i => some (i * 4, 4)) ((Array.range (1 * 4)).map ((Value.cells (.agg #[.string ByteArray.empty, .int .i64 0, .int .i64 0, .int .i64 0]))[· % (Value.cells (.agg #[.string ByteArray.empty, .int .i64 0, .int .i64 0, .int .i64 0])).size]!)) [(0, .agg #[v00, v01, v02, v03])] = some (List.toArray [v00, v01, v02, v03]) := by kernel_rfl
theorem fa_69_1 (w : World) (b o : Nat) : (Instr.fieldAt 69 (.pointer (some ⟨b, o, none⟩)) 1).run Try.prog w = .ok (.pointer (some ⟨b, o + 1, none⟩)) w := by
  simp [Instr.fieldAt, run_underlying Try.underlying69, Instr.sureAddr, go_sem, Addr.add_lit]
theorem fa_69_3 (w : World) (b o : Nat) : (Instr.fieldAt 69 (.pointer (some ⟨b, o, none⟩)) 3).run Try.prog w = .ok (.pointer (some ⟨b, o + 3, none⟩)) w := by
  simp [Instr.fieldAt, run_underlying Try.underlying69, Instr.sureAddr, go_sem, Addr.add_lit]
theorem goes_13 : goesIn Try.prog 13 = true := by kernel_rfl
theorem goes_14 : goesIn Try.prog 14 = true := by kernel_rfl
theorem goes_7 : goesIn Try.prog 7 = true := by kernel_rfl
set_option maxRecDepth 100000 in
set_option maxHeartbeats 4000000 in
theorem known_is (w : World) :
    Calls Try.prog 13 #[] w (fun e w' => ∃ g : GV, e = .returned g.val ∧ KnownG g ∧ (∀ W2, Agree w.heap.size w' W2 → GIn W2 g) ∧ Below w.heap.size w w') := by
  refine enterF (args := []) Try.func13 rfl Try.ntmps13 rfl ?_
  have hS := St.start w
  refine seqF ?_
  refine regF ?_
  refine op_alloc (cs := [_, _, _, _, _, _, _, _, _, _]) hS Try.zeroValue29 rfl rfl ?_
  clear hS; intro B1 W1 hS
  refine endF ?_
  refine XF.thenN ?_
  refine seqF ?_
  refine regF ?_
  refine op_buildSlice (us := [(0, .string _), (1, .string _)]) hS Try.underlying22 Try.sizeOf9 Try.zeroValue9 rfl rfl rfl (bs_22_2 _ _) rfl ?_
  clear hS; intro B2 W2 hS
  refine op_buildSlice (us := [(0, .int .i64 _), (1, .int .i64 _)]) hS Try.underlying23 Try.sizeOf3 Try.zeroValue3 rfl rfl rfl (bs_23_2 _ _) rfl ?_
  clear hS; intro B3 W3 hS
  refine op_buildSlice (us := [(0, .int .i64 _), (1, .int .i64 _)]) hS Try.underlying23 Try.sizeOf3 Try.zeroValue3 rfl rfl rfl (bs_23_2 _ _) rfl ?_
  clear hS; intro B4 W4 hS
  refine op_buildSlice (us := [(0, .int .i64 _), (1, .int .i64 _), (2, .int .i64 _), (3, .int .i64 _), (4, .int .i64 _)]) hS Try.underlying23 Try.sizeOf3 Try.zeroValue3 rfl rfl rfl (bs_23_5 _ _ _ _ _) rfl ?_
  clear hS; intro B5 W5 hS
  refine op_build (us := [(1, .int .i64 _), (2, .int .i64 _)]) rfl (bld_76_1_2 _ _) rfl ?_
  refine op_build (us := [(0, .int .i64 _), (1, .int .i64 _), (2, .int .i64 _)]) rfl (bld_76_0_1_2 _ _ _) rfl ?_
  refine op_build (us := [(0, .int .i64 _), (1, .int .i64 _), (2, .int .i64 _)]) rfl (bld_76_0_1_2 _ _ _) rfl ?_
  refine op_buildSlice (us := [(0, .agg (List.toArray [_, _, _, _, _, _, _])), (1, .agg (List.toArray [_, _, _, _, _, _, _])), (2, .agg (List.toArray [_, _, _, _, _, _, _]))]) hS Try.underlying24 Try.sizeOf76 Try.zeroValue76 rfl rfl rfl (bs_24_3 _ _ _ _ _ _ _ _ _ _ _ _ _ _ _ _ _ _ _ _ _) rfl ?_
  clear hS; intro B6 W6 hS
  refine op_build (us := [(0, .string _), (1, .int .i64 _), (3, .int .i64 _)]) rfl (bld_47_0_1_3 _ _ _) rfl ?_
  refine op_buildSlice (us := [(0, .agg (List.toArray [_, _, _, _]))]) hS Try.underlying25 Try.sizeOf47 Try.zeroValue47 rfl rfl rfl (bs_25_1 _ _ _ _) rfl ?_
  clear hS; intro B7 W7 hS
  refine op_build (us := [(1, .slice _ _ _), (2, .slice _ _ _), (3, .slice _ _ _), (5, .slice _ _ _), (6, .slice _ _ _), (7, .slice _ _ _)]) rfl (bld_29_1_2_3_5_6_7 _ _ _ _ _ _ _ _ _ _ _ _ _ _ _ _ _ _) rfl ?_
  refine op_storeA (i := 6) (vs := [_, _, _, _, _, _, _, _, _, _]) (cs' := [_, _, _, _, _, _, _, _, _, _]) (O' := [_, _, _, _, _, _, _]) hS Try.sizeOf29 rfl rfl rfl rfl rfl rfl rfl ?_
  clear hS; intro W8 hS
  refine endF ?_
  refine XF.thenN ?_
  refine retF ?_
  refine XF.res (resC1 (vs := [_, _, _, _, _, _, _, _, _, _]) Try.results13 Try.isAgg29 Try.sizeOf29 rfl (CellsAt.own (j := 0) (m := 10) (hS.at_ 6 rfl) rfl)) ?_
  obtain ⟨nm, hnm⟩ : ∃ nm, W8.heap[B7]? = some (.cells #[.string nm, .int .i64 1, .int .i64 0, .int .i64 2] 47 (0, 0)) := ⟨_, hS.at_ 0 rfl⟩
  refine ⟨⟨none, 0, 0, some ⟨B2, 0, none⟩, 2, 2, some ⟨B3, 0, none⟩, 2, 2, [0, 3], some ⟨B4, 0, none⟩, 2, 2, [1, 4], 0, some ⟨B5, 0, none⟩, 5, 5, [0, 0, 0, 1, 1], some ⟨B6, 0, none⟩, 3, 3, [⟨0, 2, 8, 0, 0, 0, 0⟩, ⟨2, 1, 1, 0, 0, 0, 0⟩, ⟨3, 4, 1, 0, 0, 0, 0⟩], some ⟨B7, 0, none⟩, 1, 1, [⟨nm, 1, 0, 2⟩], none, 0, 0, [], none, 0, 0, []⟩, rfl, ⟨rfl, rfl, rfl, rfl, rfl, rfl, rfl, rfl, rfl, rfl, rfl, rfl, ⟨_, rfl⟩, rfl, rfl, rfl, rfl⟩, fun W2 hg => ?_, hS.below⟩
  exact ⟨rowL_own (fun _ => rfl) (old_heap hg (hS.ge 4 rfl) (hS.at_ 4 rfl)), rfl, rowL_own (fun _ => rfl) (old_heap hg (hS.ge 3 rfl) (hS.at_ 3 rfl)), rfl, rowL_own (fun _ => rfl) (old_heap hg (hS.ge 2 rfl) (hS.at_ 2 rfl)), rfl, rowL_own (fun _ => rfl) (old_heap hg (hS.ge 1 rfl) (hS.at_ 1 rfl)), rfl, rowL_own (fun _ => rfl) (old_heap hg (hS.ge 0 rfl) hnm), rfl, .inl rfl, rfl, .inl rfl, rfl⟩

theorem pds_is (g : GV) (w : World) (hg : GIn w g) (hf : GFew g) (hco : CallsOk g) : Calls Try.prog 14 #[g.val, .int .i64 1] w (PdsRet g w) :=
  pds_c g.va g.vl g.vc g.pa g.pl g.pc g.ea g.el g.ec g.es g.xa g.xl g.xc g.xs g.mn g.oa g.ol g.oc g.os g.sa g.sl g.sc g.ss g.ta g.tl g.tc g.ts g.na g.nl g.nc g.ns g.ka g.kl g.kc g.ks w hg.e hg.el hg.x hg.xl hg.o hg.ol hg.s hg.sl hg.t hg.tl hg.n hg.nl hg.k hg.kl hf.v hf.p hf.e hf.x hf.o hf.s hf.t hf.n hf.k hco
theorem conf_is (g : GV) (node : Int) (la : Option Addr) (ll lc : Nat) (is : List Int) (w : World) (hg : GIn w g) (hf : GFew g) (hrla : RowI w la is) (hll : is.length = ll) (hlm : ll ≤ 5000) : Calls Try.prog 7 #[g.val, .int .i64 node, .slice la ll lc] w (ConfRet (confE g node is) w) :=
  conf_c g.va g.vl g.vc g.pa g.pl g.pc g.ea g.el g.ec g.es g.xa g.xl g.xc g.xs g.mn g.oa g.ol g.oc g.os g.sa g.sl g.sc g.ss g.ta g.tl g.tc g.ts g.na g.nl g.nc g.ns g.ka g.kl g.kc g.ks node la ll lc is w hg.e hg.el hg.x hg.xl hg.o hg.ol hg.s hg.sl hg.t hg.tl hg.n hg.nl hg.k hg.kl hf.v hf.p hf.e hf.x hf.o hf.s hf.t hf.n hf.k hrla hll hlm
theorem sites_is (g : GV) (p : Int) (wa : Option Addr) (wl wc : Nat) (ws : List Int) (w : World) (hg : GIn w g) (hf : GFew g) (hrw : RowI w wa ws) (hwl : ws.length = wl) (hwc : wl ≤ wc) : Calls Try.prog 9 #[g.val, .agg #[.int .i64 p, .slice wa wl wc]] w (SitesRet (sitesE g p ws) w) :=
  sites_c g.va g.vl g.vc g.pa g.pl g.pc g.ea g.el g.ec g.es g.xa g.xl g.xc g.xs g.mn g.oa g.ol g.oc g.os g.sa g.sl g.sc g.ss g.ta g.tl g.tc g.ts g.na g.nl g.nc g.ns g.ka g.kl g.kc g.ks w hg.e hg.el hg.x hg.xl hg.o hg.ol hg.s hg.sl hg.t hg.tl hg.n hg.nl hg.k hg.kl hf.v hf.p hf.e hf.x hf.o hf.s hf.t hf.n hf.k p wa wl wc ws hrw hwl hwc

set_option maxRecDepth 100000 in
set_option maxHeartbeats 4000000 in
theorem alive_is (w : World) :
    Calls Try.prog 6 #[] w (fun e w' => e = .returned (.bool (true)) ∧ Below w.heap.size w w') := by
  refine enterF (args := []) Try.func6 rfl Try.ntmps6 rfl ?_
  have hS := St.start w
  refine seqF ?_
  refine regF ?_
  refine op_assign rfl rfl ?_
  refine endF ?_
  refine XF.thenN ?_
  refine seqF ?_
  refine regF ?_
  refine op_call (vs := []) hS goes_13 rfl (known_is _) rfl ?_
  rintro e W1 ⟨g, rfl, hkn, hgin, hb⟩
  refine ⟨_, rfl, hb, fun hS' => ?_⟩
  clear hS; have hS := hS'; clear hS'
  obtain ⟨hce, hco, hrules, hcf⟩ := hkn.facts
  refine op_alloc (cs := [_, _, _, _, _, _, _, _, _, _]) hS Try.zeroValue29 rfl rfl ?_
  clear hS; intro B2 W2 hS
  refine op_storeA (i := 0) (vs := [_, _, _, _, _, _, _, _, _, _]) (cs' := [_, _, _, _, _, _, _, _, _, _]) (O' := [_]) hS Try.sizeOf29 rfl rfl rfl rfl rfl rfl rfl ?_
  clear hS; intro W3 hS
  refine endF ?_
  refine XF.thenN ?_
  refine seqF ?_
  refine regF ?_
  refine op_loadA (vs := [_, _, _, _, _, _, _, _, _, _]) Try.isAgg29 Try.sizeOf29 rfl (CellsAt.own (j := 0) (m := 10) (hS.at_ 0 rfl) rfl) rfl ?_
  have hgi2 := hgin _ (hS.since 0 rfl)
  refine op_call (vs := [_, _]) hS goes_14 rfl ((pds_is g _ hgi2 hkn.few hco).mono fun e w2 h => pdsRet_ok h hce) rfl ?_
  rintro e W4 ⟨ap, cp, qs, rfl, hrow, hqm, hqn, hb⟩
  refine ⟨_, rfl, hb, fun hS' => ?_⟩
  clear hS; have hS := hS'; clear hS'
  rw [hrules] at hqm
  obtain ⟨a0, l0, c0, q1, q2, q3, a4, l4, c4, rfl⟩ := five_rules hqm
  refine op_move rfl rfl ?_
  refine op_extract rfl rfl rfl ?_
  refine op_extract rfl rfl rfl ?_
  refine op_alloc (cs := [_, _, _, _, _, _]) hS Try.zeroValue56 rfl rfl ?_
  clear hS; intro B5 W5 hS
  refine op_storeA (i := 0) (vs := [_, _, _, _, _, _]) (cs' := [_, _, _, _, _, _]) (O' := [_, _]) hS Try.sizeOf56 rfl rfl rfl rfl rfl rfl rfl ?_
  clear hS; intro W6 hS
  refine op_assign rfl rfl ?_
  refine endF ?_
  refine XF.thenN ?_
  refine seqF ?_
  refine regF ?_
  refine op_loadA (vs := [_, _, _, _, _, _, _, _, _, _]) Try.isAgg29 Try.sizeOf29 rfl (CellsAt.own (j := 0) (m := 10) (hS.at_ 1 rfl) rfl) rfl ?_
  refine op_buildSlice (us := [(0, .int .i64 _)]) hS Try.underlying23 Try.sizeOf3 Try.zeroValue3 rfl rfl rfl (bs_23_1 _) rfl ?_
  clear hS; intro B7 W7 hS
  have hgi3 := hgin _ (hS.since 1 rfl)
  refine op_call (vs := [_, _, _]) hS goes_7 rfl ((conf_is g 3 _ 1 1 [0] _ hgi3 hkn.few (rowI_of1 (hS.at_ 0 rfl)) rfl (by decide)).mono fun e w2 h => confRet_ok h hcf) rfl ?_
  rintro e W8 ⟨ac, cc, rfl, hcn, hb⟩
  refine ⟨_, rfl, hb, fun hS' => ?_⟩
  clear hS; have hS := hS'; clear hS'
  refine op_move rfl rfl ?_
  refine op_extract rfl rfl rfl ?_
  refine op_extract rfl rfl rfl ?_
  refine op_alloc (cs := [_, _]) hS Try.zeroValue31 rfl rfl ?_
  clear hS; intro B9 W9 hS
  refine op_storeA (i := 0) (vs := [_, _]) (cs' := [_, _]) (O' := [_, _, _, _]) hS Try.sizeOf31 rfl rfl rfl rfl rfl rfl rfl ?_
  clear hS; intro W10 hS
  refine op_assign rfl rfl ?_
  refine endF ?_
  refine XF.thenN ?_
  refine seqF ?_
  have hg4 := hS.since 1 rfl
  have hrow4 := ownsRow_agree hrow hg4
  obtain ⟨hne, h0⟩ | ⟨br, rfl, _, hcell⟩ := ownsRow_cells hrow4
  · simp at h0
  have hq0 := (hqn _ List.mem_cons_self).agree hg4
  have hq4 := (hqn ⟨4, a4, l4, c4, []⟩ (by simp)).agree hg4
  have hl0 : 2 = l0 := hq0.1
  have hl4 : 0 = l4 := hq4.1
  subst hl0; subst hl4
  obtain ⟨B0, ha0, _, hB0⟩ := hq0.2.resolve_left (by simp)
  have ha0' : a0 = some ⟨B0, 0, none⟩ := ha0
  subst ha0'
  have k1 := hcell 3 _ rfl
  have k2 : W10.cell? ⟨B0, 0, none⟩ = some (.int .i64 3) := cell_own (cs := [_, _]) (j := 0) hB0 rfl
  have k3 : W10.cell? ⟨B0, 1, none⟩ = some (.int .i64 2) := cell_own (cs := [_, _]) (j := 1) hB0 rfl
  have k4 := hcell 43 _ rfl
  have k5 := hcell 41 _ rfl
  obtain ⟨bc, oc_, y, rfl, hy, hyc⟩ := (hcn.agree (hS.since 0 rfl)).row.get (i := 1) (by decide)
  obtain rfl : (2 : Int) = y := Option.some.inj hy
  have k6 := hyc.1
  refine regF ?_
  refine op_move rfl rfl ?_
  refine op_eql rfl rfl rfl ?_
  refine op_move rfl rfl ?_
  refine op_cases (d := 20) rfl (fun hc => ?_) (fun hc => absurd (of_decide_eq_false hc) (by exact fun h => h rfl))
  have hc := of_decide_eq_true hc
  refine op_wantedF (d := 20) rfl rfl ?_
  refine op_move rfl rfl ?_
  refine op_wantedF (d := 20) rfl rfl ?_
  refine op_eql rfl rfl rfl ?_
  refine op_pickT rfl rfl rfl ?_
  refine op_move rfl rfl ?_
  refine op_cases (d := 24) rfl (fun hc => ?_) (fun hc => absurd (of_decide_eq_false hc) (by exact fun h => h rfl))
  have hc := of_decide_eq_true hc
  refine op_wantedF (d := 24) rfl rfl ?_
  refine op_field (o' := 5) fa_56_3 rfl rfl rfl ?_
  refine op_wantedF (d := 24) rfl rfl ?_
  refine op_load Try.isAgg54 rfl (cell_own (hS.at_ 2 rfl) rfl) rfl ?_
  refine op_wantedF (d := 24) rfl rfl ?_
  refine op_len Try.underlying54 rfl rfl ?_
  refine op_wantedF (d := 24) rfl rfl ?_
  refine op_eql rfl rfl rfl ?_
  refine op_pickT rfl rfl rfl ?_
  refine op_move rfl rfl ?_
  refine op_cases (d := 30) rfl (fun hc => ?_) (fun hc => absurd (of_decide_eq_false hc) (by exact fun h => h rfl))
  have hc := of_decide_eq_true hc
  refine op_wantedF (d := 30) rfl rfl ?_
  refine op_field (o' := 5) fa_56_3 rfl rfl rfl ?_
  refine op_wantedF (d := 30) rfl rfl ?_
  refine op_load Try.isAgg54 rfl (cell_own (hS.at_ 2 rfl) rfl) rfl ?_
  refine op_wantedF (d := 30) rfl rfl ?_
  refine op_indexA (j := 0) Try.underlying54 Try.sizeOf69 rfl rfl rfl (by omega) (Nat.add_zero _) rfl ?_
  refine op_wantedF (d := 30) rfl rfl ?_
  refine op_field fa_69_3 rfl rfl rfl ?_
  refine op_wantedF (d := 30) rfl rfl ?_
  refine op_load Try.isAgg23 rfl (k1) rfl ?_
  refine op_wantedF (d := 30) rfl rfl ?_
  refine op_len Try.underlying23 rfl rfl ?_
  refine op_wantedF (d := 30) rfl rfl ?_
  refine op_eql rfl rfl rfl ?_
  refine op_pickT rfl rfl rfl ?_
  refine op_move rfl rfl ?_
  refine op_cases (d := 39) rfl (fun hc => ?_) (fun hc => absurd (of_decide_eq_false hc) (by exact fun h => h rfl))
  have hc := of_decide_eq_true hc
  refine op_wantedF (d := 39) rfl rfl ?_
  refine op_field (o' := 5) fa_56_3 rfl rfl rfl ?_
  refine op_wantedF (d := 39) rfl rfl ?_
  refine op_load Try.isAgg54 rfl (cell_own (hS.at_ 2 rfl) rfl) rfl ?_
  refine op_wantedF (d := 39) rfl rfl ?_
  refine op_indexA (j := 0) Try.underlying54 Try.sizeOf69 rfl rfl rfl (by omega) (Nat.add_zero _) rfl ?_
  refine op_wantedF (d := 39) rfl rfl ?_
  refine op_field fa_69_3 rfl rfl rfl ?_
  refine op_wantedF (d := 39) rfl rfl ?_
  refine op_load Try.isAgg23 rfl (k1) rfl ?_
  refine op_wantedF (d := 39) rfl rfl ?_
  refine op_indexA (j := 0) Try.underlying23 Try.sizeOf3 rfl rfl rfl (by omega) (Nat.add_zero _) rfl ?_
  refine op_wantedF (d := 39) rfl rfl ?_
  refine op_load Try.isAgg3 rfl (k2) rfl ?_
  refine op_wantedF (d := 39) rfl rfl ?_
  refine op_eql rfl rfl rfl ?_
  refine op_pickT rfl rfl rfl ?_
  refine op_move rfl rfl ?_
  refine op_cases (d := 49) rfl (fun hc => ?_) (fun hc => absurd (of_decide_eq_false hc) (by exact fun h => h rfl))
  have hc := of_decide_eq_true hc
  refine op_wantedF (d := 49) rfl rfl ?_
  refine op_field (o' := 5) fa_56_3 rfl rfl rfl ?_
  refine op_wantedF (d := 49) rfl rfl ?_
  refine op_load Try.isAgg54 rfl (cell_own (hS.at_ 2 rfl) rfl) rfl ?_
  refine op_wantedF (d := 49) rfl rfl ?_
  refine op_indexA (j := 0) Try.underlying54 Try.sizeOf69 rfl rfl rfl (by omega) (Nat.add_zero _) rfl ?_
  refine op_wantedF (d := 49) rfl rfl ?_
  refine op_field fa_69_3 rfl rfl rfl ?_
  refine op_wantedF (d := 49) rfl rfl ?_
  refine op_load Try.isAgg23 rfl (k1) rfl ?_
  refine op_wantedF (d := 49) rfl rfl ?_
  refine op_indexA (j := 1) Try.underlying23 Try.sizeOf3 rfl rfl rfl (by omega) rfl rfl ?_
  refine op_wantedF (d := 49) rfl rfl ?_
  refine op_load Try.isAgg3 rfl (k3) rfl ?_
  refine op_wantedF (d := 49) rfl rfl ?_
  refine op_eql rfl rfl rfl ?_
  refine op_pickT rfl rfl rfl ?_
  refine op_move rfl rfl ?_
  refine op_cases (d := 59) rfl (fun hc => ?_) (fun hc => absurd (of_decide_eq_false hc) (by exact fun h => h rfl))
  have hc := of_decide_eq_true hc
  refine op_wantedF (d := 59) rfl rfl ?_
  refine op_field (o' := 5) fa_56_3 rfl rfl rfl ?_
  refine op_wantedF (d := 59) rfl rfl ?_
  refine op_load Try.isAgg54 rfl (cell_own (hS.at_ 2 rfl) rfl) rfl ?_
  refine op_wantedF (d := 59) rfl rfl ?_
  refine op_indexA (j := 4) Try.underlying54 Try.sizeOf69 rfl rfl rfl (by omega) rfl rfl ?_
  refine op_wantedF (d := 59) rfl rfl ?_
  refine op_field fa_69_3 rfl rfl rfl ?_
  refine op_wantedF (d := 59) rfl rfl ?_
  refine op_load Try.isAgg23 rfl (k4) rfl ?_
  refine op_wantedF (d := 59) rfl rfl ?_
  refine op_len Try.underlying23 rfl rfl ?_
  refine op_wantedF (d := 59) rfl rfl ?_
  refine op_eql rfl rfl rfl ?_
  refine op_pickT rfl rfl rfl ?_
  refine op_move rfl rfl ?_
  refine op_cases (d := 68) rfl (fun hc => ?_) (fun hc => absurd (of_decide_eq_false hc) (by exact fun h => h rfl))
  have hc := of_decide_eq_true hc
  refine op_wantedF (d := 68) rfl rfl ?_
  refine op_field (o' := 5) fa_56_3 rfl rfl rfl ?_
  refine op_wantedF (d := 68) rfl rfl ?_
  refine op_load Try.isAgg54 rfl (cell_own (hS.at_ 2 rfl) rfl) rfl ?_
  refine op_wantedF (d := 68) rfl rfl ?_
  refine op_indexA (j := 4) Try.underlying54 Try.sizeOf69 rfl rfl rfl (by omega) rfl rfl ?_
  refine op_wantedF (d := 68) rfl rfl ?_
  refine op_field fa_69_1 rfl rfl rfl ?_
  refine op_wantedF (d := 68) rfl rfl ?_
  refine op_load Try.isAgg3 rfl (k5) rfl ?_
  refine op_wantedF (d := 68) rfl rfl ?_
  refine op_eql rfl rfl rfl ?_
  refine op_pickT rfl rfl rfl ?_
  refine op_move rfl rfl ?_
  refine op_cases (d := 76) rfl (fun hc => ?_) (fun hc => absurd (of_decide_eq_false hc) (by exact fun h => h rfl))
  have hc := of_decide_eq_true hc
  refine op_wantedF (d := 76) rfl rfl ?_
  refine op_field (o' := 1) fa_31_1 rfl rfl rfl ?_
  refine op_wantedF (d := 76) rfl rfl ?_
  refine op_load Try.isAgg23 rfl (cell_own (hS.at_ 0 rfl) rfl) rfl ?_
  refine op_wantedF (d := 76) rfl rfl ?_
  refine op_len Try.underlying23 rfl rfl ?_
  refine op_wantedF (d := 76) rfl rfl ?_
  refine op_eql rfl rfl rfl ?_
  refine op_pickT rfl rfl rfl ?_
  refine op_move rfl rfl ?_
  refine op_cases (d := 82) rfl (fun hc => ?_) (fun hc => absurd (of_decide_eq_false hc) (by exact fun h => h rfl))
  have hc := of_decide_eq_true hc
  refine op_wantedF (d := 82) rfl rfl ?_
  refine op_field (o' := 1) fa_31_1 rfl rfl rfl ?_
  refine op_wantedF (d := 82) rfl rfl ?_
  refine op_load Try.isAgg23 rfl (cell_own (hS.at_ 0 rfl) rfl) rfl ?_
  refine op_wantedF (d := 82) rfl rfl ?_
  refine op_indexA (j := 1) Try.underlying23 Try.sizeOf3 rfl rfl rfl (by omega) rfl rfl ?_
  refine op_wantedF (d := 82) rfl rfl ?_
  refine op_load Try.isAgg3 rfl (k6) rfl ?_
  refine op_wantedF (d := 82) rfl rfl ?_
  refine op_eql rfl rfl rfl ?_
  refine op_pickT rfl rfl rfl ?_
  refine op_assign rfl rfl ?_
  refine endF ?_
  refine XF.thenN ?_
  refine retF ?_
  refine XF.res (res1 Try.results6 rfl) ?_
  exact ⟨rbool rfl, hS.below⟩
end Go.Proofs.Ytpinbmjkbkogdaa
namespace Go.Proofs.Ytpinbmjkbkogdaa
open Go Go.RowKit
set_option linter.unusedVariables false
theorem conf_cases (g : GV) (node : Int) (is : List Int) : (∃ c, c ≠ 0 ∧ confE g node is = (c, [])) ∨ ∃ l, confE g node is = (0, node :: l) ∧ checkE g = 0 ∧ inQ node g.ol = true ∧ backs g.ts g.tl is = some l ∧ l.length + 1 ≤ 4096 := by
  by_cases h1 : checkE g = 0
  · cases h2 : inQ node g.ol with
    | false => exact .inl ⟨5, by decide, by unfold confE; rw [if_neg (by rw [h1]; simp), if_pos h2]⟩
    | true =>
      cases h3 : backs g.ts g.tl is with
      | none => exact .inl ⟨5, by decide, by unfold confE; rw [if_neg (by rw [h1]; simp), if_neg (by rw [h2]; simp), h3]⟩
      | some l =>
        by_cases h4 : 4096 < l.length + 1
        · exact .inl ⟨2, by decide, by unfold confE; rw [if_neg (by rw [h1]; simp), if_neg (by rw [h2]; simp), h3]; exact if_pos h4⟩
        · exact .inr ⟨l, by unfold confE; rw [if_neg (by rw [h1]; simp), if_neg (by rw [h2]; simp), h3]; exact if_neg h4, h1, rfl, rfl, by omega⟩
  · exact .inl ⟨_, h1, by unfold confE; rw [if_pos h1]⟩
theorem confRet_no {R : Int × List Int} {w : World} {e : Ending} {w' : World} {c : Int} (h : ConfRet R w e w') (hR : R = (c, [])) (hc : c ≠ 0) : e = .returned (.tuple #[.agg #[.int .i64 0, .slice none 0 0], .int .i64 c]) ∧ Below w.heap.size w w' := by
  subst hR
  obtain ⟨hb, ⟨_, h1⟩ | ⟨h1, _⟩⟩ := h
  · exact ⟨h1, hb⟩
  · exact absurd h1 hc
theorem sitesRet_ok {R : Int × List Int × Int} {w : World} {e : Ending} {w' : World} {n : Int} {l : List Int} (h : SitesRet R w e w') (hR : R = (n, l, 0)) : ∃ a c, e = .returned (.tuple #[.int .i64 n, .slice a l.length c, .int .i64 0]) ∧ RowN w.heap.size w' a c l ∧ Below w.heap.size w w' := by
  subst hR
  obtain ⟨hb, ⟨h1, _⟩ | ⟨_, a, c, h2, h3⟩⟩ := h
  · exact absurd rfl h1
  · exact ⟨a, c, h2, h3, hb⟩
theorem ints_same {a b : Option Addr} {l c l2 c2 : Nat} {ws : List Int} {w : World} (h1 : RowI w a ws) (hl : ws.length = l) (h2 : RowI w b ws) (hl2 : ws.length = l2) (hm : l ≤ 9223372036854775807) : Calls Try.prog 12 #[.slice a l c, .slice b l2 c2] w fun e w' => e = .returned (.bool true) ∧ Below w.heap.size w w' := by
  have h := ints_is a b l c l2 c2 ws ws w h1 hl h2 hl2 hm
  rw [show decide (ws = ws) = true from decide_eq_true rfl] at h
  exact h
end Go.Proofs.Ytpinbmjkbkogdaa
namespace Go.Proofs.Ytpinbmjkbkogdaa
open Go Go.RowKit
set_option linter.unusedVariables false
theorem goes_11 : goesIn Try.prog 11 = true := by kernel_rfl
theorem goes_5 : goesIn Try.prog 5 = true := by kernel_rfl
theorem goes_6 : goesIn Try.prog 6 = true := by kernel_rfl
theorem goes_9 : goesIn Try.prog 9 = true := by kernel_rfl
end Go.Proofs.Ytpinbmjkbkogdaa
namespace Go.Proofs.Ytpinbmjkbkogdaa
open Go Go.RowKit
set_option linter.unusedVariables false
def headsB (g : GV) : Bool :=
  if 64 < g.vl then false else if g.pl < 1 then false else if 1024 < g.pl then false else if g.el ≠ g.pl then false else if g.xl ≠ g.pl then false else if 4096 < g.ol then false else if inQ g.mn g.pl = false then false else if 1024 < g.tl then false else
  if g.os.all (fun y => inQ y g.pl) = false then false else if (List.range g.pl).all (procB g) = false then false else g.ts.all (fun u => inQ u.pr g.pl)
theorem heads_eq (g : GV) : headsB g = (sizedB g && g.ts.all (fun u => inQ u.pr g.pl)) := by
  unfold headsB sizedB
  by_cases h1 : 64 < g.vl
  · rw [if_pos h1, if_pos h1]; rfl
  rw [if_neg h1, if_neg h1]
  by_cases h2 : g.pl < 1
  · rw [if_pos h2, if_pos h2]; rfl
  rw [if_neg h2, if_neg h2]
  by_cases h3 : 1024 < g.pl
  · rw [if_pos h3, if_pos h3]; rfl
  rw [if_neg h3, if_neg h3]
  by_cases h4 : g.el ≠ g.pl
  · rw [if_pos h4, if_pos h4]; rfl
  rw [if_neg h4, if_neg h4]
  by_cases h5 : g.xl ≠ g.pl
  · rw [if_pos h5, if_pos h5]; rfl
  rw [if_neg h5, if_neg h5]
  by_cases h6 : 4096 < g.ol
  · rw [if_pos h6, if_pos h6]; rfl
  rw [if_neg h6, if_neg h6]
  by_cases h7 : inQ g.mn g.pl = false
  · rw [if_pos h7]
    by_cases h8 : 1024 < g.tl
    · rw [if_pos h8]; rfl
    · rw [if_neg h8, if_pos h7]; rfl
  rw [if_neg h7]
  by_cases h8 : 1024 < g.tl
  · rw [if_pos h8, if_pos h8]; rfl
  rw [if_neg h8, if_neg h8, if_neg h7]
  by_cases h9 : g.os.all (fun y => inQ y g.pl) = false
  · rw [if_pos h9, if_pos h9]; rfl
  rw [if_neg h9, if_neg h9]
  cases (List.range g.pl).all (procB g) <;> simp
theorem heads_no {g : GV} (h : headsB g = false) : checkE g = 213 := by
  rw [heads_eq, Bool.and_eq_false_iff] at h
  unfold checkE
  rcases h with h | h
  · rw [if_pos h]
  · split
    · rfl
    · split
      · rfl
      · rw [if_pos (by unfold markedB; rw [if_pos h])]
theorem steps_no {g : GV} (h : stepsB g = false) : checkE g = 213 := by
  unfold checkE
  rw [h, if_pos rfl, ite_self]
theorem marked_no {g : GV} (h : markedB g = false) : checkE g = 213 := by
  unfold checkE
  rw [h, if_pos rfl, ite_self, ite_self]
theorem check_yes {g : GV} (h1 : headsB g = true) (h2 : stepsB g = true) (h3 : g.ns.all (fun u => inQ u.nd g.ol) = true) (h4 : g.ks.all (fun u => inQ u.nd g.ol && inQ u.x g.vl) = true) : checkE g = 0 := by
  rw [heads_eq, Bool.and_eq_true] at h1
  unfold checkE
  rw [if_neg (by rw [h1.1]; simp), if_neg (by rw [h2]; simp), if_neg (by unfold markedB; rw [if_neg (by rw [h1.2]; simp), if_neg (by rw [h3]; simp), h4]; simp)]
theorem points_no {g : GV} (h : g.ns.all (fun u => inQ u.nd g.ol) = false) : checkE g = 213 := marked_no (by
  unfold markedB
  rw [h, if_pos rfl, ite_self])
theorem sinks_no {g : GV} (h : g.ks.all (fun u => inQ u.nd g.ol && inQ u.x g.vl) = false) : checkE g = 213 := marked_no (by
  unfold markedB
  rw [h, ite_self, ite_self])
def siteR (ts : List UV) (s : TV) : Bool := inQ s.s ts.length && (match ts[s.s.toNat]? with | some u => decide (u.fr = s.f) && decide (u.bk = s.t) | none => false)
def refK (g : GV) (s : TV) : Bool :=
  if s.k = 1 then decide (s.x = 0) && decide (s.y = 0)
  else if s.k = 2 ∨ s.k = 4 ∨ s.k = 5 ∨ s.k = 6 then inQ s.x g.vl && decide (s.y = 0)
  else if s.k = 3 then inQ s.x g.vl && inQ s.y g.vl
  else if s.k = 8 then decide (s.x = 0) && (decide (s.y = 0) && siteR g.ts s)
  else false
def stepQ (g : GV) (s : TV) : Bool :=
  if inQ s.f g.ol = false then false else if inQ s.t g.ol = false then false else if ofEq g.os s.f s.t = false then false else if s.kk ≠ 0 ∧ s.k ≠ 2 then false else if s.s ≠ 0 ∧ s.k ≠ 8 then false else refK g s
theorem siteC_eq (ts : List UV) (s : TV) (n : Nat) : siteC ts s n = (siteR ts s && decide (s.s = (n : Int))) := by
  by_cases h : s.s = (n : Int)
  · unfold siteC siteR
    rw [h, decide_eq_true rfl, Bool.true_and, Bool.and_true, Int.toNat_natCast]
    cases hn : ts[n]? with
    | none => rw [Bool.and_false]
    | some u => rw [inQ_of (List.getElem?_eq_some_iff.1 hn).1, Bool.true_and]
  · unfold siteC
    rw [decide_eq_false h, Bool.false_and, Bool.and_false]
theorem step_eq (g : GV) (s : TV) (n : Nat) : stepK g s n = (stepQ g s && (decide (s.k ≠ 8) || decide (s.s = (n : Int)))) := by
  unfold stepK stepQ
  by_cases h1 : inQ s.f g.ol = false
  · rw [if_pos h1, if_pos h1]; rfl
  rw [if_neg h1, if_neg h1]
  by_cases h2 : inQ s.t g.ol = false
  · rw [if_pos h2, if_pos h2]; rfl
  rw [if_neg h2, if_neg h2]
  by_cases h3 : ofEq g.os s.f s.t = false
  · rw [if_pos h3, if_pos h3]; rfl
  rw [if_neg h3, if_neg h3]
  unfold kindB refK
  by_cases k1 : s.k = 1
  · by_cases hk : s.kk = 0 <;> by_cases hz : s.s = 0 <;> simp [k1, hk, hz]
  by_cases k8 : s.k = 8
  · rw [siteC_eq]
    by_cases hk : s.kk = 0 <;> simp [k8, hk, Bool.and_assoc]
  by_cases k2 : s.k = 2
  · by_cases hz : s.s = 0 <;> simp [k2, hz]
  by_cases k3 : s.k = 3
  · by_cases hk : s.kk = 0 <;> by_cases hz : s.s = 0 <;> simp [k3, hk, hz]
  by_cases k4 : s.k = 4
  · by_cases hk : s.kk = 0 <;> by_cases hz : s.s = 0 <;> simp [k4, hk, hz]
  by_cases k5 : s.k = 5
  · by_cases hk : s.kk = 0 <;> by_cases hz : s.s = 0 <;> simp [k5, hk, hz]
  by_cases k6 : s.k = 6
  · by_cases hk : s.kk = 0 <;> by_cases hz : s.s = 0 <;> simp [k6, hk, hz]
  simp [k1, k2, k3, k4, k5, k6, k8]
theorem step_cases {os : List Int} {ol : Nat} (hol : os.length = ol) (s : TV) :
    inQ s.f ol = false ∨ (inQ s.f ol = true ∧ inQ s.t ol = false) ∨ (inQ s.f ol = true ∧ inQ s.t ol = true ∧ ∃ kf kt : Nat, ∃ y1 y2 : Int, s.f = (kf : Int) ∧ s.t = (kt : Int) ∧ kf < ol ∧ kt < ol ∧ os[kf]? = some y1 ∧ os[kt]? = some y2 ∧
      (y1 ≠ y2 ∨ (y1 = y2 ∧ s.kk ≠ 0 ∧ s.k ≠ 2) ∨ (y1 = y2 ∧ s.kk = 0 ∧ s.s ≠ 0 ∧ s.k ≠ 8) ∨ (y1 = y2 ∧ s.kk ≠ 0 ∧ s.k = 2 ∧ s.s ≠ 0 ∧ s.k ≠ 8) ∨ (y1 = y2 ∧ s.kk = 0 ∧ s.s = 0) ∨ (y1 = y2 ∧ s.kk = 0 ∧ s.s ≠ 0 ∧ s.k = 8) ∨ (y1 = y2 ∧ s.kk ≠ 0 ∧ s.k = 2 ∧ s.s = 0))) := by
  cases h1 : inQ s.f ol with
  | false => exact .inl rfl
  | true =>
    refine .inr ?_
    cases h2 : inQ s.t ol with
    | false => exact .inl ⟨rfl, rfl⟩
    | true =>
      refine .inr ⟨rfl, rfl, ?_⟩
      obtain ⟨kf, ef, hf⟩ := inQ_nat h1
      obtain ⟨kt, et, ht⟩ := inQ_nat h2
      refine ⟨kf, kt, os[kf], os[kt], ef, et, hf, ht, List.getElem?_eq_getElem (by omega), List.getElem?_eq_getElem (by omega), ?_⟩
      omega
theorem proc_cases {os : List Int} {ol : Nat} (hol : os.length = ol) (n1 n2 : Int) (p : Nat) :
    inQ n1 ol = false ∨ (inQ n1 ol = true ∧ inQ n2 ol = false) ∨ (inQ n1 ol = true ∧ inQ n2 ol = true ∧ ∃ k1 k2 : Nat, ∃ y1 y2 : Int, n1 = (k1 : Int) ∧ n2 = (k2 : Int) ∧ k1 < ol ∧ k2 < ol ∧ os[k1]? = some y1 ∧ os[k2]? = some y2 ∧ (y1 ≠ (p : Int) ∨ y1 = (p : Int))) := by
  cases h1 : inQ n1 ol with
  | false => exact .inl rfl
  | true =>
    refine .inr ?_
    cases h2 : inQ n2 ol with
    | false => exact .inl ⟨rfl, rfl⟩
    | true =>
      refine .inr ⟨rfl, rfl, ?_⟩
      obtain ⟨kf, ef, hf⟩ := inQ_nat h1
      obtain ⟨kt, et, ht⟩ := inQ_nat h2
      exact ⟨kf, kt, os[kf], os[kt], ef, et, hf, ht, List.getElem?_eq_getElem (by omega), List.getElem?_eq_getElem (by omega), by omega⟩
theorem siteR_cases {ts : List UV} {tl : Nat} (htl : ts.length = tl) (s : TV) :
    s.x ≠ 0 ∨ (s.x = 0 ∧ s.y ≠ 0) ∨ (s.x = 0 ∧ s.y = 0 ∧ inQ s.s tl = false) ∨ (s.x = 0 ∧ s.y = 0 ∧ inQ s.s tl = true ∧ ∃ k : Nat, ∃ u, s.s = (k : Int) ∧ k < tl ∧ ts[k]? = some u ∧ (u.fr ≠ s.f ∨ u.fr = s.f)) := by
  by_cases h1 : s.x = 0
  · by_cases h2 : s.y = 0
    · cases h3 : inQ s.s tl with
      | false => exact .inr (.inr (.inl ⟨h1, h2, rfl⟩))
      | true =>
        obtain ⟨k, e, hk⟩ := inQ_nat h3
        exact .inr (.inr (.inr ⟨h1, h2, rfl, k, ts[k], e, hk, List.getElem?_eq_getElem (by omega), by omega⟩))
    · exact .inr (.inl ⟨h1, h2⟩)
  · exact .inl h1
theorem siteR_out {ts : List UV} {tl : Nat} {s : TV} (htl : ts.length = tl) (h : inQ s.s tl = false) : siteR ts s = false := by
  unfold siteR; rw [htl, h]; rfl
theorem siteR_at {ts : List UV} {tl k : Nat} {s : TV} {u : UV} (htl : ts.length = tl) (e : s.s = (k : Int)) (hk : k < tl) (hu : ts[k]? = some u) : siteR ts s = (decide (u.fr = s.f) && decide (u.bk = s.t)) := by
  unfold siteR; rw [htl, e, inQ_of hk, Int.toNat_natCast, hu]; rfl
end Go.Proofs.Ytpinbmjkbkogdaa
namespace Go.Proofs.Ytpinbmjkbkogdaa
open Go Go.RowKit
set_option linter.unusedVariables false
theorem goes_27 : goesIn Try.prog 27 = true := by kernel_rfl
set_option maxRecDepth 100000 in
set_option maxHeartbeats 4000000 in
theorem in_is (x : Int) (n : Nat) (w : World) :
    Calls Try.prog 27 #[.int .i64 x, .int .i64 (n : Int)] w (fun e w' => e = .returned (.bool (inQ x n)) ∧ Below w.heap.size w w') := by
  refine enterF (args := [.int .i64 x, .int .i64 (n : Int)]) Try.func27 rfl Try.ntmps27 rfl ?_
  have hS := St.start w
  refine seqF ?_
  refine regF ?_
  refine op_assign rfl rfl ?_
  refine endF ?_
  refine XF.thenN ?_
  refine seqF ?_
  refine regF ?_
  refine op_move rfl rfl ?_
  refine op_geq rfl rfl rfl ?_
  refine op_move rfl rfl ?_
  refine op_cases (d := 7) rfl (fun hc => ?_) (fun hc => ?_)
  · have hg7 := of_decide_eq_true hc; clear hc
    refine op_wantedF (d := 7) rfl rfl ?_
    refine op_move rfl rfl ?_
    refine op_wantedF (d := 7) rfl rfl ?_
    refine op_move rfl rfl ?_
    refine op_wantedF (d := 7) rfl rfl ?_
    refine op_lss rfl rfl rfl ?_
    refine op_pickT rfl rfl rfl ?_
    refine op_assign rfl rfl ?_
    refine endF ?_
    refine XF.thenN ?_
    refine retF ?_
    refine XF.res (res1 Try.results27 rfl) ?_
    exact ⟨rbool (by simp [inQ, show 0 ≤ x from hg7]), hS.below⟩
  · have hg7 := of_decide_eq_false hc; clear hc
    refine op_notF (d := 7) rfl rfl rfl rfl ?_
    refine op_notF (d := 7) rfl rfl rfl rfl ?_
    refine op_notF (d := 7) rfl rfl rfl rfl ?_
    refine op_pickF rfl rfl rfl ?_
    refine op_assign rfl rfl ?_
    refine endF ?_
    refine XF.thenN ?_
    refine retF ?_
    refine XF.res (res1 Try.results27 rfl) ?_
    exact ⟨rbool (by simp [inQ]; omega), hS.below⟩

set_option maxRecDepth 100000 in
set_option maxHeartbeats 4000000 in
theorem headsR_c (va : Option Addr) (vl : Nat) (vc : Nat) (pa : Option Addr) (pl : Nat) (pc : Nat) (ea : Option Addr) (el : Nat) (ec : Nat) (es : List Int) (xa : Option Addr) (xl : Nat) (xc : Nat) (xs : List Int) (mn : Int) (oa : Option Addr) (ol : Nat) (oc : Nat) (os : List Int) (sa : Option Addr) (sl : Nat) (sc : Nat) (ss : List TV) (ta : Option Addr) (tl : Nat) (tc : Nat) (ts : List UV) (na : Option Addr) (nl : Nat) (nc : Nat) (ns : List NV) (ka : Option Addr) (kl : Nat) (kc : Nat) (ks : List KV) (w : World) (he : RowI w ea es) (hel : es.length = el) (hx : RowI w xa xs) (hxl : xs.length = xl) (ho : RowI w oa os) (hol : os.length = ol) (hs : RowL TV.sev 7 w sa ss) (hsl : ss.length = sl) (ht : RowL UV.four 4 w ta ts) (htl : ts.length = tl) (hn : RowL NV.two 2 w na ns) (hnl : ns.length = nl) (hk : RowL KV.two 2 w ka ks) (hkl : ks.length = kl) (b1 : vl ≤ 5000) (b2 : pl ≤ 5000) (b3 : el ≤ 5000) (b4 : xl ≤ 5000) (b5 : ol ≤ 5000) (b6 : sl ≤ 5000) (b7 : tl ≤ 5000) (b8 : nl ≤ 5000) (b9 : kl ≤ 5000) :
    Calls Try.prog 25 #[.agg #[.slice va vl vc, .slice pa pl pc, .slice ea el ec, .slice xa xl xc, .int .i64 mn, .slice oa ol oc, .slice sa sl sc, .slice ta tl tc, .slice na nl nc, .slice ka kl kc]] w (fun e w' => e = .returned (.bool (headsB ⟨va, vl, vc, pa, pl, pc, ea, el, ec, es, xa, xl, xc, xs, mn, oa, ol, oc, os, sa, sl, sc, ss, ta, tl, tc, ts, na, nl, nc, ns, ka, kl, kc, ks⟩)) ∧ Below w.heap.size w w') := by
  refine enterF (args := [.agg #[.slice va vl vc, .slice pa pl pc, .slice ea el ec, .slice xa xl xc, .int .i64 mn, .slice oa ol oc, .slice sa sl sc, .slice ta tl tc, .slice na nl nc, .slice ka kl kc]]) Try.func25 rfl Try.ntmps25 rfl ?_
  have hS := St.start w
  refine seqF ?_
  refine regF ?_
  refine op_box (cs := [_, _, _, _, _, _, _, _, _, _]) hS rfl rfl rfl ?_
  clear hS; intro B1 W1 hS
  refine op_assign rfl rfl ?_
  refine endF ?_
  refine XF.thenN ?_
  refine seqF ?_
  refine regB (m := 8) followsM hS (by kernel_rfl) (by kernel_rfl) rfl ?_
  refine bl_cons 1 rfl (isV _) (stab_isV _) (rgV (li := [(1, _)]) rfl (w_free rfl) ⟨g_fr (by kernel_rfl) rfl, trivial⟩ (fun w hw => rn_field (o' := 1) fa_29_1 rfl rfl) (at_top rfl)) ?_
  refine bl_cons 2 rfl (isV _) (stab_isV _) (rgV (li := [(8, _)]) rfl (w_free rfl) ⟨g_dep 0 (by kernel_rfl) (at_dep rfl rfl rfl), trivial⟩ (fun w hw => rn_load Try.isAgg22 rfl ((below_agree hw 0).cell (Nat.zero_le _) (cell_own (hS.at_ 0 rfl) rfl))) (at_top rfl)) ?_
  refine bl_cons 3 rfl (isV _) (stab_isV _) (rgV (li := [(9, _)]) rfl (w_free rfl) ⟨g_dep 1 (by kernel_rfl) (at_dep rfl rfl rfl), trivial⟩ (fun w hw => rn_len Try.underlying22 rfl) (at_top rfl)) ?_
  refine bl_cons 4 rfl (isV _) (stab_isV _) (rgV (li := [(1, _)]) rfl (w_free rfl) ⟨g_fr (by kernel_rfl) rfl, trivial⟩ (fun w hw => rn_field (o' := 5) fa_29_5 rfl rfl) (at_top rfl)) ?_
  refine bl_cons 5 rfl (isV _) (stab_isV _) (rgV (li := [(11, _)]) rfl (w_free rfl) ⟨g_dep 3 (by kernel_rfl) (at_dep rfl rfl rfl), trivial⟩ (fun w hw => rn_load Try.isAgg23 rfl ((below_agree hw 0).cell (Nat.zero_le _) (cell_own (hS.at_ 0 rfl) rfl))) (at_top rfl)) ?_
  refine bl_cons 6 rfl (isV _) (stab_isV _) (rgV (li := [(12, _)]) rfl (w_free rfl) ⟨g_dep 4 (by kernel_rfl) (at_dep rfl rfl rfl), trivial⟩ (fun w hw => rn_len Try.underlying23 rfl) (at_top rfl)) ?_
  refine bl_cons 7 rfl (isV _) (stab_isV _) (rgV (li := [(10, _)]) rfl (w_free rfl) ⟨g_dep 2 (by kernel_rfl) (at_dep rfl rfl rfl), trivial⟩ (fun w hw => rn_assign rfl) (at_top rfl)) ?_
  refine bl_cons 8 rfl (isV _) (stab_isV _) (rgV (li := [(13, _)]) rfl (w_free rfl) ⟨g_dep 5 (by kernel_rfl) (at_dep rfl rfl rfl), trivial⟩ (fun w hw => rn_assign rfl) (at_top rfl)) ?_
  refine bl_nil ?_
  intro W2 hbR hS'
  clear hS; have hS := hS'; clear hS'
  refine fin_v ?_
  refine fin_v ?_
  refine fin_v ?_
  refine fin_v ?_
  refine fin_v ?_
  refine fin_v ?_
  refine fin_v ?_
  refine fin_v ?_
  refine fin_nil ?_
  refine XF.thenN ?_
  refine seqF ?_
  refine seqF ?_
  refine regF ?_
  refine op_field (o' := 0) fa_29_0 rfl rfl rfl ?_
  refine op_load Try.isAgg22 rfl (cell_own (hS.at_ 0 rfl) rfl) rfl ?_
  refine op_len Try.underlying22 rfl rfl ?_
  refine op_gtr rfl rfl rfl ?_
  refine op_move rfl rfl ?_
  refine op_cases (d := 18) rfl (fun hc => ?_) (fun hc => ?_)
  · have hg18 := of_decide_eq_true hc; clear hc
    refine op_notF (d := 18) rfl rfl rfl rfl ?_
    refine op_notF (d := 18) rfl rfl rfl rfl ?_
    refine op_pickT rfl rfl rfl ?_
    refine op_move rfl rfl ?_
    refine op_notF (d := 22) rfl rfl rfl rfl ?_
    refine op_notF (d := 22) rfl rfl rfl rfl ?_
    refine op_pickT rfl rfl rfl ?_
    refine op_move rfl rfl ?_
    refine op_notF (d := 26) rfl rfl rfl rfl ?_
    refine op_notF (d := 26) rfl rfl rfl rfl ?_
    refine op_notF (d := 26) rfl rfl rfl rfl ?_
    refine op_notF (d := 26) rfl rfl rfl rfl ?_
    refine op_notF (d := 26) rfl rfl rfl rfl ?_
    refine op_pickT rfl rfl rfl ?_
    refine op_move rfl rfl ?_
    refine op_notF (d := 33) rfl rfl rfl rfl ?_
    refine op_notF (d := 33) rfl rfl rfl rfl ?_
    refine op_notF (d := 33) rfl rfl rfl rfl ?_
    refine op_notF (d := 33) rfl rfl rfl rfl ?_
    refine op_notF (d := 33) rfl rfl rfl rfl ?_
    refine op_pickT rfl rfl rfl ?_
    refine op_move rfl rfl ?_
    refine op_notF (d := 40) rfl rfl rfl rfl ?_
    refine op_notF (d := 40) rfl rfl rfl rfl ?_
    refine op_pickT rfl rfl rfl ?_
    refine op_move rfl rfl ?_
    refine op_notF (d := 44) rfl rfl rfl rfl ?_
    refine op_notF (d := 44) rfl rfl rfl rfl ?_
    refine op_notF (d := 44) rfl rfl rfl rfl ?_
    refine op_notF (d := 44) rfl rfl rfl rfl ?_
    refine op_notF (d := 44) rfl rfl rfl rfl ?_
    refine op_pickT rfl rfl rfl ?_
    refine op_move rfl rfl ?_
    refine op_notF (d := 51) rfl rfl rfl rfl ?_
    refine op_notF (d := 51) rfl rfl rfl rfl ?_
    refine op_notF (d := 51) rfl rfl rfl rfl ?_
    refine op_notF (d := 51) rfl rfl rfl rfl ?_
    refine op_pickT rfl rfl rfl ?_
    refine endF ?_
    refine XF.thenN ?_
    refine condT rfl ?_
    refine seqF ?_
    refine regF ?_
    refine op_assign rfl rfl ?_
    refine endF ?_
    refine XF.thenN ?_
    refine retF ?_
    refine XF.thenR ?_
    refine XF.res (res1 Try.results25 rfl) ?_
    exact ⟨rbool (by unfold headsB; dsimp only; rw [if_pos (by omega)]), hS.below⟩
  · have hg18 := of_decide_eq_false hc; clear hc
    refine op_wantedF (d := 18) rfl rfl ?_
    refine op_move rfl rfl ?_
    refine op_wantedF (d := 18) rfl rfl ?_
    refine op_lss rfl rfl rfl ?_
    refine op_pickF rfl rfl rfl ?_
    refine op_move rfl rfl ?_
    refine op_cases (d := 22) rfl (fun hc => ?_) (fun hc => ?_)
    · have hg22 := of_decide_eq_true hc; clear hc
      refine op_notF (d := 22) rfl rfl rfl rfl ?_
      refine op_notF (d := 22) rfl rfl rfl rfl ?_
      refine op_pickT rfl rfl rfl ?_
      refine op_move rfl rfl ?_
      refine op_notF (d := 26) rfl rfl rfl rfl ?_
      refine op_notF (d := 26) rfl rfl rfl rfl ?_
      refine op_notF (d := 26) rfl rfl rfl rfl ?_
      refine op_notF (d := 26) rfl rfl rfl rfl ?_
      refine op_notF (d := 26) rfl rfl rfl rfl ?_
      refine op_pickT rfl rfl rfl ?_
      refine op_move rfl rfl ?_
      refine op_notF (d := 33) rfl rfl rfl rfl ?_
      refine op_notF (d := 33) rfl rfl rfl rfl ?_
      refine op_notF (d := 33) rfl rfl rfl rfl ?_
      refine op_notF (d := 33) rfl rfl rfl rfl ?_
      refine op_notF (d := 33) rfl rfl rfl rfl ?_
      refine op_pickT rfl rfl rfl ?_
      refine op_move rfl rfl ?_
      refine op_notF (d := 40) rfl rfl rfl rfl ?_
      refine op_notF (d := 40) rfl rfl rfl rfl ?_
      refine op_pickT rfl rfl rfl ?_
      refine op_move rfl rfl ?_
      refine op_notF (d := 44) rfl rfl rfl rfl ?_
      refine op_notF (d := 44) rfl rfl rfl rfl ?_
      refine op_notF (d := 44) rfl rfl rfl rfl ?_
      refine op_notF (d := 44) rfl rfl rfl rfl ?_
      refine op_notF (d := 44) rfl rfl rfl rfl ?_
      refine op_pickT rfl rfl rfl ?_
      refine op_move rfl rfl ?_
      refine op_notF (d := 51) rfl rfl rfl rfl ?_
      refine op_notF (d := 51) rfl rfl rfl rfl ?_
      refine op_notF (d := 51) rfl rfl rfl rfl ?_
      refine op_notF (d := 51) rfl rfl rfl rfl ?_
      refine op_pickT rfl rfl rfl ?_
      refine endF ?_
      refine XF.thenN ?_
      refine condT rfl ?_
      refine seqF ?_
      refine regF ?_
      refine op_assign rfl rfl ?_
      refine endF ?_
      refine XF.thenN ?_
      refine retF ?_
      refine XF.thenR ?_
      refine XF.res (res1 Try.results25 rfl) ?_
      exact ⟨rbool (by unfold headsB; dsimp only; rw [if_neg (by omega), if_pos (by omega)]), hS.below⟩
    · have hg22 := of_decide_eq_false hc; clear hc
      refine op_wantedF (d := 22) rfl rfl ?_
      refine op_move rfl rfl ?_
      refine op_wantedF (d := 22) rfl rfl ?_
      refine op_gtr rfl rfl rfl ?_
      refine op_pickF rfl rfl rfl ?_
      refine op_move rfl rfl ?_
      refine op_cases (d := 26) rfl (fun hc => ?_) (fun hc => ?_)
      · have hg26 := of_decide_eq_true hc; clear hc
        refine op_notF (d := 26) rfl rfl rfl rfl ?_
        refine op_notF (d := 26) rfl rfl rfl rfl ?_
        refine op_notF (d := 26) rfl rfl rfl rfl ?_
        refine op_notF (d := 26) rfl rfl rfl rfl ?_
        refine op_notF (d := 26) rfl rfl rfl rfl ?_
        refine op_pickT rfl rfl rfl ?_
        refine op_move rfl rfl ?_
        refine op_notF (d := 33) rfl rfl rfl rfl ?_
        refine op_notF (d := 33) rfl rfl rfl rfl ?_
        refine op_notF (d := 33) rfl rfl rfl rfl ?_
        refine op_notF (d := 33) rfl rfl rfl rfl ?_
        refine op_notF (d := 33) rfl rfl rfl rfl ?_
        refine op_pickT rfl rfl rfl ?_
        refine op_move rfl rfl ?_
        refine op_notF (d := 40) rfl rfl rfl rfl ?_
        refine op_notF (d := 40) rfl rfl rfl rfl ?_
        refine op_pickT rfl rfl rfl ?_
        refine op_move rfl rfl ?_
        refine op_notF (d := 44) rfl rfl rfl rfl ?_
        refine op_notF (d := 44) rfl rfl rfl rfl ?_
        refine op_notF (d := 44) rfl rfl rfl rfl ?_
        refine op_notF (d := 44) rfl rfl rfl rfl ?_
        refine op_notF (d := 44) rfl rfl rfl rfl ?_
        refine op_pickT rfl rfl rfl ?_
        refine op_move rfl rfl ?_
        refine op_notF (d := 51) rfl rfl rfl rfl ?_
        refine op_notF (d := 51) rfl rfl rfl rfl ?_
        refine op_notF (d := 51) rfl rfl rfl rfl ?_
        refine op_notF (d := 51) rfl rfl rfl rfl ?_
        refine op_pickT rfl rfl rfl ?_
        refine endF ?_
        refine XF.thenN ?_
        refine condT rfl ?_
        refine seqF ?_
        refine regF ?_
        refine op_assign rfl rfl ?_
        refine endF ?_
        refine XF.thenN ?_
        refine retF ?_
        refine XF.thenR ?_
        refine XF.res (res1 Try.results25 rfl) ?_
        exact ⟨rbool (by unfold headsB; dsimp only; rw [if_neg (by omega), if_neg (by omega), if_pos (by omega)]), hS.below⟩
      · have hg26 := of_decide_eq_false hc; clear hc
        refine op_wantedF (d := 26) rfl rfl ?_
        refine op_field (o' := 2) fa_29_2 rfl rfl rfl ?_
        refine op_wantedF (d := 26) rfl rfl ?_
        refine op_load Try.isAgg23 rfl (cell_own (hS.at_ 0 rfl) rfl) rfl ?_
        refine op_wantedF (d := 26) rfl rfl ?_
        refine op_len Try.underlying23 rfl rfl ?_
        refine op_wantedF (d := 26) rfl rfl ?_
        refine op_move rfl rfl ?_
        refine op_wantedF (d := 26) rfl rfl ?_
        refine op_neq rfl rfl rfl ?_
        refine op_pickF rfl rfl rfl ?_
        refine op_move rfl rfl ?_
        refine op_cases (d := 33) rfl (fun hc => ?_) (fun hc => ?_)
        · have hg33 := of_decide_eq_true hc; clear hc
          refine op_notF (d := 33) rfl rfl rfl rfl ?_
          refine op_notF (d := 33) rfl rfl rfl rfl ?_
          refine op_notF (d := 33) rfl rfl rfl rfl ?_
          refine op_notF (d := 33) rfl rfl rfl rfl ?_
          refine op_notF (d := 33) rfl rfl rfl rfl ?_
          refine op_pickT rfl rfl rfl ?_
          refine op_move rfl rfl ?_
          refine op_notF (d := 40) rfl rfl rfl rfl ?_
          refine op_notF (d := 40) rfl rfl rfl rfl ?_
          refine op_pickT rfl rfl rfl ?_
          refine op_move rfl rfl ?_
          refine op_notF (d := 44) rfl rfl rfl rfl ?_
          refine op_notF (d := 44) rfl rfl rfl rfl ?_
          refine op_notF (d := 44) rfl rfl rfl rfl ?_
          refine op_notF (d := 44) rfl rfl rfl rfl ?_
          refine op_notF (d := 44) rfl rfl rfl rfl ?_
          refine op_pickT rfl rfl rfl ?_
          refine op_move rfl rfl ?_
          refine op_notF (d := 51) rfl rfl rfl rfl ?_
          refine op_notF (d := 51) rfl rfl rfl rfl ?_
          refine op_notF (d := 51) rfl rfl rfl rfl ?_
          refine op_notF (d := 51) rfl rfl rfl rfl ?_
          refine op_pickT rfl rfl rfl ?_
          refine endF ?_
          refine XF.thenN ?_
          refine condT rfl ?_
          refine seqF ?_
          refine regF ?_
          refine op_assign rfl rfl ?_
          refine endF ?_
          refine XF.thenN ?_
          refine retF ?_
          refine XF.thenR ?_
          refine XF.res (res1 Try.results25 rfl) ?_
          exact ⟨rbool (by unfold headsB; dsimp only; rw [if_neg (by omega), if_neg (by omega), if_neg (by omega), if_pos (by omega)]), hS.below⟩
        · have hg33 := of_decide_eq_false hc; clear hc
          refine op_wantedF (d := 33) rfl rfl ?_
          refine op_field (o' := 3) fa_29_3 rfl rfl rfl ?_
          refine op_wantedF (d := 33) rfl rfl ?_
          refine op_load Try.isAgg23 rfl (cell_own (hS.at_ 0 rfl) rfl) rfl ?_
          refine op_wantedF (d := 33) rfl rfl ?_
          refine op_len Try.underlying23 rfl rfl ?_
          refine op_wantedF (d := 33) rfl rfl ?_
          refine op_move rfl rfl ?_
          refine op_wantedF (d := 33) rfl rfl ?_
          refine op_neq rfl rfl rfl ?_
          refine op_pickF rfl rfl rfl ?_
          refine op_move rfl rfl ?_
          refine op_cases (d := 40) rfl (fun hc => ?_) (fun hc => ?_)
          · have hg40 := of_decide_eq_true hc; clear hc
            refine op_notF (d := 40) rfl rfl rfl rfl ?_
            refine op_notF (d := 40) rfl rfl rfl rfl ?_
            refine op_pickT rfl rfl rfl ?_
            refine op_move rfl rfl ?_
            refine op_notF (d := 44) rfl rfl rfl rfl ?_
            refine op_notF (d := 44) rfl rfl rfl rfl ?_
            refine op_notF (d := 44) rfl rfl rfl rfl ?_
            refine op_notF (d := 44) rfl rfl rfl rfl ?_
            refine op_notF (d := 44) rfl rfl rfl rfl ?_
            refine op_pickT rfl rfl rfl ?_
            refine op_move rfl rfl ?_
            refine op_notF (d := 51) rfl rfl rfl rfl ?_
            refine op_notF (d := 51) rfl rfl rfl rfl ?_
            refine op_notF (d := 51) rfl rfl rfl rfl ?_
            refine op_notF (d := 51) rfl rfl rfl rfl ?_
            refine op_pickT rfl rfl rfl ?_
            refine endF ?_
            refine XF.thenN ?_
            refine condT rfl ?_
            refine seqF ?_
            refine regF ?_
            refine op_assign rfl rfl ?_
            refine endF ?_
            refine XF.thenN ?_
            refine retF ?_
            refine XF.thenR ?_
            refine XF.res (res1 Try.results25 rfl) ?_
            exact ⟨rbool (by unfold headsB; dsimp only; rw [if_neg (by omega), if_neg (by omega), if_neg (by omega), if_neg (by omega), if_pos (by omega)]), hS.below⟩
          · have hg40 := of_decide_eq_false hc; clear hc
            refine op_wantedF (d := 40) rfl rfl ?_
            refine op_move rfl rfl ?_
            refine op_wantedF (d := 40) rfl rfl ?_
            refine op_gtr rfl rfl rfl ?_
            refine op_pickF rfl rfl rfl ?_
            refine op_move rfl rfl ?_
            refine op_cases (d := 44) rfl (fun hc => ?_) (fun hc => ?_)
            · have hg44 := of_decide_eq_true hc; clear hc
              refine op_notF (d := 44) rfl rfl rfl rfl ?_
              refine op_notF (d := 44) rfl rfl rfl rfl ?_
              refine op_notF (d := 44) rfl rfl rfl rfl ?_
              refine op_notF (d := 44) rfl rfl rfl rfl ?_
              refine op_notF (d := 44) rfl rfl rfl rfl ?_
              refine op_pickT rfl rfl rfl ?_
              refine op_move rfl rfl ?_
              refine op_notF (d := 51) rfl rfl rfl rfl ?_
              refine op_notF (d := 51) rfl rfl rfl rfl ?_
              refine op_notF (d := 51) rfl rfl rfl rfl ?_
              refine op_notF (d := 51) rfl rfl rfl rfl ?_
              refine op_pickT rfl rfl rfl ?_
              refine endF ?_
              refine XF.thenN ?_
              refine condT rfl ?_
              refine seqF ?_
              refine regF ?_
              refine op_assign rfl rfl ?_
              refine endF ?_
              refine XF.thenN ?_
              refine retF ?_
              refine XF.thenR ?_
              refine XF.res (res1 Try.results25 rfl) ?_
              exact ⟨rbool (by unfold headsB; dsimp only; rw [if_neg (by omega), if_neg (by omega), if_neg (by omega), if_neg (by omega), if_neg (by omega), if_pos (by omega)]), hS.below⟩
            · have hg44 := of_decide_eq_false hc; clear hc
              refine op_wantedF (d := 44) rfl rfl ?_
              refine op_field (o' := 4) fa_29_4 rfl rfl rfl ?_
              refine op_wantedF (d := 44) rfl rfl ?_
              refine op_load Try.isAgg3 rfl (cell_own (hS.at_ 0 rfl) rfl) rfl ?_
              refine op_wantedF (d := 44) rfl rfl ?_
              refine op_move rfl rfl ?_
              refine op_wantedF (d := 44) rfl rfl ?_
              refine op_call (vs := [_, _]) hS goes_27 rfl (in_is mn pl _) rfl ?_
              rintro e W3 ⟨rfl, hb⟩
              refine ⟨_, rfl, hb, fun hS' => ?_⟩
              clear hS; have hS := hS'; clear hS' hb
              refine op_wantedF (d := 44) rfl rfl ?_
              refine op_not rfl rfl ?_
              refine op_pickF rfl rfl rfl ?_
              refine op_move rfl rfl ?_
              refine op_cases (d := 51) rfl (fun hc => ?_) (fun hc => ?_)
              · have hg51 := hc; clear hc
                refine op_notF (d := 51) rfl rfl rfl rfl ?_
                refine op_notF (d := 51) rfl rfl rfl rfl ?_
                refine op_notF (d := 51) rfl rfl rfl rfl ?_
                refine op_notF (d := 51) rfl rfl rfl rfl ?_
                refine op_pickT rfl rfl rfl ?_
                refine endF ?_
                refine XF.thenN ?_
                refine condT rfl ?_
                refine seqF ?_
                refine regF ?_
                refine op_assign rfl rfl ?_
                refine endF ?_
                refine XF.thenN ?_
                refine retF ?_
                refine XF.thenR ?_
                refine XF.res (res1 Try.results25 rfl) ?_
                exact ⟨rbool (by unfold headsB; dsimp only; rw [if_neg (by omega), if_neg (by omega), if_neg (by omega), if_neg (by omega), if_neg (by omega), if_neg (by omega), if_pos (by simpa using hg51)]), hS.below⟩
              · have hg51 := hc; clear hc
                have hmn : inQ mn pl = true := by simpa using hg51
                refine op_wantedF (d := 51) rfl rfl ?_
                refine op_field (o' := 7) fa_29_7 rfl rfl rfl ?_
                refine op_wantedF (d := 51) rfl rfl ?_
                refine op_load Try.isAgg25 rfl (cell_own (hS.at_ 0 rfl) rfl) rfl ?_
                refine op_wantedF (d := 51) rfl rfl ?_
                refine op_len Try.underlying25 rfl rfl ?_
                refine op_wantedF (d := 51) rfl rfl ?_
                refine op_gtr rfl rfl rfl ?_
                refine op_pickF rfl rfl rfl ?_
                refine endF ?_
                refine XF.thenN ?_
                refine condF rfl (fun hc => ?_) (fun hc => ?_)
                · have hc56 := of_decide_eq_true hc; clear hc
                  refine seqF ?_
                  refine regF ?_
                  refine op_assign rfl rfl ?_
                  refine endF ?_
                  refine XF.thenN ?_
                  refine retF ?_
                  refine XF.thenR ?_
                  refine XF.res (res1 Try.results25 rfl) ?_
                  exact ⟨rbool (by unfold headsB; dsimp only; rw [if_neg (by omega), if_neg (by omega), if_neg (by omega), if_neg (by omega), if_neg (by omega), if_neg (by omega), if_neg (by rw [hmn]; simp), if_pos (by omega)]), hS.below⟩
                · have hc56 := of_decide_eq_false hc; clear hc
                  refine skipF ?_
                  refine XF.thenN ?_
                  refine seqF ?_
                  refine seqF ?_
                  refine regF ?_
                  refine op_assign rfl rfl ?_
                  refine endF ?_
                  refine XF.thenN ?_
                  refine blockF ?_
                  refine loopF (fun m l W => ∃ i : Nat, i ≤ ol ∧ m = ol - i ∧ l = [(1, .pointer (some ⟨B1, 0, none⟩)), (3, .int .i64 (pl : Int)), (4, .int .i64 (ol : Int)), (5, .int .i64 (i : Int))] ∧ (os.take i).all (fun y => inQ y pl) = true ∧ St w [(B1, [.slice va vl vc, .slice pa pl pc, .slice ea el ec, .slice xa xl xc, .int .i64 mn, .slice oa ol oc, .slice sa sl sc, .slice ta tl tc, .slice na nl nc, .slice ka kl kc], 29)] [] [] W) (ol - 0) ([(1, _), (3, _), (4, _), (5, _)]) ⟨rfl, rfl, rfl, rfl, trivial⟩ (⟨0, Nat.zero_le _, rfl, rfl, rfl, hS.clear⟩) ?_
                  clear hS
                  rintro m l W ⟨i, hi, rfl, rfl, hall, hS⟩
                  refine seqF ?_
                  refine seqF ?_
                  refine regF ?_
                  refine op_move rfl rfl ?_
                  refine op_move rfl rfl ?_
                  refine op_lss rfl rfl rfl ?_
                  refine endF ?_
                  refine XF.thenN ?_
                  refine condF rfl (fun hc => ?_) (fun hc => ?_)
                  · have hc59 := of_decide_eq_true hc; clear hc
                    have hk1 : i < ol := by omega
                    obtain ⟨b, off, y, rfl, hy, hyc⟩ := ho.get (i := i) (by omega)
                    have k1 := (CellsAt.agree hS.agree (Nat.zero_le _) hyc).1
                    refine skipF ?_
                    refine XF.thenN ?_
                    refine seqF ?_
                    refine blockF ?_
                    refine seqF ?_
                    refine regF ?_
                    refine op_field (o' := 5) fa_29_5 rfl rfl rfl ?_
                    refine op_load Try.isAgg23 rfl (cell_own (hS.at_ 0 rfl) rfl) rfl ?_
                    refine op_move rfl rfl ?_
                    refine op_indexA  Try.underlying23 Try.sizeOf3 rfl rfl rfl (by omega) rfl rfl ?_
                    refine op_load Try.isAgg3 rfl (k1) rfl ?_
                    refine op_move rfl rfl ?_
                    refine op_call (vs := [_, _]) hS goes_27 rfl (in_is y pl _) rfl ?_
                    rintro e W4 ⟨rfl, hb⟩
                    refine ⟨_, rfl, hb, fun hS' => ?_⟩
                    clear hS; have hS := hS'; clear hS' hb
                    refine op_not rfl rfl ?_
                    refine endF ?_
                    refine XF.thenN ?_
                    refine condF rfl (fun hc => ?_) (fun hc => ?_)
                    · have hc69 := hc; clear hc
                      refine seqF ?_
                      refine regF ?_
                      refine op_assign rfl rfl ?_
                      refine endF ?_
                      refine XF.thenN ?_
                      refine retF ?_
                      refine XF.blkR ?_
                      refine XF.thenR ?_
                      refine XF.thenR ?_
                      refine XF.blkR ?_
                      refine XF.thenR ?_
                      refine XF.res (res1 Try.results25 rfl) ?_
                      exact ⟨rbool (by unfold headsB; dsimp only; rw [if_neg (by omega), if_neg (by omega), if_neg (by omega), if_neg (by omega), if_neg (by omega), if_neg (by omega), if_neg (by rw [hmn]; simp), if_neg (by omega), if_pos (all_false_at hy (by simpa using hc69))]), hS.below⟩
                    · have hc69 := hc; clear hc
                      refine skipF ?_
                      refine XF.blkN ?_
                      refine XF.thenN ?_
                      refine regF ?_
                      refine op_move rfl rfl ?_
                      refine op_add rfl rfl (IntWalk.i64_in _ (by omega)) rfl ?_
                      refine op_assign rfl rfl ?_
                      refine endF ?_
                      exact XF.round (ol - (i + 1)) [(1, _), (3, _), (4, _), (5, _)] (by omega) ⟨rfl, rfl, rfl, rfl, trivial⟩ ⟨i + 1, by omega, rfl, rfl, all_take_at hy hall (by simpa using hc69), hS.clear⟩
                  · have hc59 := of_decide_eq_false hc; clear hc
                    rw [List.take_of_length_le (by omega)] at hall
                    refine exitF ?_
                    refine XF.thenX ?_
                    refine XF.thenX ?_
                    refine XF.blkX ?_
                    refine XF.thenN ?_
                    refine seqF ?_
                    refine seqF ?_
                    refine regF ?_
                    refine op_assign rfl rfl ?_
                    refine endF ?_
                    refine XF.thenN ?_
                    refine blockF ?_
                    refine loopF (fun m l W => ∃ i : Nat, i ≤ pl ∧ m = pl - i ∧ l = [(1, .pointer (some ⟨B1, 0, none⟩)), (3, .int .i64 (pl : Int)), (4, .int .i64 (ol : Int)), (6, .int .i64 (i : Int))] ∧ (List.range i).all (procB ⟨va, vl, vc, pa, pl, pc, ea, el, ec, es, xa, xl, xc, xs, mn, oa, ol, oc, os, sa, sl, sc, ss, ta, tl, tc, ts, na, nl, nc, ns, ka, kl, kc, ks⟩) = true ∧ St w [(B1, [.slice va vl vc, .slice pa pl pc, .slice ea el ec, .slice xa xl xc, .int .i64 mn, .slice oa ol oc, .slice sa sl sc, .slice ta tl tc, .slice na nl nc, .slice ka kl kc], 29)] [] [] W) (pl - 0) ([(1, _), (3, _), (4, _), (6, _)]) ⟨rfl, rfl, rfl, rfl, trivial⟩ (⟨0, Nat.zero_le _, rfl, rfl, rfl, hS.clear⟩) ?_
                    clear hS
                    rintro m l W ⟨i, hi, rfl, rfl, hpr, hS⟩
                    refine seqF ?_
                    refine seqF ?_
                    refine regF ?_
                    refine op_move rfl rfl ?_
                    refine op_move rfl rfl ?_
                    refine op_lss rfl rfl rfl ?_
                    refine endF ?_
                    refine XF.thenN ?_
                    refine condF rfl (fun hc => ?_) (fun hc => ?_)
                    · have hc72 := of_decide_eq_true hc; clear hc
                      have hi1 : i < pl := by omega
                      obtain ⟨eb, eo, n1, rfl, hn1, hnc1⟩ := he.get (i := i) (by omega)
                      obtain ⟨xb, xo, n2, rfl, hn2, hnc2⟩ := hx.get (i := i) (by omega)
                      have k1 := (CellsAt.agree hS.agree (Nat.zero_le _) hnc1).1
                      have k2 := (CellsAt.agree hS.agree (Nat.zero_le _) hnc2).1
                      refine skipF ?_
                      refine XF.thenN ?_
                      refine seqF ?_
                      refine blockF ?_
                      refine seqF ?_
                      rcases (proc_cases hol n1 n2 i) with h1 | ⟨h1, h2⟩ | ⟨h1, h2, q1, q2, y1, y2, rfl, rfl, hq1, hq2, hy1, hy2, hne | hee⟩
                      · skip
                        refine regB (m := 44) followsM hS (by kernel_rfl) (by kernel_rfl) rfl ?_
                        refine bl_cons 1 rfl (isV _) (stab_isV _) (rgV (li := [(1, _)]) rfl (w_free rfl) ⟨g_fr (by kernel_rfl) rfl, trivial⟩ (fun w hw => rn_field (o' := 2) fa_29_2 rfl rfl) (at_top rfl)) ?_
                        refine bl_cons 2 rfl (isV _) (stab_isV _) (rgV (li := [(75, _)]) rfl (w_free rfl) ⟨g_dep 0 (by kernel_rfl) (at_dep rfl rfl rfl), trivial⟩ (fun w hw => rn_load Try.isAgg23 rfl ((below_agree hw 0).cell (Nat.zero_le _) (cell_own (hS.at_ 0 rfl) rfl))) (at_top rfl)) ?_
                        refine bl_cons 3 rfl (isV _) (stab_isV _) (rgV (li := [(6, _)]) rfl (w_free rfl) ⟨g_fr (by kernel_rfl) rfl, trivial⟩ (fun w hw => rn_move rfl) (at_top rfl)) ?_
                        refine bl_cons 4 rfl (isV _) (stab_isV _) (rgV (li := [(76, _), (77, _)]) rfl (w_free rfl) ⟨g_dep 1 (by kernel_rfl) (at_dep rfl rfl rfl), g_dep 2 (by kernel_rfl) (at_dep rfl rfl rfl), trivial⟩ (fun w hw => rn_indexA  Try.underlying23 Try.sizeOf3 rfl rfl rfl (by omega) rfl) (at_top rfl)) ?_
                        refine bl_cons 5 rfl (isV _) (stab_isV _) (rgV (li := [(78, _)]) rfl (w_free rfl) ⟨g_dep 3 (by kernel_rfl) (at_dep rfl rfl rfl), trivial⟩ (fun w hw => rn_load Try.isAgg3 rfl ((below_agree hw 0).cell (Nat.zero_le _) (k1))) (at_top rfl)) ?_
                        refine bl_cons 6 rfl (isV _) (stab_isV _) (rgV (li := [(4, _)]) rfl (w_free rfl) ⟨g_fr (by kernel_rfl) rfl, trivial⟩ (fun w hw => rn_move rfl) (at_top rfl)) ?_
                        refine bl_cons 7 rfl (isV (.bool false)) (stab_isV _) (rg_call [isV _, isV _] rfl goes_27 (w_free rfl) ⟨p_tmp (g_dep 4 (by kernel_rfl) (at_dep rfl rfl rfl)), p_tmp (g_dep 5 (by kernel_rfl) (at_dep rfl rfl rfl)), trivial⟩ (fun vs w' hb hh => by have e := holds_isV (us := [_, _]) hh; subst e; exact (in_is n1 _ _).mono fun e w2 h => ⟨_, by rw [h.1, h1], rfl, h.2⟩) (at_top rfl)) ?_
                        refine bl_cons 8 rfl (isV _) (stab_isV _) (rgV (li := [(81, _)]) rfl (w_free rfl) ⟨g_dep 6 (by kernel_rfl) (at_dep rfl rfl rfl), trivial⟩ (fun w hw => rn_not rfl) (at_top rfl)) ?_
                        refine bl_cons 9 rfl (isV _) (stab_isV _) (rgV (li := [(82, _)]) rfl (w_free rfl) ⟨g_dep 7 (by kernel_rfl) (at_dep rfl rfl rfl), trivial⟩ (fun w hw => rn_move rfl) (at_top rfl)) ?_
                        refine bl_cons 10 rfl (isV undef) (stab_isV _) (rg_no rfl (w_no 83 rfl (by kernel_rfl) (by kernel_rfl) (at_dep rfl rfl rfl) rfl) (at_top rfl)) ?_
                        refine bl_cons 11 rfl (isV undef) (stab_isV _) (rg_no rfl (w_no 83 rfl (by kernel_rfl) (by kernel_rfl) (at_dep rfl rfl rfl) rfl) (at_top rfl)) ?_
                        refine bl_cons 12 rfl (isV undef) (stab_isV _) (rg_no rfl (w_no 83 rfl (by kernel_rfl) (by kernel_rfl) (at_dep rfl rfl rfl) rfl) (at_top rfl)) ?_
                        refine bl_cons 13 rfl (isV undef) (stab_isV _) (rg_no rfl (w_no 83 rfl (by kernel_rfl) (by kernel_rfl) (at_dep rfl rfl rfl) rfl) (at_top rfl)) ?_
                        refine bl_cons 14 rfl (isV undef) (stab_isV _) (rg_no rfl (w_no 83 rfl (by kernel_rfl) (by kernel_rfl) (at_dep rfl rfl rfl) rfl) (at_top rfl)) ?_
                        refine bl_cons 15 rfl (isV undef) (stab_isV _) (rg_no rfl (w_no 83 rfl (by kernel_rfl) (by kernel_rfl) (at_dep rfl rfl rfl) rfl) (at_top rfl)) ?_
                        refine bl_cons 16 rfl (isV undef) (stab_isV _) (rg_no rfl (w_no 83 rfl (by kernel_rfl) (by kernel_rfl) (at_dep rfl rfl rfl) rfl) (at_top rfl)) ?_
                        refine bl_cons 17 rfl (isV undef) (stab_isV _) (rg_no rfl (w_no 83 rfl (by kernel_rfl) (by kernel_rfl) (at_dep rfl rfl rfl) rfl) (at_top rfl)) ?_
                        refine bl_cons 18 rfl (isV _) (stab_isV _) (rgV (li := [(83, _)]) rfl (w_free rfl) ⟨g_dep 8 (by kernel_rfl) (at_dep rfl rfl rfl), trivial⟩ (fun w hw => rn_pickT rfl rfl) (at_top rfl)) ?_
                        refine bl_cons 19 rfl (isV _) (stab_isV _) (rgV (li := [(92, _)]) rfl (w_free rfl) ⟨g_dep 17 (by kernel_rfl) (at_dep rfl rfl rfl), trivial⟩ (fun w hw => rn_move rfl) (at_top rfl)) ?_
                        refine bl_cons 20 rfl (isV undef) (stab_isV _) (rg_no rfl (w_no 93 rfl (by kernel_rfl) (by kernel_rfl) (at_dep rfl rfl rfl) rfl) (at_top rfl)) ?_
                        refine bl_cons 21 rfl (isV undef) (stab_isV _) (rg_no rfl (w_no 93 rfl (by kernel_rfl) (by kernel_rfl) (at_dep rfl rfl rfl) rfl) (at_top rfl)) ?_
                        refine bl_cons 22 rfl (isV undef) (stab_isV _) (rg_no rfl (w_no 93 rfl (by kernel_rfl) (by kernel_rfl) (at_dep rfl rfl rfl) rfl) (at_top rfl)) ?_
                        refine bl_cons 23 rfl (isV undef) (stab_isV _) (rg_no rfl (w_no 93 rfl (by kernel_rfl) (by kernel_rfl) (at_dep rfl rfl rfl) rfl) (at_top rfl)) ?_
                        refine bl_cons 24 rfl (isV undef) (stab_isV _) (rg_no rfl (w_no 93 rfl (by kernel_rfl) (by kernel_rfl) (at_dep rfl rfl rfl) rfl) (at_top rfl)) ?_
                        refine bl_cons 25 rfl (isV undef) (stab_isV _) (rg_no rfl (w_no 93 rfl (by kernel_rfl) (by kernel_rfl) (at_dep rfl rfl rfl) rfl) (at_top rfl)) ?_
                        refine bl_cons 26 rfl (isV undef) (stab_isV _) (rg_no rfl (w_no 93 rfl (by kernel_rfl) (by kernel_rfl) (at_dep rfl rfl rfl) rfl) (at_top rfl)) ?_
                        refine bl_cons 27 rfl (isV undef) (stab_isV _) (rg_no rfl (w_no 93 rfl (by kernel_rfl) (by kernel_rfl) (at_dep rfl rfl rfl) rfl) (at_top rfl)) ?_
                        refine bl_cons 28 rfl (isV undef) (stab_isV _) (rg_no rfl (w_no 93 rfl (by kernel_rfl) (by kernel_rfl) (at_dep rfl rfl rfl) rfl) (at_top rfl)) ?_
                        refine bl_cons 29 rfl (isV undef) (stab_isV _) (rg_no rfl (w_no 93 rfl (by kernel_rfl) (by kernel_rfl) (at_dep rfl rfl rfl) rfl) (at_top rfl)) ?_
                        refine bl_cons 30 rfl (isV undef) (stab_isV _) (rg_no rfl (w_no 93 rfl (by kernel_rfl) (by kernel_rfl) (at_dep rfl rfl rfl) rfl) (at_top rfl)) ?_
                        refine bl_cons 31 rfl (isV _) (stab_isV _) (rgV (li := [(93, _)]) rfl (w_free rfl) ⟨g_dep 18 (by kernel_rfl) (at_dep rfl rfl rfl), trivial⟩ (fun w hw => rn_pickT rfl rfl) (at_top rfl)) ?_
                        refine bl_cons 32 rfl (isV _) (stab_isV _) (rgV (li := [(105, _)]) rfl (w_free rfl) ⟨g_dep 30 (by kernel_rfl) (at_dep rfl rfl rfl), trivial⟩ (fun w hw => rn_move rfl) (at_top rfl)) ?_
                        refine bl_cons 33 rfl (isV undef) (stab_isV _) (rg_no rfl (w_no 106 rfl (by kernel_rfl) (by kernel_rfl) (at_dep rfl rfl rfl) rfl) (at_top rfl)) ?_
                        refine bl_cons 34 rfl (isV undef) (stab_isV _) (rg_no rfl (w_no 106 rfl (by kernel_rfl) (by kernel_rfl) (at_dep rfl rfl rfl) rfl) (at_top rfl)) ?_
                        refine bl_cons 35 rfl (isV undef) (stab_isV _) (rg_no rfl (w_no 106 rfl (by kernel_rfl) (by kernel_rfl) (at_dep rfl rfl rfl) rfl) (at_top rfl)) ?_
                        refine bl_cons 36 rfl (isV undef) (stab_isV _) (rg_no rfl (w_no 106 rfl (by kernel_rfl) (by kernel_rfl) (at_dep rfl rfl rfl) rfl) (at_top rfl)) ?_
                        refine bl_cons 37 rfl (isV undef) (stab_isV _) (rg_no rfl (w_no 106 rfl (by kernel_rfl) (by kernel_rfl) (at_dep rfl rfl rfl) rfl) (at_top rfl)) ?_
                        refine bl_cons 38 rfl (isV undef) (stab_isV _) (rg_no rfl (w_no 106 rfl (by kernel_rfl) (by kernel_rfl) (at_dep rfl rfl rfl) rfl) (at_top rfl)) ?_
                        refine bl_cons 39 rfl (isV undef) (stab_isV _) (rg_no rfl (w_no 106 rfl (by kernel_rfl) (by kernel_rfl) (at_dep rfl rfl rfl) rfl) (at_top rfl)) ?_
                        refine bl_cons 40 rfl (isV undef) (stab_isV _) (rg_no rfl (w_no 106 rfl (by kernel_rfl) (by kernel_rfl) (at_dep rfl rfl rfl) rfl) (at_top rfl)) ?_
                        refine bl_cons 41 rfl (isV undef) (stab_isV _) (rg_no rfl (w_no 106 rfl (by kernel_rfl) (by kernel_rfl) (at_dep rfl rfl rfl) rfl) (at_top rfl)) ?_
                        refine bl_cons 42 rfl (isV undef) (stab_isV _) (rg_no rfl (w_no 106 rfl (by kernel_rfl) (by kernel_rfl) (at_dep rfl rfl rfl) rfl) (at_top rfl)) ?_
                        refine bl_cons 43 rfl (isV undef) (stab_isV _) (rg_no rfl (w_no 106 rfl (by kernel_rfl) (by kernel_rfl) (at_dep rfl rfl rfl) rfl) (at_top rfl)) ?_
                        refine bl_cons 44 rfl (isV _) (stab_isV _) (rgV (li := [(106, _)]) rfl (w_free rfl) ⟨g_dep 31 (by kernel_rfl) (at_dep rfl rfl rfl), trivial⟩ (fun w hw => rn_pickT rfl rfl) (at_top rfl)) ?_
                        refine bl_nil ?_
                        intro W5 hbR hS'
                        clear hS; have hS := hS'; clear hS'
                        refine fin_v ?_
                        refine fin_v ?_
                        refine fin_v ?_
                        refine fin_v ?_
                        refine fin_v ?_
                        refine fin_v ?_
                        refine fin_v ?_
                        refine fin_v ?_
                        refine fin_v ?_
                        refine fin_v ?_
                        refine fin_v ?_
                        refine fin_v ?_
                        refine fin_v ?_
                        refine fin_v ?_
                        refine fin_v ?_
                        refine fin_v ?_
                        refine fin_v ?_
                        refine fin_v ?_
                        refine fin_v ?_
                        refine fin_v ?_
                        refine fin_v ?_
                        refine fin_v ?_
                        refine fin_v ?_
                        refine fin_v ?_
                        refine fin_v ?_
                        refine fin_v ?_
                        refine fin_v ?_
                        refine fin_v ?_
                        refine fin_v ?_
                        refine fin_v ?_
                        refine fin_v ?_
                        refine fin_v ?_
                        refine fin_v ?_
                        refine fin_v ?_
                        refine fin_v ?_
                        refine fin_v ?_
                        refine fin_v ?_
                        refine fin_v ?_
                        refine fin_v ?_
                        refine fin_v ?_
                        refine fin_v ?_
                        refine fin_v ?_
                        refine fin_v ?_
                        refine fin_v ?_
                        refine fin_nil ?_
                        refine XF.thenN ?_
                        refine condT rfl ?_
                        refine seqF ?_
                        refine regF ?_
                        refine op_assign rfl rfl ?_
                        refine endF ?_
                        refine XF.thenN ?_
                        refine retF ?_
                        refine XF.blkR ?_
                        refine XF.thenR ?_
                        refine XF.thenR ?_
                        refine XF.blkR ?_
                        refine XF.thenR ?_
                        refine XF.res (res1 Try.results25 rfl) ?_
                        exact ⟨rbool (by unfold headsB; dsimp only; rw [if_neg (by omega), if_neg (by omega), if_neg (by omega), if_neg (by omega), if_neg (by omega), if_neg (by omega), if_neg (by rw [hmn]; simp), if_neg (by omega), if_neg (by rw [hall]; simp), if_pos (range_false hi1 (by show (nodeB os ol es i && nodeB os ol xs i) = false; rw [nodeB_out hn1 h1]; rfl))]), hS.below⟩
                      · skip
                        refine regB (m := 44) followsM hS (by kernel_rfl) (by kernel_rfl) rfl ?_
                        refine bl_cons 1 rfl (isV _) (stab_isV _) (rgV (li := [(1, _)]) rfl (w_free rfl) ⟨g_fr (by kernel_rfl) rfl, trivial⟩ (fun w hw => rn_field (o' := 2) fa_29_2 rfl rfl) (at_top rfl)) ?_
                        refine bl_cons 2 rfl (isV _) (stab_isV _) (rgV (li := [(75, _)]) rfl (w_free rfl) ⟨g_dep 0 (by kernel_rfl) (at_dep rfl rfl rfl), trivial⟩ (fun w hw => rn_load Try.isAgg23 rfl ((below_agree hw 0).cell (Nat.zero_le _) (cell_own (hS.at_ 0 rfl) rfl))) (at_top rfl)) ?_
                        refine bl_cons 3 rfl (isV _) (stab_isV _) (rgV (li := [(6, _)]) rfl (w_free rfl) ⟨g_fr (by kernel_rfl) rfl, trivial⟩ (fun w hw => rn_move rfl) (at_top rfl)) ?_
                        refine bl_cons 4 rfl (isV _) (stab_isV _) (rgV (li := [(76, _), (77, _)]) rfl (w_free rfl) ⟨g_dep 1 (by kernel_rfl) (at_dep rfl rfl rfl), g_dep 2 (by kernel_rfl) (at_dep rfl rfl rfl), trivial⟩ (fun w hw => rn_indexA  Try.underlying23 Try.sizeOf3 rfl rfl rfl (by omega) rfl) (at_top rfl)) ?_
                        refine bl_cons 5 rfl (isV _) (stab_isV _) (rgV (li := [(78, _)]) rfl (w_free rfl) ⟨g_dep 3 (by kernel_rfl) (at_dep rfl rfl rfl), trivial⟩ (fun w hw => rn_load Try.isAgg3 rfl ((below_agree hw 0).cell (Nat.zero_le _) (k1))) (at_top rfl)) ?_
                        refine bl_cons 6 rfl (isV _) (stab_isV _) (rgV (li := [(4, _)]) rfl (w_free rfl) ⟨g_fr (by kernel_rfl) rfl, trivial⟩ (fun w hw => rn_move rfl) (at_top rfl)) ?_
                        refine bl_cons 7 rfl (isV (.bool true)) (stab_isV _) (rg_call [isV _, isV _] rfl goes_27 (w_free rfl) ⟨p_tmp (g_dep 4 (by kernel_rfl) (at_dep rfl rfl rfl)), p_tmp (g_dep 5 (by kernel_rfl) (at_dep rfl rfl rfl)), trivial⟩ (fun vs w' hb hh => by have e := holds_isV (us := [_, _]) hh; subst e; exact (in_is n1 _ _).mono fun e w2 h => ⟨_, by rw [h.1, h1], rfl, h.2⟩) (at_top rfl)) ?_
                        refine bl_cons 8 rfl (isV _) (stab_isV _) (rgV (li := [(81, _)]) rfl (w_free rfl) ⟨g_dep 6 (by kernel_rfl) (at_dep rfl rfl rfl), trivial⟩ (fun w hw => rn_not rfl) (at_top rfl)) ?_
                        refine bl_cons 9 rfl (isV _) (stab_isV _) (rgV (li := [(82, _)]) rfl (w_free rfl) ⟨g_dep 7 (by kernel_rfl) (at_dep rfl rfl rfl), trivial⟩ (fun w hw => rn_move rfl) (at_top rfl)) ?_
                        refine bl_cons 10 rfl (isV _) (stab_isV _) (rgV (li := [(1, _)]) rfl (w_yes 83 rfl (by kernel_rfl) (by kernel_rfl) (at_dep rfl rfl rfl)) ⟨g_fr (by kernel_rfl) rfl, trivial⟩ (fun w hw => rn_field (o' := 3) fa_29_3 rfl rfl) (at_top rfl)) ?_
                        refine bl_cons 11 rfl (isV _) (stab_isV _) (rgV (li := [(84, _)]) rfl (w_yes 83 rfl (by kernel_rfl) (by kernel_rfl) (at_dep rfl rfl rfl)) ⟨g_dep 9 (by kernel_rfl) (at_dep rfl rfl rfl), trivial⟩ (fun w hw => rn_load Try.isAgg23 rfl ((below_agree hw 0).cell (Nat.zero_le _) (cell_own (hS.at_ 0 rfl) rfl))) (at_top rfl)) ?_
                        refine bl_cons 12 rfl (isV _) (stab_isV _) (rgV (li := [(6, _)]) rfl (w_yes 83 rfl (by kernel_rfl) (by kernel_rfl) (at_dep rfl rfl rfl)) ⟨g_fr (by kernel_rfl) rfl, trivial⟩ (fun w hw => rn_move rfl) (at_top rfl)) ?_
                        refine bl_cons 13 rfl (isV _) (stab_isV _) (rgV (li := [(85, _), (86, _)]) rfl (w_yes 83 rfl (by kernel_rfl) (by kernel_rfl) (at_dep rfl rfl rfl)) ⟨g_dep 10 (by kernel_rfl) (at_dep rfl rfl rfl), g_dep 11 (by kernel_rfl) (at_dep rfl rfl rfl), trivial⟩ (fun w hw => rn_indexA  Try.underlying23 Try.sizeOf3 rfl rfl rfl (by omega) rfl) (at_top rfl)) ?_
                        refine bl_cons 14 rfl (isV _) (stab_isV _) (rgV (li := [(87, _)]) rfl (w_yes 83 rfl (by kernel_rfl) (by kernel_rfl) (at_dep rfl rfl rfl)) ⟨g_dep 12 (by kernel_rfl) (at_dep rfl rfl rfl), trivial⟩ (fun w hw => rn_load Try.isAgg3 rfl ((below_agree hw 0).cell (Nat.zero_le _) (k2))) (at_top rfl)) ?_
                        refine bl_cons 15 rfl (isV _) (stab_isV _) (rgV (li := [(4, _)]) rfl (w_yes 83 rfl (by kernel_rfl) (by kernel_rfl) (at_dep rfl rfl rfl)) ⟨g_fr (by kernel_rfl) rfl, trivial⟩ (fun w hw => rn_move rfl) (at_top rfl)) ?_
                        refine bl_cons 16 rfl (isV (.bool false)) (stab_isV _) (rg_call [isV _, isV _] rfl goes_27 (w_yes 83 rfl (by kernel_rfl) (by kernel_rfl) (at_dep rfl rfl rfl)) ⟨p_tmp (g_dep 13 (by kernel_rfl) (at_dep rfl rfl rfl)), p_tmp (g_dep 14 (by kernel_rfl) (at_dep rfl rfl rfl)), trivial⟩ (fun vs w' hb hh => by have e := holds_isV (us := [_, _]) hh; subst e; exact (in_is n2 _ _).mono fun e w2 h => ⟨_, by rw [h.1, h2], rfl, h.2⟩) (at_top rfl)) ?_
                        refine bl_cons 17 rfl (isV _) (stab_isV _) (rgV (li := [(90, _)]) rfl (w_yes 83 rfl (by kernel_rfl) (by kernel_rfl) (at_dep rfl rfl rfl)) ⟨g_dep 15 (by kernel_rfl) (at_dep rfl rfl rfl), trivial⟩ (fun w hw => rn_not rfl) (at_top rfl)) ?_
                        refine bl_cons 18 rfl (isV _) (stab_isV _) (rgV (li := [(83, _), (91, _)]) rfl (w_free rfl) ⟨g_dep 8 (by kernel_rfl) (at_dep rfl rfl rfl), g_dep 16 (by kernel_rfl) (at_dep rfl rfl rfl), trivial⟩ (fun w hw => rn_pickF rfl rfl) (at_top rfl)) ?_
                        refine bl_cons 19 rfl (isV _) (stab_isV _) (rgV (li := [(92, _)]) rfl (w_free rfl) ⟨g_dep 17 (by kernel_rfl) (at_dep rfl rfl rfl), trivial⟩ (fun w hw => rn_move rfl) (at_top rfl)) ?_
                        refine bl_cons 20 rfl (isV undef) (stab_isV _) (rg_no rfl (w_no 93 rfl (by kernel_rfl) (by kernel_rfl) (at_dep rfl rfl rfl) rfl) (at_top rfl)) ?_
                        refine bl_cons 21 rfl (isV undef) (stab_isV _) (rg_no rfl (w_no 93 rfl (by kernel_rfl) (by kernel_rfl) (at_dep rfl rfl rfl) rfl) (at_top rfl)) ?_
                        refine bl_cons 22 rfl (isV undef) (stab_isV _) (rg_no rfl (w_no 93 rfl (by kernel_rfl) (by kernel_rfl) (at_dep rfl rfl rfl) rfl) (at_top rfl)) ?_
                        refine bl_cons 23 rfl (isV undef) (stab_isV _) (rg_no rfl (w_no 93 rfl (by kernel_rfl) (by kernel_rfl) (at_dep rfl rfl rfl) rfl) (at_top rfl)) ?_
                        refine bl_cons 24 rfl (isV undef) (stab_isV _) (rg_no rfl (w_no 93 rfl (by kernel_rfl) (by kernel_rfl) (at_dep rfl rfl rfl) rfl) (at_top rfl)) ?_
                        refine bl_cons 25 rfl (isV undef) (stab_isV _) (rg_no rfl (w_no 93 rfl (by kernel_rfl) (by kernel_rfl) (at_dep rfl rfl rfl) rfl) (at_top rfl)) ?_
                        refine bl_cons 26 rfl (isV undef) (stab_isV _) (rg_no rfl (w_no 93 rfl (by kernel_rfl) (by kernel_rfl) (at_dep rfl rfl rfl) rfl) (at_top rfl)) ?_
                        refine bl_cons 27 rfl (isV undef) (stab_isV _) (rg_no rfl (w_no 93 rfl (by kernel_rfl) (by kernel_rfl) (at_dep rfl rfl rfl) rfl) (at_top rfl)) ?_
                        refine bl_cons 28 rfl (isV undef) (stab_isV _) (rg_no rfl (w_no 93 rfl (by kernel_rfl) (by kernel_rfl) (at_dep rfl rfl rfl) rfl) (at_top rfl)) ?_
                        refine bl_cons 29 rfl (isV undef) (stab_isV _) (rg_no rfl (w_no 93 rfl (by kernel_rfl) (by kernel_rfl) (at_dep rfl rfl rfl) rfl) (at_top rfl)) ?_
                        refine bl_cons 30 rfl (isV undef) (stab_isV _) (rg_no rfl (w_no 93 rfl (by kernel_rfl) (by kernel_rfl) (at_dep rfl rfl rfl) rfl) (at_top rfl)) ?_
                        refine bl_cons 31 rfl (isV _) (stab_isV _) (rgV (li := [(93, _)]) rfl (w_free rfl) ⟨g_dep 18 (by kernel_rfl) (at_dep rfl rfl rfl), trivial⟩ (fun w hw => rn_pickT rfl rfl) (at_top rfl)) ?_
                        refine bl_cons 32 rfl (isV _) (stab_isV _) (rgV (li := [(105, _)]) rfl (w_free rfl) ⟨g_dep 30 (by kernel_rfl) (at_dep rfl rfl rfl), trivial⟩ (fun w hw => rn_move rfl) (at_top rfl)) ?_
                        refine bl_cons 33 rfl (isV undef) (stab_isV _) (rg_no rfl (w_no 106 rfl (by kernel_rfl) (by kernel_rfl) (at_dep rfl rfl rfl) rfl) (at_top rfl)) ?_
                        refine bl_cons 34 rfl (isV undef) (stab_isV _) (rg_no rfl (w_no 106 rfl (by kernel_rfl) (by kernel_rfl) (at_dep rfl rfl rfl) rfl) (at_top rfl)) ?_
                        refine bl_cons 35 rfl (isV undef) (stab_isV _) (rg_no rfl (w_no 106 rfl (by kernel_rfl) (by kernel_rfl) (at_dep rfl rfl rfl) rfl) (at_top rfl)) ?_
                        refine bl_cons 36 rfl (isV undef) (stab_isV _) (rg_no rfl (w_no 106 rfl (by kernel_rfl) (by kernel_rfl) (at_dep rfl rfl rfl) rfl) (at_top rfl)) ?_
                        refine bl_cons 37 rfl (isV undef) (stab_isV _) (rg_no rfl (w_no 106 rfl (by kernel_rfl) (by kernel_rfl) (at_dep rfl rfl rfl) rfl) (at_top rfl)) ?_
                        refine bl_cons 38 rfl (isV undef) (stab_isV _) (rg_no rfl (w_no 106 rfl (by kernel_rfl) (by kernel_rfl) (at_dep rfl rfl rfl) rfl) (at_top rfl)) ?_
                        refine bl_cons 39 rfl (isV undef) (stab_isV _) (rg_no rfl (w_no 106 rfl (by kernel_rfl) (by kernel_rfl) (at_dep rfl rfl rfl) rfl) (at_top rfl)) ?_
                        refine bl_cons 40 rfl (isV undef) (stab_isV _) (rg_no rfl (w_no 106 rfl (by kernel_rfl) (by kernel_rfl) (at_dep rfl rfl rfl) rfl) (at_top rfl)) ?_
                        refine bl_cons 41 rfl (isV undef) (stab_isV _) (rg_no rfl (w_no 106 rfl (by kernel_rfl) (by kernel_rfl) (at_dep rfl rfl rfl) rfl) (at_top rfl)) ?_
                        refine bl_cons 42 rfl (isV undef) (stab_isV _) (rg_no rfl (w_no 106 rfl (by kernel_rfl) (by kernel_rfl) (at_dep rfl rfl rfl) rfl) (at_top rfl)) ?_
                        refine bl_cons 43 rfl (isV undef) (stab_isV _) (rg_no rfl (w_no 106 rfl (by kernel_rfl) (by kernel_rfl) (at_dep rfl rfl rfl) rfl) (at_top rfl)) ?_
                        refine bl_cons 44 rfl (isV _) (stab_isV _) (rgV (li := [(106, _)]) rfl (w_free rfl) ⟨g_dep 31 (by kernel_rfl) (at_dep rfl rfl rfl), trivial⟩ (fun w hw => rn_pickT rfl rfl) (at_top rfl)) ?_
                        refine bl_nil ?_
                        intro W6 hbR hS'
                        clear hS; have hS := hS'; clear hS'
                        refine fin_v ?_
                        refine fin_v ?_
                        refine fin_v ?_
                        refine fin_v ?_
                        refine fin_v ?_
                        refine fin_v ?_
                        refine fin_v ?_
                        refine fin_v ?_
                        refine fin_v ?_
                        refine fin_v ?_
                        refine fin_v ?_
                        refine fin_v ?_
                        refine fin_v ?_
                        refine fin_v ?_
                        refine fin_v ?_
                        refine fin_v ?_
                        refine fin_v ?_
                        refine fin_v ?_
                        refine fin_v ?_
                        refine fin_v ?_
                        refine fin_v ?_
                        refine fin_v ?_
                        refine fin_v ?_
                        refine fin_v ?_
                        refine fin_v ?_
                        refine fin_v ?_
                        refine fin_v ?_
                        refine fin_v ?_
                        refine fin_v ?_
                        refine fin_v ?_
                        refine fin_v ?_
                        refine fin_v ?_
                        refine fin_v ?_
                        refine fin_v ?_
                        refine fin_v ?_
                        refine fin_v ?_
                        refine fin_v ?_
                        refine fin_v ?_
                        refine fin_v ?_
                        refine fin_v ?_
                        refine fin_v ?_
                        refine fin_v ?_
                        refine fin_v ?_
                        refine fin_v ?_
                        refine fin_nil ?_
                        refine XF.thenN ?_
                        refine condT rfl ?_
                        refine seqF ?_
                        refine regF ?_
                        refine op_assign rfl rfl ?_
                        refine endF ?_
                        refine XF.thenN ?_
                        refine retF ?_
                        refine XF.blkR ?_
                        refine XF.thenR ?_
                        refine XF.thenR ?_
                        refine XF.blkR ?_
                        refine XF.thenR ?_
                        refine XF.res (res1 Try.results25 rfl) ?_
                        exact ⟨rbool (by unfold headsB; dsimp only; rw [if_neg (by omega), if_neg (by omega), if_neg (by omega), if_neg (by omega), if_neg (by omega), if_neg (by omega), if_neg (by rw [hmn]; simp), if_neg (by omega), if_neg (by rw [hall]; simp), if_pos (range_false hi1 (by show (nodeB os ol es i && nodeB os ol xs i) = false; rw [nodeB_out hn2 h2, Bool.and_false]))]), hS.below⟩
                      · obtain ⟨ob, oo, z1, rfl, hz1, hzc1⟩ := ho.get (i := q1) (by omega)
                        obtain ⟨ob2, oo2, z2, e2, hz2, hzc2⟩ := ho.get (i := q2) (by omega)
                        cases e2
                        obtain rfl : y1 = z1 := Option.some.inj (hy1.symm.trans hz1)
                        obtain rfl : y2 = z2 := Option.some.inj (hy2.symm.trans hz2)
                        have k3 := (CellsAt.agree hS.agree (Nat.zero_le _) hzc1).1
                        have k4 := (CellsAt.agree hS.agree (Nat.zero_le _) hzc2).1
                        refine regB (m := 44) followsM hS (by kernel_rfl) (by kernel_rfl) rfl ?_
                        refine bl_cons 1 rfl (isV _) (stab_isV _) (rgV (li := [(1, _)]) rfl (w_free rfl) ⟨g_fr (by kernel_rfl) rfl, trivial⟩ (fun w hw => rn_field (o' := 2) fa_29_2 rfl rfl) (at_top rfl)) ?_
                        refine bl_cons 2 rfl (isV _) (stab_isV _) (rgV (li := [(75, _)]) rfl (w_free rfl) ⟨g_dep 0 (by kernel_rfl) (at_dep rfl rfl rfl), trivial⟩ (fun w hw => rn_load Try.isAgg23 rfl ((below_agree hw 0).cell (Nat.zero_le _) (cell_own (hS.at_ 0 rfl) rfl))) (at_top rfl)) ?_
                        refine bl_cons 3 rfl (isV _) (stab_isV _) (rgV (li := [(6, _)]) rfl (w_free rfl) ⟨g_fr (by kernel_rfl) rfl, trivial⟩ (fun w hw => rn_move rfl) (at_top rfl)) ?_
                        refine bl_cons 4 rfl (isV _) (stab_isV _) (rgV (li := [(76, _), (77, _)]) rfl (w_free rfl) ⟨g_dep 1 (by kernel_rfl) (at_dep rfl rfl rfl), g_dep 2 (by kernel_rfl) (at_dep rfl rfl rfl), trivial⟩ (fun w hw => rn_indexA  Try.underlying23 Try.sizeOf3 rfl rfl rfl (by omega) rfl) (at_top rfl)) ?_
                        refine bl_cons 5 rfl (isV _) (stab_isV _) (rgV (li := [(78, _)]) rfl (w_free rfl) ⟨g_dep 3 (by kernel_rfl) (at_dep rfl rfl rfl), trivial⟩ (fun w hw => rn_load Try.isAgg3 rfl ((below_agree hw 0).cell (Nat.zero_le _) (k1))) (at_top rfl)) ?_
                        refine bl_cons 6 rfl (isV _) (stab_isV _) (rgV (li := [(4, _)]) rfl (w_free rfl) ⟨g_fr (by kernel_rfl) rfl, trivial⟩ (fun w hw => rn_move rfl) (at_top rfl)) ?_
                        refine bl_cons 7 rfl (isV (.bool true)) (stab_isV _) (rg_call [isV _, isV _] rfl goes_27 (w_free rfl) ⟨p_tmp (g_dep 4 (by kernel_rfl) (at_dep rfl rfl rfl)), p_tmp (g_dep 5 (by kernel_rfl) (at_dep rfl rfl rfl)), trivial⟩ (fun vs w' hb hh => by have e := holds_isV (us := [_, _]) hh; subst e; exact (in_is _ _ _).mono fun e w2 h => ⟨_, by rw [h.1, h1], rfl, h.2⟩) (at_top rfl)) ?_
                        refine bl_cons 8 rfl (isV _) (stab_isV _) (rgV (li := [(81, _)]) rfl (w_free rfl) ⟨g_dep 6 (by kernel_rfl) (at_dep rfl rfl rfl), trivial⟩ (fun w hw => rn_not rfl) (at_top rfl)) ?_
                        refine bl_cons 9 rfl (isV _) (stab_isV _) (rgV (li := [(82, _)]) rfl (w_free rfl) ⟨g_dep 7 (by kernel_rfl) (at_dep rfl rfl rfl), trivial⟩ (fun w hw => rn_move rfl) (at_top rfl)) ?_
                        refine bl_cons 10 rfl (isV _) (stab_isV _) (rgV (li := [(1, _)]) rfl (w_yes 83 rfl (by kernel_rfl) (by kernel_rfl) (at_dep rfl rfl rfl)) ⟨g_fr (by kernel_rfl) rfl, trivial⟩ (fun w hw => rn_field (o' := 3) fa_29_3 rfl rfl) (at_top rfl)) ?_
                        refine bl_cons 11 rfl (isV _) (stab_isV _) (rgV (li := [(84, _)]) rfl (w_yes 83 rfl (by kernel_rfl) (by kernel_rfl) (at_dep rfl rfl rfl)) ⟨g_dep 9 (by kernel_rfl) (at_dep rfl rfl rfl), trivial⟩ (fun w hw => rn_load Try.isAgg23 rfl ((below_agree hw 0).cell (Nat.zero_le _) (cell_own (hS.at_ 0 rfl) rfl))) (at_top rfl)) ?_
                        refine bl_cons 12 rfl (isV _) (stab_isV _) (rgV (li := [(6, _)]) rfl (w_yes 83 rfl (by kernel_rfl) (by kernel_rfl) (at_dep rfl rfl rfl)) ⟨g_fr (by kernel_rfl) rfl, trivial⟩ (fun w hw => rn_move rfl) (at_top rfl)) ?_
                        refine bl_cons 13 rfl (isV _) (stab_isV _) (rgV (li := [(85, _), (86, _)]) rfl (w_yes 83 rfl (by kernel_rfl) (by kernel_rfl) (at_dep rfl rfl rfl)) ⟨g_dep 10 (by kernel_rfl) (at_dep rfl rfl rfl), g_dep 11 (by kernel_rfl) (at_dep rfl rfl rfl), trivial⟩ (fun w hw => rn_indexA  Try.underlying23 Try.sizeOf3 rfl rfl rfl (by omega) rfl) (at_top rfl)) ?_
                        refine bl_cons 14 rfl (isV _) (stab_isV _) (rgV (li := [(87, _)]) rfl (w_yes 83 rfl (by kernel_rfl) (by kernel_rfl) (at_dep rfl rfl rfl)) ⟨g_dep 12 (by kernel_rfl) (at_dep rfl rfl rfl), trivial⟩ (fun w hw => rn_load Try.isAgg3 rfl ((below_agree hw 0).cell (Nat.zero_le _) (k2))) (at_top rfl)) ?_
                        refine bl_cons 15 rfl (isV _) (stab_isV _) (rgV (li := [(4, _)]) rfl (w_yes 83 rfl (by kernel_rfl) (by kernel_rfl) (at_dep rfl rfl rfl)) ⟨g_fr (by kernel_rfl) rfl, trivial⟩ (fun w hw => rn_move rfl) (at_top rfl)) ?_
                        refine bl_cons 16 rfl (isV (.bool true)) (stab_isV _) (rg_call [isV _, isV _] rfl goes_27 (w_yes 83 rfl (by kernel_rfl) (by kernel_rfl) (at_dep rfl rfl rfl)) ⟨p_tmp (g_dep 13 (by kernel_rfl) (at_dep rfl rfl rfl)), p_tmp (g_dep 14 (by kernel_rfl) (at_dep rfl rfl rfl)), trivial⟩ (fun vs w' hb hh => by have e := holds_isV (us := [_, _]) hh; subst e; exact (in_is _ _ _).mono fun e w2 h => ⟨_, by rw [h.1, h2], rfl, h.2⟩) (at_top rfl)) ?_
                        refine bl_cons 17 rfl (isV _) (stab_isV _) (rgV (li := [(90, _)]) rfl (w_yes 83 rfl (by kernel_rfl) (by kernel_rfl) (at_dep rfl rfl rfl)) ⟨g_dep 15 (by kernel_rfl) (at_dep rfl rfl rfl), trivial⟩ (fun w hw => rn_not rfl) (at_top rfl)) ?_
                        refine bl_cons 18 rfl (isV _) (stab_isV _) (rgV (li := [(83, _), (91, _)]) rfl (w_free rfl) ⟨g_dep 8 (by kernel_rfl) (at_dep rfl rfl rfl), g_dep 16 (by kernel_rfl) (at_dep rfl rfl rfl), trivial⟩ (fun w hw => rn_pickF rfl rfl) (at_top rfl)) ?_
                        refine bl_cons 19 rfl (isV _) (stab_isV _) (rgV (li := [(92, _)]) rfl (w_free rfl) ⟨g_dep 17 (by kernel_rfl) (at_dep rfl rfl rfl), trivial⟩ (fun w hw => rn_move rfl) (at_top rfl)) ?_
                        refine bl_cons 20 rfl (isV _) (stab_isV _) (rgV (li := [(1, _)]) rfl (w_yes 93 rfl (by kernel_rfl) (by kernel_rfl) (at_dep rfl rfl rfl)) ⟨g_fr (by kernel_rfl) rfl, trivial⟩ (fun w hw => rn_field (o' := 5) fa_29_5 rfl rfl) (at_top rfl)) ?_
                        refine bl_cons 21 rfl (isV _) (stab_isV _) (rgV (li := [(94, _)]) rfl (w_yes 93 rfl (by kernel_rfl) (by kernel_rfl) (at_dep rfl rfl rfl)) ⟨g_dep 19 (by kernel_rfl) (at_dep rfl rfl rfl), trivial⟩ (fun w hw => rn_load Try.isAgg23 rfl ((below_agree hw 0).cell (Nat.zero_le _) (cell_own (hS.at_ 0 rfl) rfl))) (at_top rfl)) ?_
                        refine bl_cons 22 rfl (isV _) (stab_isV _) (rgV (li := [(1, _)]) rfl (w_yes 93 rfl (by kernel_rfl) (by kernel_rfl) (at_dep rfl rfl rfl)) ⟨g_fr (by kernel_rfl) rfl, trivial⟩ (fun w hw => rn_field (o' := 2) fa_29_2 rfl rfl) (at_top rfl)) ?_
                        refine bl_cons 23 rfl (isV _) (stab_isV _) (rgV (li := [(96, _)]) rfl (w_yes 93 rfl (by kernel_rfl) (by kernel_rfl) (at_dep rfl rfl rfl)) ⟨g_dep 21 (by kernel_rfl) (at_dep rfl rfl rfl), trivial⟩ (fun w hw => rn_load Try.isAgg23 rfl ((below_agree hw 0).cell (Nat.zero_le _) (cell_own (hS.at_ 0 rfl) rfl))) (at_top rfl)) ?_
                        refine bl_cons 24 rfl (isV _) (stab_isV _) (rgV (li := [(6, _)]) rfl (w_yes 93 rfl (by kernel_rfl) (by kernel_rfl) (at_dep rfl rfl rfl)) ⟨g_fr (by kernel_rfl) rfl, trivial⟩ (fun w hw => rn_move rfl) (at_top rfl)) ?_
                        refine bl_cons 25 rfl (isV _) (stab_isV _) (rgV (li := [(97, _), (98, _)]) rfl (w_yes 93 rfl (by kernel_rfl) (by kernel_rfl) (at_dep rfl rfl rfl)) ⟨g_dep 22 (by kernel_rfl) (at_dep rfl rfl rfl), g_dep 23 (by kernel_rfl) (at_dep rfl rfl rfl), trivial⟩ (fun w hw => rn_indexA  Try.underlying23 Try.sizeOf3 rfl rfl rfl (by omega) rfl) (at_top rfl)) ?_
                        refine bl_cons 26 rfl (isV _) (stab_isV _) (rgV (li := [(99, _)]) rfl (w_yes 93 rfl (by kernel_rfl) (by kernel_rfl) (at_dep rfl rfl rfl)) ⟨g_dep 24 (by kernel_rfl) (at_dep rfl rfl rfl), trivial⟩ (fun w hw => rn_load Try.isAgg3 rfl ((below_agree hw 0).cell (Nat.zero_le _) (k1))) (at_top rfl)) ?_
                        refine bl_cons 27 rfl (isV _) (stab_isV _) (rgV (li := [(95, _), (100, _)]) rfl (w_yes 93 rfl (by kernel_rfl) (by kernel_rfl) (at_dep rfl rfl rfl)) ⟨g_dep 20 (by kernel_rfl) (at_dep rfl rfl rfl), g_dep 25 (by kernel_rfl) (at_dep rfl rfl rfl), trivial⟩ (fun w hw => rn_indexA (j := q1) Try.underlying23 Try.sizeOf3 rfl rfl (by omega) (by omega) rfl) (at_top rfl)) ?_
                        refine bl_cons 28 rfl (isV _) (stab_isV _) (rgV (li := [(101, _)]) rfl (w_yes 93 rfl (by kernel_rfl) (by kernel_rfl) (at_dep rfl rfl rfl)) ⟨g_dep 26 (by kernel_rfl) (at_dep rfl rfl rfl), trivial⟩ (fun w hw => rn_load Try.isAgg3 rfl ((below_agree hw 0).cell (Nat.zero_le _) (k3))) (at_top rfl)) ?_
                        refine bl_cons 29 rfl (isV _) (stab_isV _) (rgV (li := [(6, _)]) rfl (w_yes 93 rfl (by kernel_rfl) (by kernel_rfl) (at_dep rfl rfl rfl)) ⟨g_fr (by kernel_rfl) rfl, trivial⟩ (fun w hw => rn_move rfl) (at_top rfl)) ?_
                        refine bl_cons 30 rfl (isV (.bool true)) (stab_isV _) (rgVe (li := [(102, _), (103, _)]) rfl (w_yes 93 rfl (by kernel_rfl) (by kernel_rfl) (at_dep rfl rfl rfl)) ⟨g_dep 27 (by kernel_rfl) (at_dep rfl rfl rfl), g_dep 28 (by kernel_rfl) (at_dep rfl rfl rfl), trivial⟩ (fun w hw => rn_neq rfl rfl) (by rw [decide_eq_true hne]) (at_top rfl)) ?_
                        refine bl_cons 31 rfl (isV _) (stab_isV _) (rgV (li := [(93, _), (104, _)]) rfl (w_free rfl) ⟨g_dep 18 (by kernel_rfl) (at_dep rfl rfl rfl), g_dep 29 (by kernel_rfl) (at_dep rfl rfl rfl), trivial⟩ (fun w hw => rn_pickF rfl rfl) (at_top rfl)) ?_
                        refine bl_cons 32 rfl (isV _) (stab_isV _) (rgV (li := [(105, _)]) rfl (w_free rfl) ⟨g_dep 30 (by kernel_rfl) (at_dep rfl rfl rfl), trivial⟩ (fun w hw => rn_move rfl) (at_top rfl)) ?_
                        refine bl_cons 33 rfl (isV undef) (stab_isV _) (rg_no rfl (w_no 106 rfl (by kernel_rfl) (by kernel_rfl) (at_dep rfl rfl rfl) rfl) (at_top rfl)) ?_
                        refine bl_cons 34 rfl (isV undef) (stab_isV _) (rg_no rfl (w_no 106 rfl (by kernel_rfl) (by kernel_rfl) (at_dep rfl rfl rfl) rfl) (at_top rfl)) ?_
                        refine bl_cons 35 rfl (isV undef) (stab_isV _) (rg_no rfl (w_no 106 rfl (by kernel_rfl) (by kernel_rfl) (at_dep rfl rfl rfl) rfl) (at_top rfl)) ?_
                        refine bl_cons 36 rfl (isV undef) (stab_isV _) (rg_no rfl (w_no 106 rfl (by kernel_rfl) (by kernel_rfl) (at_dep rfl rfl rfl) rfl) (at_top rfl)) ?_
                        refine bl_cons 37 rfl (isV undef) (stab_isV _) (rg_no rfl (w_no 106 rfl (by kernel_rfl) (by kernel_rfl) (at_dep rfl rfl rfl) rfl) (at_top rfl)) ?_
                        refine bl_cons 38 rfl (isV undef) (stab_isV _) (rg_no rfl (w_no 106 rfl (by kernel_rfl) (by kernel_rfl) (at_dep rfl rfl rfl) rfl) (at_top rfl)) ?_
                        refine bl_cons 39 rfl (isV undef) (stab_isV _) (rg_no rfl (w_no 106 rfl (by kernel_rfl) (by kernel_rfl) (at_dep rfl rfl rfl) rfl) (at_top rfl)) ?_
                        refine bl_cons 40 rfl (isV undef) (stab_isV _) (rg_no rfl (w_no 106 rfl (by kernel_rfl) (by kernel_rfl) (at_dep rfl rfl rfl) rfl) (at_top rfl)) ?_
                        refine bl_cons 41 rfl (isV undef) (stab_isV _) (rg_no rfl (w_no 106 rfl (by kernel_rfl) (by kernel_rfl) (at_dep rfl rfl rfl) rfl) (at_top rfl)) ?_
                        refine bl_cons 42 rfl (isV undef) (stab_isV _) (rg_no rfl (w_no 106 rfl (by kernel_rfl) (by kernel_rfl) (at_dep rfl rfl rfl) rfl) (at_top rfl)) ?_
                        refine bl_cons 43 rfl (isV undef) (stab_isV _) (rg_no rfl (w_no 106 rfl (by kernel_rfl) (by kernel_rfl) (at_dep rfl rfl rfl) rfl) (at_top rfl)) ?_
                        refine bl_cons 44 rfl (isV _) (stab_isV _) (rgV (li := [(106, _)]) rfl (w_free rfl) ⟨g_dep 31 (by kernel_rfl) (at_dep rfl rfl rfl), trivial⟩ (fun w hw => rn_pickT rfl rfl) (at_top rfl)) ?_
                        refine bl_nil ?_
                        intro W7 hbR hS'
                        clear hS; have hS := hS'; clear hS'
                        refine fin_v ?_
                        refine fin_v ?_
                        refine fin_v ?_
                        refine fin_v ?_
                        refine fin_v ?_
                        refine fin_v ?_
                        refine fin_v ?_
                        refine fin_v ?_
                        refine fin_v ?_
                        refine fin_v ?_
                        refine fin_v ?_
                        refine fin_v ?_
                        refine fin_v ?_
                        refine fin_v ?_
                        refine fin_v ?_
                        refine fin_v ?_
                        refine fin_v ?_
                        refine fin_v ?_
                        refine fin_v ?_
                        refine fin_v ?_
                        refine fin_v ?_
                        refine fin_v ?_
                        refine fin_v ?_
                        refine fin_v ?_
                        refine fin_v ?_
                        refine fin_v ?_
                        refine fin_v ?_
                        refine fin_v ?_
                        refine fin_v ?_
                        refine fin_v ?_
                        refine fin_v ?_
                        refine fin_v ?_
                        refine fin_v ?_
                        refine fin_v ?_
                        refine fin_v ?_
                        refine fin_v ?_
                        refine fin_v ?_
                        refine fin_v ?_
                        refine fin_v ?_
                        refine fin_v ?_
                        refine fin_v ?_
                        refine fin_v ?_
                        refine fin_v ?_
                        refine fin_v ?_
                        refine fin_nil ?_
                        refine XF.thenN ?_
                        refine condT rfl ?_
                        refine seqF ?_
                        refine regF ?_
                        refine op_assign rfl rfl ?_
                        refine endF ?_
                        refine XF.thenN ?_
                        refine retF ?_
                        refine XF.blkR ?_
                        refine XF.thenR ?_
                        refine XF.thenR ?_
                        refine XF.blkR ?_
                        refine XF.thenR ?_
                        refine XF.res (res1 Try.results25 rfl) ?_
                        exact ⟨rbool (by unfold headsB; dsimp only; rw [if_neg (by omega), if_neg (by omega), if_neg (by omega), if_neg (by omega), if_neg (by omega), if_neg (by omega), if_neg (by rw [hmn]; simp), if_neg (by omega), if_neg (by rw [hall]; simp), if_pos (range_false hi1 (by show (nodeB os ol es i && nodeB os ol xs i) = false; rw [nodeB_at hn1 h1 (by rw [Int.toNat_natCast]; exact hy1), decide_eq_false hne]; rfl))]), hS.below⟩
                      · obtain ⟨ob, oo, z1, rfl, hz1, hzc1⟩ := ho.get (i := q1) (by omega)
                        obtain ⟨ob2, oo2, z2, e2, hz2, hzc2⟩ := ho.get (i := q2) (by omega)
                        cases e2
                        obtain rfl : y1 = z1 := Option.some.inj (hy1.symm.trans hz1)
                        obtain rfl : y2 = z2 := Option.some.inj (hy2.symm.trans hz2)
                        have k3 := (CellsAt.agree hS.agree (Nat.zero_le _) hzc1).1
                        have k4 := (CellsAt.agree hS.agree (Nat.zero_le _) hzc2).1
                        refine regB (m := 44) followsM hS (by kernel_rfl) (by kernel_rfl) rfl ?_
                        refine bl_cons 1 rfl (isV _) (stab_isV _) (rgV (li := [(1, _)]) rfl (w_free rfl) ⟨g_fr (by kernel_rfl) rfl, trivial⟩ (fun w hw => rn_field (o' := 2) fa_29_2 rfl rfl) (at_top rfl)) ?_
                        refine bl_cons 2 rfl (isV _) (stab_isV _) (rgV (li := [(75, _)]) rfl (w_free rfl) ⟨g_dep 0 (by kernel_rfl) (at_dep rfl rfl rfl), trivial⟩ (fun w hw => rn_load Try.isAgg23 rfl ((below_agree hw 0).cell (Nat.zero_le _) (cell_own (hS.at_ 0 rfl) rfl))) (at_top rfl)) ?_
                        refine bl_cons 3 rfl (isV _) (stab_isV _) (rgV (li := [(6, _)]) rfl (w_free rfl) ⟨g_fr (by kernel_rfl) rfl, trivial⟩ (fun w hw => rn_move rfl) (at_top rfl)) ?_
                        refine bl_cons 4 rfl (isV _) (stab_isV _) (rgV (li := [(76, _), (77, _)]) rfl (w_free rfl) ⟨g_dep 1 (by kernel_rfl) (at_dep rfl rfl rfl), g_dep 2 (by kernel_rfl) (at_dep rfl rfl rfl), trivial⟩ (fun w hw => rn_indexA  Try.underlying23 Try.sizeOf3 rfl rfl rfl (by omega) rfl) (at_top rfl)) ?_
                        refine bl_cons 5 rfl (isV _) (stab_isV _) (rgV (li := [(78, _)]) rfl (w_free rfl) ⟨g_dep 3 (by kernel_rfl) (at_dep rfl rfl rfl), trivial⟩ (fun w hw => rn_load Try.isAgg3 rfl ((below_agree hw 0).cell (Nat.zero_le _) (k1))) (at_top rfl)) ?_
                        refine bl_cons 6 rfl (isV _) (stab_isV _) (rgV (li := [(4, _)]) rfl (w_free rfl) ⟨g_fr (by kernel_rfl) rfl, trivial⟩ (fun w hw => rn_move rfl) (at_top rfl)) ?_
                        refine bl_cons 7 rfl (isV (.bool true)) (stab_isV _) (rg_call [isV _, isV _] rfl goes_27 (w_free rfl) ⟨p_tmp (g_dep 4 (by kernel_rfl) (at_dep rfl rfl rfl)), p_tmp (g_dep 5 (by kernel_rfl) (at_dep rfl rfl rfl)), trivial⟩ (fun vs w' hb hh => by have e := holds_isV (us := [_, _]) hh; subst e; exact (in_is _ _ _).mono fun e w2 h => ⟨_, by rw [h.1, h1], rfl, h.2⟩) (at_top rfl)) ?_
                        refine bl_cons 8 rfl (isV _) (stab_isV _) (rgV (li := [(81, _)]) rfl (w_free rfl) ⟨g_dep 6 (by kernel_rfl) (at_dep rfl rfl rfl), trivial⟩ (fun w hw => rn_not rfl) (at_top rfl)) ?_
                        refine bl_cons 9 rfl (isV _) (stab_isV _) (rgV (li := [(82, _)]) rfl (w_free rfl) ⟨g_dep 7 (by kernel_rfl) (at_dep rfl rfl rfl), trivial⟩ (fun w hw => rn_move rfl) (at_top rfl)) ?_
                        refine bl_cons 10 rfl (isV _) (stab_isV _) (rgV (li := [(1, _)]) rfl (w_yes 83 rfl (by kernel_rfl) (by kernel_rfl) (at_dep rfl rfl rfl)) ⟨g_fr (by kernel_rfl) rfl, trivial⟩ (fun w hw => rn_field (o' := 3) fa_29_3 rfl rfl) (at_top rfl)) ?_
                        refine bl_cons 11 rfl (isV _) (stab_isV _) (rgV (li := [(84, _)]) rfl (w_yes 83 rfl (by kernel_rfl) (by kernel_rfl) (at_dep rfl rfl rfl)) ⟨g_dep 9 (by kernel_rfl) (at_dep rfl rfl rfl), trivial⟩ (fun w hw => rn_load Try.isAgg23 rfl ((below_agree hw 0).cell (Nat.zero_le _) (cell_own (hS.at_ 0 rfl) rfl))) (at_top rfl)) ?_
                        refine bl_cons 12 rfl (isV _) (stab_isV _) (rgV (li := [(6, _)]) rfl (w_yes 83 rfl (by kernel_rfl) (by kernel_rfl) (at_dep rfl rfl rfl)) ⟨g_fr (by kernel_rfl) rfl, trivial⟩ (fun w hw => rn_move rfl) (at_top rfl)) ?_
                        refine bl_cons 13 rfl (isV _) (stab_isV _) (rgV (li := [(85, _), (86, _)]) rfl (w_yes 83 rfl (by kernel_rfl) (by kernel_rfl) (at_dep rfl rfl rfl)) ⟨g_dep 10 (by kernel_rfl) (at_dep rfl rfl rfl), g_dep 11 (by kernel_rfl) (at_dep rfl rfl rfl), trivial⟩ (fun w hw => rn_indexA  Try.underlying23 Try.sizeOf3 rfl rfl rfl (by omega) rfl) (at_top rfl)) ?_
                        refine bl_cons 14 rfl (isV _) (stab_isV _) (rgV (li := [(87, _)]) rfl (w_yes 83 rfl (by kernel_rfl) (by kernel_rfl) (at_dep rfl rfl rfl)) ⟨g_dep 12 (by kernel_rfl) (at_dep rfl rfl rfl), trivial⟩ (fun w hw => rn_load Try.isAgg3 rfl ((below_agree hw 0).cell (Nat.zero_le _) (k2))) (at_top rfl)) ?_
                        refine bl_cons 15 rfl (isV _) (stab_isV _) (rgV (li := [(4, _)]) rfl (w_yes 83 rfl (by kernel_rfl) (by kernel_rfl) (at_dep rfl rfl rfl)) ⟨g_fr (by kernel_rfl) rfl, trivial⟩ (fun w hw => rn_move rfl) (at_top rfl)) ?_
                        refine bl_cons 16 rfl (isV (.bool true)) (stab_isV _) (rg_call [isV _, isV _] rfl goes_27 (w_yes 83 rfl (by kernel_rfl) (by kernel_rfl) (at_dep rfl rfl rfl)) ⟨p_tmp (g_dep 13 (by kernel_rfl) (at_dep rfl rfl rfl)), p_tmp (g_dep 14 (by kernel_rfl) (at_dep rfl rfl rfl)), trivial⟩ (fun vs w' hb hh => by have e := holds_isV (us := [_, _]) hh; subst e; exact (in_is _ _ _).mono fun e w2 h => ⟨_, by rw [h.1, h2], rfl, h.2⟩) (at_top rfl)) ?_
                        refine bl_cons 17 rfl (isV _) (stab_isV _) (rgV (li := [(90, _)]) rfl (w_yes 83 rfl (by kernel_rfl) (by kernel_rfl) (at_dep rfl rfl rfl)) ⟨g_dep 15 (by kernel_rfl) (at_dep rfl rfl rfl), trivial⟩ (fun w hw => rn_not rfl) (at_top rfl)) ?_
                        refine bl_cons 18 rfl (isV _) (stab_isV _) (rgV (li := [(83, _), (91, _)]) rfl (w_free rfl) ⟨g_dep 8 (by kernel_rfl) (at_dep rfl rfl rfl), g_dep 16 (by kernel_rfl) (at_dep rfl rfl rfl), trivial⟩ (fun w hw => rn_pickF rfl rfl) (at_top rfl)) ?_
                        refine bl_cons 19 rfl (isV _) (stab_isV _) (rgV (li := [(92, _)]) rfl (w_free rfl) ⟨g_dep 17 (by kernel_rfl) (at_dep rfl rfl rfl), trivial⟩ (fun w hw => rn_move rfl) (at_top rfl)) ?_
                        refine bl_cons 20 rfl (isV _) (stab_isV _) (rgV (li := [(1, _)]) rfl (w_yes 93 rfl (by kernel_rfl) (by kernel_rfl) (at_dep rfl rfl rfl)) ⟨g_fr (by kernel_rfl) rfl, trivial⟩ (fun w hw => rn_field (o' := 5) fa_29_5 rfl rfl) (at_top rfl)) ?_
                        refine bl_cons 21 rfl (isV _) (stab_isV _) (rgV (li := [(94, _)]) rfl (w_yes 93 rfl (by kernel_rfl) (by kernel_rfl) (at_dep rfl rfl rfl)) ⟨g_dep 19 (by kernel_rfl) (at_dep rfl rfl rfl), trivial⟩ (fun w hw => rn_load Try.isAgg23 rfl ((below_agree hw 0).cell (Nat.zero_le _) (cell_own (hS.at_ 0 rfl) rfl))) (at_top rfl)) ?_
                        refine bl_cons 22 rfl (isV _) (stab_isV _) (rgV (li := [(1, _)]) rfl (w_yes 93 rfl (by kernel_rfl) (by kernel_rfl) (at_dep rfl rfl rfl)) ⟨g_fr (by kernel_rfl) rfl, trivial⟩ (fun w hw => rn_field (o' := 2) fa_29_2 rfl rfl) (at_top rfl)) ?_
                        refine bl_cons 23 rfl (isV _) (stab_isV _) (rgV (li := [(96, _)]) rfl (w_yes 93 rfl (by kernel_rfl) (by kernel_rfl) (at_dep rfl rfl rfl)) ⟨g_dep 21 (by kernel_rfl) (at_dep rfl rfl rfl), trivial⟩ (fun w hw => rn_load Try.isAgg23 rfl ((below_agree hw 0).cell (Nat.zero_le _) (cell_own (hS.at_ 0 rfl) rfl))) (at_top rfl)) ?_
                        refine bl_cons 24 rfl (isV _) (stab_isV _) (rgV (li := [(6, _)]) rfl (w_yes 93 rfl (by kernel_rfl) (by kernel_rfl) (at_dep rfl rfl rfl)) ⟨g_fr (by kernel_rfl) rfl, trivial⟩ (fun w hw => rn_move rfl) (at_top rfl)) ?_
                        refine bl_cons 25 rfl (isV _) (stab_isV _) (rgV (li := [(97, _), (98, _)]) rfl (w_yes 93 rfl (by kernel_rfl) (by kernel_rfl) (at_dep rfl rfl rfl)) ⟨g_dep 22 (by kernel_rfl) (at_dep rfl rfl rfl), g_dep 23 (by kernel_rfl) (at_dep rfl rfl rfl), trivial⟩ (fun w hw => rn_indexA  Try.underlying23 Try.sizeOf3 rfl rfl rfl (by omega) rfl) (at_top rfl)) ?_
                        refine bl_cons 26 rfl (isV _) (stab_isV _) (rgV (li := [(99, _)]) rfl (w_yes 93 rfl (by kernel_rfl) (by kernel_rfl) (at_dep rfl rfl rfl)) ⟨g_dep 24 (by kernel_rfl) (at_dep rfl rfl rfl), trivial⟩ (fun w hw => rn_load Try.isAgg3 rfl ((below_agree hw 0).cell (Nat.zero_le _) (k1))) (at_top rfl)) ?_
                        refine bl_cons 27 rfl (isV _) (stab_isV _) (rgV (li := [(95, _), (100, _)]) rfl (w_yes 93 rfl (by kernel_rfl) (by kernel_rfl) (at_dep rfl rfl rfl)) ⟨g_dep 20 (by kernel_rfl) (at_dep rfl rfl rfl), g_dep 25 (by kernel_rfl) (at_dep rfl rfl rfl), trivial⟩ (fun w hw => rn_indexA (j := q1) Try.underlying23 Try.sizeOf3 rfl rfl (by omega) (by omega) rfl) (at_top rfl)) ?_
                        refine bl_cons 28 rfl (isV _) (stab_isV _) (rgV (li := [(101, _)]) rfl (w_yes 93 rfl (by kernel_rfl) (by kernel_rfl) (at_dep rfl rfl rfl)) ⟨g_dep 26 (by kernel_rfl) (at_dep rfl rfl rfl), trivial⟩ (fun w hw => rn_load Try.isAgg3 rfl ((below_agree hw 0).cell (Nat.zero_le _) (k3))) (at_top rfl)) ?_
                        refine bl_cons 29 rfl (isV _) (stab_isV _) (rgV (li := [(6, _)]) rfl (w_yes 93 rfl (by kernel_rfl) (by kernel_rfl) (at_dep rfl rfl rfl)) ⟨g_fr (by kernel_rfl) rfl, trivial⟩ (fun w hw => rn_move rfl) (at_top rfl)) ?_
                        refine bl_cons 30 rfl (isV (.bool false)) (stab_isV _) (rgVe (li := [(102, _), (103, _)]) rfl (w_yes 93 rfl (by kernel_rfl) (by kernel_rfl) (at_dep rfl rfl rfl)) ⟨g_dep 27 (by kernel_rfl) (at_dep rfl rfl rfl), g_dep 28 (by kernel_rfl) (at_dep rfl rfl rfl), trivial⟩ (fun w hw => rn_neq rfl rfl) (by rw [decide_eq_false (not_not_intro hee)]) (at_top rfl)) ?_
                        refine bl_cons 31 rfl (isV _) (stab_isV _) (rgV (li := [(93, _), (104, _)]) rfl (w_free rfl) ⟨g_dep 18 (by kernel_rfl) (at_dep rfl rfl rfl), g_dep 29 (by kernel_rfl) (at_dep rfl rfl rfl), trivial⟩ (fun w hw => rn_pickF rfl rfl) (at_top rfl)) ?_
                        refine bl_cons 32 rfl (isV _) (stab_isV _) (rgV (li := [(105, _)]) rfl (w_free rfl) ⟨g_dep 30 (by kernel_rfl) (at_dep rfl rfl rfl), trivial⟩ (fun w hw => rn_move rfl) (at_top rfl)) ?_
                        refine bl_cons 33 rfl (isV _) (stab_isV _) (rgV (li := [(1, _)]) rfl (w_yes 106 rfl (by kernel_rfl) (by kernel_rfl) (at_dep rfl rfl rfl)) ⟨g_fr (by kernel_rfl) rfl, trivial⟩ (fun w hw => rn_field (o' := 5) fa_29_5 rfl rfl) (at_top rfl)) ?_
                        refine bl_cons 34 rfl (isV _) (stab_isV _) (rgV (li := [(107, _)]) rfl (w_yes 106 rfl (by kernel_rfl) (by kernel_rfl) (at_dep rfl rfl rfl)) ⟨g_dep 32 (by kernel_rfl) (at_dep rfl rfl rfl), trivial⟩ (fun w hw => rn_load Try.isAgg23 rfl ((below_agree hw 0).cell (Nat.zero_le _) (cell_own (hS.at_ 0 rfl) rfl))) (at_top rfl)) ?_
                        refine bl_cons 35 rfl (isV _) (stab_isV _) (rgV (li := [(1, _)]) rfl (w_yes 106 rfl (by kernel_rfl) (by kernel_rfl) (at_dep rfl rfl rfl)) ⟨g_fr (by kernel_rfl) rfl, trivial⟩ (fun w hw => rn_field (o' := 3) fa_29_3 rfl rfl) (at_top rfl)) ?_
                        refine bl_cons 36 rfl (isV _) (stab_isV _) (rgV (li := [(109, _)]) rfl (w_yes 106 rfl (by kernel_rfl) (by kernel_rfl) (at_dep rfl rfl rfl)) ⟨g_dep 34 (by kernel_rfl) (at_dep rfl rfl rfl), trivial⟩ (fun w hw => rn_load Try.isAgg23 rfl ((below_agree hw 0).cell (Nat.zero_le _) (cell_own (hS.at_ 0 rfl) rfl))) (at_top rfl)) ?_
                        refine bl_cons 37 rfl (isV _) (stab_isV _) (rgV (li := [(6, _)]) rfl (w_yes 106 rfl (by kernel_rfl) (by kernel_rfl) (at_dep rfl rfl rfl)) ⟨g_fr (by kernel_rfl) rfl, trivial⟩ (fun w hw => rn_move rfl) (at_top rfl)) ?_
                        refine bl_cons 38 rfl (isV _) (stab_isV _) (rgV (li := [(110, _), (111, _)]) rfl (w_yes 106 rfl (by kernel_rfl) (by kernel_rfl) (at_dep rfl rfl rfl)) ⟨g_dep 35 (by kernel_rfl) (at_dep rfl rfl rfl), g_dep 36 (by kernel_rfl) (at_dep rfl rfl rfl), trivial⟩ (fun w hw => rn_indexA  Try.underlying23 Try.sizeOf3 rfl rfl rfl (by omega) rfl) (at_top rfl)) ?_
                        refine bl_cons 39 rfl (isV _) (stab_isV _) (rgV (li := [(112, _)]) rfl (w_yes 106 rfl (by kernel_rfl) (by kernel_rfl) (at_dep rfl rfl rfl)) ⟨g_dep 37 (by kernel_rfl) (at_dep rfl rfl rfl), trivial⟩ (fun w hw => rn_load Try.isAgg3 rfl ((below_agree hw 0).cell (Nat.zero_le _) (k2))) (at_top rfl)) ?_
                        refine bl_cons 40 rfl (isV _) (stab_isV _) (rgV (li := [(108, _), (113, _)]) rfl (w_yes 106 rfl (by kernel_rfl) (by kernel_rfl) (at_dep rfl rfl rfl)) ⟨g_dep 33 (by kernel_rfl) (at_dep rfl rfl rfl), g_dep 38 (by kernel_rfl) (at_dep rfl rfl rfl), trivial⟩ (fun w hw => rn_indexA (j := q2) Try.underlying23 Try.sizeOf3 rfl rfl (by omega) (by omega) rfl) (at_top rfl)) ?_
                        refine bl_cons 41 rfl (isV _) (stab_isV _) (rgV (li := [(114, _)]) rfl (w_yes 106 rfl (by kernel_rfl) (by kernel_rfl) (at_dep rfl rfl rfl)) ⟨g_dep 39 (by kernel_rfl) (at_dep rfl rfl rfl), trivial⟩ (fun w hw => rn_load Try.isAgg3 rfl ((below_agree hw 0).cell (Nat.zero_le _) (k4))) (at_top rfl)) ?_
                        refine bl_cons 42 rfl (isV _) (stab_isV _) (rgV (li := [(6, _)]) rfl (w_yes 106 rfl (by kernel_rfl) (by kernel_rfl) (at_dep rfl rfl rfl)) ⟨g_fr (by kernel_rfl) rfl, trivial⟩ (fun w hw => rn_move rfl) (at_top rfl)) ?_
                        refine bl_cons 43 rfl (isV _) (stab_isV _) (rgV (li := [(115, _), (116, _)]) rfl (w_yes 106 rfl (by kernel_rfl) (by kernel_rfl) (at_dep rfl rfl rfl)) ⟨g_dep 40 (by kernel_rfl) (at_dep rfl rfl rfl), g_dep 41 (by kernel_rfl) (at_dep rfl rfl rfl), trivial⟩ (fun w hw => rn_neq rfl rfl) (at_top rfl)) ?_
                        refine bl_cons 44 rfl (isV _) (stab_isV _) (rgV (li := [(106, _), (117, _)]) rfl (w_free rfl) ⟨g_dep 31 (by kernel_rfl) (at_dep rfl rfl rfl), g_dep 42 (by kernel_rfl) (at_dep rfl rfl rfl), trivial⟩ (fun w hw => rn_pickF rfl rfl) (at_top rfl)) ?_
                        refine bl_nil ?_
                        intro W8 hbR hS'
                        clear hS; have hS := hS'; clear hS'
                        refine fin_v ?_
                        refine fin_v ?_
                        refine fin_v ?_
                        refine fin_v ?_
                        refine fin_v ?_
                        refine fin_v ?_
                        refine fin_v ?_
                        refine fin_v ?_
                        refine fin_v ?_
                        refine fin_v ?_
                        refine fin_v ?_
                        refine fin_v ?_
                        refine fin_v ?_
                        refine fin_v ?_
                        refine fin_v ?_
                        refine fin_v ?_
                        refine fin_v ?_
                        refine fin_v ?_
                        refine fin_v ?_
                        refine fin_v ?_
                        refine fin_v ?_
                        refine fin_v ?_
                        refine fin_v ?_
                        refine fin_v ?_
                        refine fin_v ?_
                        refine fin_v ?_
                        refine fin_v ?_
                        refine fin_v ?_
                        refine fin_v ?_
                        refine fin_v ?_
                        refine fin_v ?_
                        refine fin_v ?_
                        refine fin_v ?_
                        refine fin_v ?_
                        refine fin_v ?_
                        refine fin_v ?_
                        refine fin_v ?_
                        refine fin_v ?_
                        refine fin_v ?_
                        refine fin_v ?_
                        refine fin_v ?_
                        refine fin_v ?_
                        refine fin_v ?_
                        refine fin_v ?_
                        refine fin_nil ?_
                        refine XF.thenN ?_
                        refine condF rfl (fun hc => ?_) (fun hc => ?_)
                        · have hc118 := hc; clear hc
                          have hne : ¬ y2 = (i : Int) := of_decide_eq_true hc118
                          refine seqF ?_
                          refine regF ?_
                          refine op_assign rfl rfl ?_
                          refine endF ?_
                          refine XF.thenN ?_
                          refine retF ?_
                          refine XF.blkR ?_
                          refine XF.thenR ?_
                          refine XF.thenR ?_
                          refine XF.blkR ?_
                          refine XF.thenR ?_
                          refine XF.res (res1 Try.results25 rfl) ?_
                          exact ⟨rbool (by unfold headsB; dsimp only; rw [if_neg (by omega), if_neg (by omega), if_neg (by omega), if_neg (by omega), if_neg (by omega), if_neg (by omega), if_neg (by rw [hmn]; simp), if_neg (by omega), if_neg (by rw [hall]; simp), if_pos (range_false hi1 (by show (nodeB os ol es i && nodeB os ol xs i) = false; rw [nodeB_at hn2 h2 (by rw [Int.toNat_natCast]; exact hy2), decide_eq_false hne, Bool.and_false]))]), hS.below⟩
                        · have hc118 := hc; clear hc
                          have hff : y2 = (i : Int) := Decidable.of_not_not (of_decide_eq_false hc118)
                          refine skipF ?_
                          refine XF.blkN ?_
                          refine XF.thenN ?_
                          refine regF ?_
                          refine op_move rfl rfl ?_
                          refine op_add rfl rfl (IntWalk.i64_in _ (by omega)) rfl ?_
                          refine op_assign rfl rfl ?_
                          refine endF ?_
                          exact XF.round (pl - (i + 1)) [(1, _), (3, _), (4, _), (6, _)] (by omega) ⟨rfl, rfl, rfl, rfl, trivial⟩ ⟨i + 1, by omega, rfl, rfl, range_take hi1 hpr (by show (nodeB os ol es i && nodeB os ol xs i) = true; rw [nodeB_at hn1 h1 (by rw [Int.toNat_natCast]; exact hy1), nodeB_at hn2 h2 (by rw [Int.toNat_natCast]; exact hy2), decide_eq_true hee, decide_eq_true hff]; rfl), hS.clear⟩
                    · have hc72 := of_decide_eq_false hc; clear hc
                      have hpp : i = pl := by omega
                      rw [hpp] at hpr
                      refine exitF ?_
                      refine XF.thenX ?_
                      refine XF.thenX ?_
                      refine XF.blkX ?_
                      refine XF.thenN ?_
                      refine seqF ?_
                      refine seqF ?_
                      refine regF ?_
                      refine op_assign rfl rfl ?_
                      refine endF ?_
                      refine XF.thenN ?_
                      refine blockF ?_
                      refine loopF (fun m l W => ∃ i : Nat, i ≤ tl ∧ m = tl - i ∧ l = [(1, .pointer (some ⟨B1, 0, none⟩)), (3, .int .i64 (pl : Int)), (7, .int .i64 (i : Int))] ∧ (ts.take i).all (fun u => inQ u.pr pl) = true ∧ St w [(B1, [.slice va vl vc, .slice pa pl pc, .slice ea el ec, .slice xa xl xc, .int .i64 mn, .slice oa ol oc, .slice sa sl sc, .slice ta tl tc, .slice na nl nc, .slice ka kl kc], 29)] [] [] W) (tl - 0) ([(1, _), (3, _), (7, _)]) ⟨rfl, rfl, rfl, trivial⟩ (⟨0, Nat.zero_le _, rfl, rfl, rfl, hS.clear⟩) ?_
                      clear hS
                      rintro m l W ⟨i, hi, rfl, rfl, hts, hS⟩
                      refine seqF ?_
                      refine seqF ?_
                      refine regF ?_
                      refine op_move rfl rfl ?_
                      refine op_field (o' := 7) fa_29_7 rfl rfl rfl ?_
                      refine op_load Try.isAgg25 rfl (cell_own (hS.at_ 0 rfl) rfl) rfl ?_
                      refine op_len Try.underlying25 rfl rfl ?_
                      refine op_lss rfl rfl rfl ?_
                      refine endF ?_
                      refine XF.thenN ?_
                      refine condF rfl (fun hc => ?_) (fun hc => ?_)
                      · have hc123 := of_decide_eq_true hc; clear hc
                        have hk1 : i < tl := by omega
                        obtain ⟨b, off, u, rfl, hy, hyc⟩ := ht.get (i := i) (by omega)
                        have k1 := (CellsAt.agree hS.agree (Nat.zero_le _) hyc).2.1
                        refine skipF ?_
                        refine XF.thenN ?_
                        refine seqF ?_
                        refine blockF ?_
                        refine seqF ?_
                        refine regF ?_
                        refine op_field (o' := 7) fa_29_7 rfl rfl rfl ?_
                        refine op_load Try.isAgg25 rfl (cell_own (hS.at_ 0 rfl) rfl) rfl ?_
                        refine op_move rfl rfl ?_
                        refine op_indexA  Try.underlying25 Try.sizeOf47 rfl rfl rfl (by omega) rfl rfl ?_
                        refine op_field fa_47_1 rfl rfl rfl ?_
                        refine op_load Try.isAgg3 rfl (k1) rfl ?_
                        refine op_move rfl rfl ?_
                        refine op_call (vs := [_, _]) hS goes_27 rfl (in_is u.pr pl _) rfl ?_
                        rintro e W9 ⟨rfl, hb⟩
                        refine ⟨_, rfl, hb, fun hS' => ?_⟩
                        clear hS; have hS := hS'; clear hS' hb
                        refine op_not rfl rfl ?_
                        refine endF ?_
                        refine XF.thenN ?_
                        refine condF rfl (fun hc => ?_) (fun hc => ?_)
                        · have hc134 := hc; clear hc
                          refine seqF ?_
                          refine regF ?_
                          refine op_assign rfl rfl ?_
                          refine endF ?_
                          refine XF.thenN ?_
                          refine retF ?_
                          refine XF.blkR ?_
                          refine XF.thenR ?_
                          refine XF.thenR ?_
                          refine XF.blkR ?_
                          refine XF.thenR ?_
                          refine XF.res (res1 Try.results25 rfl) ?_
                          exact ⟨rbool (by unfold headsB; dsimp only; rw [if_neg (by omega), if_neg (by omega), if_neg (by omega), if_neg (by omega), if_neg (by omega), if_neg (by omega), if_neg (by rw [hmn]; simp), if_neg (by omega), if_neg (by rw [hall]; simp), if_neg (by rw [hpr]; simp), all_false_at hy (by simpa using hc134)]), hS.below⟩
                        · have hc134 := hc; clear hc
                          refine skipF ?_
                          refine XF.blkN ?_
                          refine XF.thenN ?_
                          refine regF ?_
                          refine op_move rfl rfl ?_
                          refine op_add rfl rfl (IntWalk.i64_in _ (by omega)) rfl ?_
                          refine op_assign rfl rfl ?_
                          refine endF ?_
                          exact XF.round (tl - (i + 1)) [(1, _), (3, _), (7, _)] (by omega) ⟨rfl, rfl, rfl, trivial⟩ ⟨i + 1, by omega, rfl, rfl, all_take_at hy hts (by simpa using hc134), hS.clear⟩
                      · have hc123 := of_decide_eq_false hc; clear hc
                        rw [List.take_of_length_le (by omega)] at hts
                        refine exitF ?_
                        refine XF.thenX ?_
                        refine XF.thenX ?_
                        refine XF.blkX ?_
                        refine XF.thenN ?_
                        refine seqF ?_
                        refine regF ?_
                        refine op_assign rfl rfl ?_
                        refine endF ?_
                        refine XF.thenN ?_
                        refine retF ?_
                        refine XF.res (res1 Try.results25 rfl) ?_
                        exact ⟨rbool (by unfold headsB; dsimp only; rw [if_neg (by omega), if_neg (by omega), if_neg (by omega), if_neg (by omega), if_neg (by omega), if_neg (by omega), if_neg (by rw [hmn]; simp), if_neg (by omega), if_neg (by rw [hall]; simp), if_neg (by rw [hpr]; simp), hts]), hS.below⟩
end Go.Proofs.Ytpinbmjkbkogdaa
