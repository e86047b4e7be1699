import Derived.Orders
import Derived.Below
import Derived.Deep.RegionHeld
import Derived.WalkKit
import Derived.KernelRfl
import Derived.Laws.Rows
import Derived.Laws.AppendOwn
import Derived.Laws.Strings
import Derived.Laws.Small
import Derived.Lib.Hide
import Derived.IntWalk
import Derived.Laws.Tables
import Derived.Laws.Concat
import Derived.Laws.MakeOwn
import Derived.Lib.OwnBridge
import Derived.Laws.IdiomStrings
import Derived.Lib.ItoaLen
import Derived.Lib.UnsafeStr
import Derived.Lib.AppendIntMem
import Derived.Test.YtpinbmjkbkogdaaRows
import Derived.RangeFuncNested
import Derived.RangeFuncBound
import Derived.RangeFuncCalls
import Derived.RangeFuncLeaves
import Derived.OwnWalkIn
import Derived.TacticsInMore
import Derived.LoopNIn
import Derived.Shelf.Abstract
import Derived.Lib.SmallJoins
import Derived.Deep.Slices
import Derived.Deep.Fields
import Derived.ChangeSlices
import Derived.ChangeSame
import Derived.ProofKit
import Derived.Test.YtpinbmjkbkogdaaBackA
import Derived.Test.YtpinbmjkbkogdaaBackB
set_option linter.unusedVariables false
set_option linter.unusedSimpArgs false
set_option linter.unusedSectionVars false
set_option linter.unnecessarySimpa false
namespace Go.Proofs.Ytpinbmjkbkogdaa
open Go Go.RowKit
set_option linter.unusedVariables false
theorem bld_53_0 (v0 : Int) : Try.prog.built 53 [(0, .int .i64 v0)] = some #[.int .i64 v0, .int .i64 0, .slice none 0 0] := by kernel_rfl
theorem bld_67 : Try.prog.built 67 [] = some #[.bool false, .int .i64 0, .int .u64 0, .slice none 0 0, .slice none 0 0, .slice none 0 0] := by kernel_rfl
theorem goes_12 : goesIn Try.prog 12 = true := by kernel_rfl
set_option maxRecDepth 100000 in
set_option maxHeartbeats 4000000 in
theorem ints_is (wa va : Option Addr) (wl wc vl vc : Nat) (ws vs : List Int) (w : World) (hrow : RowI w wa ws) (hlen : ws.length = wl) (hrov : RowI w va vs) (hlev : vs.length = vl) (hmx : wl ≤ 9223372036854775807) :
    Calls Try.prog 12 #[.slice wa wl wc, .slice va vl vc] w (fun e w' => e = .returned (.bool (decide (ws = vs))) ∧ Below w.heap.size w w') := by
  refine enterF (args := [.slice wa wl wc, .slice va vl vc]) Try.func12 rfl Try.ntmps12 rfl ?_
  have hS := St.start w
  refine seqF ?_
  refine regF ?_
  refine op_assign rfl rfl ?_
  refine endF ?_
  refine XF.thenN ?_
  refine seqF ?_
  refine seqF ?_
  refine regF ?_
  refine op_move rfl rfl ?_
  refine op_len Try.underlying23 rfl rfl ?_
  refine op_move rfl rfl ?_
  refine op_len Try.underlying23 rfl rfl ?_
  refine op_neq rfl rfl rfl ?_
  refine endF ?_
  refine XF.thenN ?_
  refine condF rfl (fun hc => ?_) (fun hc => ?_)
  · have hc10 := of_decide_eq_true hc; clear hc
    refine seqF ?_
    refine regF ?_
    refine op_assign rfl rfl ?_
    refine endF ?_
    refine XF.thenN ?_
    refine retF ?_
    refine XF.thenR ?_
    refine XF.res (res1 Try.results12 rfl) ?_
    exact ⟨rbool (decide_eq_false (fun h => absurd (congrArg List.length h) (by omega))).symm, hS.below⟩
  · have hc10 := of_decide_eq_false hc; clear hc
    have hll : wl = vl := by omega
    refine skipF ?_
    refine XF.thenN ?_
    refine seqF ?_
    refine seqF ?_
    refine regF ?_
    refine op_assign rfl rfl ?_
    refine endF ?_
    refine XF.thenN ?_
    refine blockF ?_
    refine loopF (fun m l W => ∃ i : Nat, i ≤ wl ∧ m = wl - i ∧ l = [(0, .slice wa wl wc), (1, .slice va vl vc), (5, .int .i64 (i : Int))] ∧ ws.take i = vs.take i ∧ St w [] [] [] W) (wl - 0) ([(0, _), (1, _), (5, _)]) ⟨rfl, rfl, rfl, trivial⟩ (⟨0, Nat.zero_le _, rfl, rfl, rfl, hS.clear⟩) ?_
    clear hS
    rintro m l W ⟨i, hi, rfl, rfl, hall, hS⟩
    refine seqF ?_
    refine seqF ?_
    refine regF ?_
    refine op_move rfl rfl ?_
    refine op_move rfl rfl ?_
    refine op_len Try.underlying23 rfl rfl ?_
    refine op_lss rfl rfl rfl ?_
    refine endF ?_
    refine XF.thenN ?_
    refine condF rfl (fun hc => ?_) (fun hc => ?_)
    · have hc14 := of_decide_eq_true hc; clear hc
      have hk : i < wl := by omega
      obtain ⟨b, off, y, rfl, hy, hyc⟩ := hrow.get (i := i) (by omega)
      obtain ⟨b2, off2, z, rfl, hz, hzc⟩ := hrov.get (i := i) (by omega)
      have k1 := (CellsAt.agree hS.agree (Nat.zero_le _) hyc).1
      have k2 := (CellsAt.agree hS.agree (Nat.zero_le _) hzc).1
      refine skipF ?_
      refine XF.thenN ?_
      refine seqF ?_
      refine blockF ?_
      refine seqF ?_
      refine regB (m := 9) followsM hS (by kernel_rfl) (by kernel_rfl) rfl ?_
      refine bl_cons 1 rfl (isV _) (stab_isV _) (rgV (li := [(0, _)]) rfl (w_free rfl) ⟨g_fr (by kernel_rfl) rfl, trivial⟩ (fun w hw => rn_move rfl) (at_top rfl)) ?_
      refine bl_cons 2 rfl (isV _) (stab_isV _) (rgV (li := [(5, _)]) rfl (w_free rfl) ⟨g_fr (by kernel_rfl) rfl, trivial⟩ (fun w hw => rn_move rfl) (at_top rfl)) ?_
      refine bl_cons 3 rfl (isV _) (stab_isV _) (rgV (li := [(17, _), (18, _)]) rfl (w_free rfl) ⟨g_dep 0 (by kernel_rfl) (at_dep rfl rfl rfl), g_dep 1 (by kernel_rfl) (at_dep rfl rfl rfl), trivial⟩ (fun w hw => rn_indexA  Try.underlying23 Try.sizeOf3 rfl rfl rfl (by omega) rfl) (at_top rfl)) ?_
      refine bl_cons 4 rfl (isV _) (stab_isV _) (rgV (li := [(19, _)]) rfl (w_free rfl) ⟨g_dep 2 (by kernel_rfl) (at_dep rfl rfl rfl), trivial⟩ (fun w hw => rn_load Try.isAgg3 rfl ((below_agree hw 0).cell (Nat.zero_le _) (k1))) (at_top rfl)) ?_
      refine bl_cons 5 rfl (isV _) (stab_isV _) (rgV (li := [(1, _)]) rfl (w_free rfl) ⟨g_fr (by kernel_rfl) rfl, trivial⟩ (fun w hw => rn_move rfl) (at_top rfl)) ?_
      refine bl_cons 6 rfl (isV _) (stab_isV _) (rgV (li := [(5, _)]) rfl (w_free rfl) ⟨g_fr (by kernel_rfl) rfl, trivial⟩ (fun w hw => rn_move rfl) (at_top rfl)) ?_
      refine bl_cons 7 rfl (isV _) (stab_isV _) (rgV (li := [(21, _), (22, _)]) rfl (w_free rfl) ⟨g_dep 4 (by kernel_rfl) (at_dep rfl rfl rfl), g_dep 5 (by kernel_rfl) (at_dep rfl rfl rfl), trivial⟩ (fun w hw => rn_indexA  Try.underlying23 Try.sizeOf3 rfl rfl rfl (by omega) rfl) (at_top rfl)) ?_
      refine bl_cons 8 rfl (isV _) (stab_isV _) (rgV (li := [(23, _)]) rfl (w_free rfl) ⟨g_dep 6 (by kernel_rfl) (at_dep rfl rfl rfl), trivial⟩ (fun w hw => rn_load Try.isAgg3 rfl ((below_agree hw 0).cell (Nat.zero_le _) (k2))) (at_top rfl)) ?_
      refine bl_cons 9 rfl (isV _) (stab_isV _) (rgV (li := [(20, _), (24, _)]) rfl (w_free rfl) ⟨g_dep 3 (by kernel_rfl) (at_dep rfl rfl rfl), g_dep 7 (by kernel_rfl) (at_dep rfl rfl rfl), trivial⟩ (fun w hw => rn_neq rfl rfl) (at_top rfl)) ?_
      refine bl_nil ?_
      intro W1 hbR hS'
      clear hS; have hS := hS'; clear hS'
      refine fin_v ?_
      refine fin_v ?_
      refine fin_v ?_
      refine fin_v ?_
      refine fin_v ?_
      refine fin_v ?_
      refine fin_v ?_
      refine fin_v ?_
      refine fin_v ?_
      refine fin_nil ?_
      refine XF.thenN ?_
      refine condF rfl (fun hc => ?_) (fun hc => ?_)
      · have hc25 := hc; clear hc
        refine seqF ?_
        refine regF ?_
        refine op_assign rfl rfl ?_
        refine endF ?_
        refine XF.thenN ?_
        refine retF ?_
        refine XF.blkR ?_
        refine XF.thenR ?_
        refine XF.thenR ?_
        refine XF.blkR ?_
        refine XF.thenR ?_
        refine XF.res (res1 Try.results12 rfl) ?_
        exact ⟨rbool (decide_eq_false (fun h => absurd (show y = z by have e := h ▸ hy; rw [hz] at e; exact (Option.some.inj e).symm) (by simpa using hc25))).symm, hS.below⟩
      · have hc25 := hc; clear hc
        refine skipF ?_
        refine XF.blkN ?_
        refine XF.thenN ?_
        refine regF ?_
        refine op_move rfl rfl ?_
        refine op_add rfl rfl (IntWalk.i64_in _ (by omega)) rfl ?_
        refine op_assign rfl rfl ?_
        refine endF ?_
        exact XF.round (wl - (i + 1)) [(0, _), (1, _), (5, _)] (by omega) ⟨rfl, rfl, rfl, trivial⟩ ⟨i + 1, by omega, rfl, rfl, take_same hall hy hz (by simpa using hc25), hS.clear⟩
    · have hc14 := of_decide_eq_false hc; clear hc
      refine exitF ?_
      refine XF.thenX ?_
      refine XF.thenX ?_
      refine XF.blkX ?_
      refine XF.thenN ?_
      refine seqF ?_
      refine regF ?_
      refine op_assign rfl rfl ?_
      refine endF ?_
      refine XF.thenN ?_
      refine retF ?_
      refine XF.res (res1 Try.results12 rfl) ?_
      rw [List.take_of_length_le (by omega), List.take_of_length_le (by omega)] at hall
      exact ⟨rbool (decide_eq_true hall).symm, hS.below⟩

set_option maxRecDepth 100000 in
set_option maxHeartbeats 4000000 in
theorem sameConf_is (p q : Int) (wa va : Option Addr) (wl wc vl vc : Nat) (ws vs : List Int) (w : World) (hrow : RowI w wa ws) (hlen : ws.length = wl) (hrov : RowI w va vs) (hlev : vs.length = vl) (hmx : wl ≤ 9223372036854775807) :
    Calls Try.prog 11 #[.agg #[.int .i64 p, .slice wa wl wc], .agg #[.int .i64 q, .slice va vl vc]] w (fun e w' => e = .returned (.bool (decide (p = q) && decide (ws = vs))) ∧ Below w.heap.size w w') := by
  refine enterF (args := [.agg #[.int .i64 p, .slice wa wl wc], .agg #[.int .i64 q, .slice va vl vc]]) Try.func11 rfl Try.ntmps11 rfl ?_
  have hS := St.start w
  refine seqF ?_
  refine regF ?_
  refine op_box (cs := [_, _]) hS rfl rfl rfl ?_
  clear hS; intro B1 W1 hS
  refine op_box (cs := [_, _]) hS rfl rfl rfl ?_
  clear hS; intro B2 W2 hS
  refine op_assign rfl rfl ?_
  refine endF ?_
  refine XF.thenN ?_
  refine seqF ?_
  refine regF ?_
  refine op_field (o' := 0) fa_31_0 rfl rfl rfl ?_
  refine op_load Try.isAgg3 rfl (cell_own (hS.at_ 1 rfl) rfl) rfl ?_
  refine op_field (o' := 0) fa_31_0 rfl rfl rfl ?_
  refine op_load Try.isAgg3 rfl (cell_own (hS.at_ 0 rfl) rfl) rfl ?_
  refine op_eql rfl rfl rfl ?_
  refine op_move rfl rfl ?_
  refine op_cases (d := 10) rfl (fun hc => ?_) (fun hc => ?_)
  · have hg10 := of_decide_eq_true hc; clear hc
    refine op_wantedF (d := 10) rfl rfl ?_
    refine op_field (o' := 1) fa_31_1 rfl rfl rfl ?_
    refine op_wantedF (d := 10) rfl rfl ?_
    refine op_load Try.isAgg23 rfl (cell_own (hS.at_ 1 rfl) rfl) rfl ?_
    refine op_wantedF (d := 10) rfl rfl ?_
    refine op_field (o' := 1) fa_31_1 rfl rfl rfl ?_
    refine op_wantedF (d := 10) rfl rfl ?_
    refine op_load Try.isAgg23 rfl (cell_own (hS.at_ 0 rfl) rfl) rfl ?_
    refine op_wantedF (d := 10) rfl rfl ?_
    refine op_call (vs := [_, _]) hS goes_12 rfl (ints_is _ _ _ _ _ _ ws vs _ (hrow.below hS.below) hlen (hrov.below hS.below) hlev hmx) rfl ?_
    rintro e W3 ⟨rfl, hb⟩
    refine ⟨_, rfl, hb, fun hS' => ?_⟩
    clear hS; have hS := hS'; clear hS' hb
    refine op_pickT rfl rfl rfl ?_
    refine op_assign rfl rfl ?_
    refine endF ?_
    refine XF.thenN ?_
    refine retF ?_
    refine XF.res (res1 Try.results11 rfl) ?_
    exact ⟨rbool (by rw [decide_eq_true hg10]; rfl), hS.below⟩
  · have hg10 := of_decide_eq_false hc; clear hc
    refine op_notF (d := 10) rfl rfl rfl rfl ?_
    refine op_notF (d := 10) rfl rfl rfl rfl ?_
    refine op_notF (d := 10) rfl rfl rfl rfl ?_
    refine op_notF (d := 10) rfl rfl rfl rfl ?_
    refine op_notF (d := 10) rfl rfl rfl rfl ?_
    refine op_pickF rfl rfl rfl ?_
    refine op_assign rfl rfl ?_
    refine endF ?_
    refine XF.thenN ?_
    refine retF ?_
    refine XF.res (res1 Try.results11 rfl) ?_
    exact ⟨rbool (by rw [decide_eq_false hg10]; rfl), hS.below⟩

set_option maxRecDepth 100000 in
set_option maxHeartbeats 4000000 in
theorem small_is (g : GV) (w : World) :
    Calls Try.prog 5 #[g.val] w (fun e w' => e = .returned (.bool (smallB g)) ∧ Below w.heap.size w w') := by
  refine enterF (args := [g.val]) Try.func5 rfl Try.ntmps5 rfl ?_
  have hS := St.start w
  refine seqF ?_
  refine regF ?_
  refine op_box (cs := [_, _, _, _, _, _, _, _, _, _]) hS rfl rfl rfl ?_
  clear hS; intro B1 W1 hS
  refine op_assign rfl rfl ?_
  refine endF ?_
  refine XF.thenN ?_
  refine seqF ?_
  refine regF ?_
  refine op_field (o' := 0) fa_29_0 rfl rfl rfl ?_
  refine op_load Try.isAgg22 rfl (cell_own (hS.at_ 0 rfl) rfl) rfl ?_
  refine op_len Try.underlying22 rfl rfl ?_
  refine op_leq rfl rfl rfl ?_
  refine op_move rfl rfl ?_
  refine op_cases (d := 7) rfl (fun hc => ?_) (fun hc => ?_)
  · have hg7 := of_decide_eq_true hc; clear hc
    refine op_wantedF (d := 7) rfl rfl ?_
    refine op_field (o' := 1) fa_29_1 rfl rfl rfl ?_
    refine op_wantedF (d := 7) rfl rfl ?_
    refine op_load Try.isAgg22 rfl (cell_own (hS.at_ 0 rfl) rfl) rfl ?_
    refine op_wantedF (d := 7) rfl rfl ?_
    refine op_len Try.underlying22 rfl rfl ?_
    refine op_wantedF (d := 7) rfl rfl ?_
    refine op_leq rfl rfl rfl ?_
    refine op_pickT rfl rfl rfl ?_
    refine op_move rfl rfl ?_
    refine op_cases (d := 13) rfl (fun hc => ?_) (fun hc => ?_)
    · have hg13 := of_decide_eq_true hc; clear hc
      refine op_wantedF (d := 13) rfl rfl ?_
      refine op_field (o' := 2) fa_29_2 rfl rfl rfl ?_
      refine op_wantedF (d := 13) rfl rfl ?_
      refine op_load Try.isAgg23 rfl (cell_own (hS.at_ 0 rfl) rfl) rfl ?_
      refine op_wantedF (d := 13) rfl rfl ?_
      refine op_len Try.underlying23 rfl rfl ?_
      refine op_wantedF (d := 13) rfl rfl ?_
      refine op_leq rfl rfl rfl ?_
      refine op_pickT rfl rfl rfl ?_
      refine op_move rfl rfl ?_
      refine op_cases (d := 19) rfl (fun hc => ?_) (fun hc => ?_)
      · have hg19 := of_decide_eq_true hc; clear hc
        refine op_wantedF (d := 19) rfl rfl ?_
        refine op_field (o' := 3) fa_29_3 rfl rfl rfl ?_
        refine op_wantedF (d := 19) rfl rfl ?_
        refine op_load Try.isAgg23 rfl (cell_own (hS.at_ 0 rfl) rfl) rfl ?_
        refine op_wantedF (d := 19) rfl rfl ?_
        refine op_len Try.underlying23 rfl rfl ?_
        refine op_wantedF (d := 19) rfl rfl ?_
        refine op_leq rfl rfl rfl ?_
        refine op_pickT rfl rfl rfl ?_
        refine op_move rfl rfl ?_
        refine op_cases (d := 25) rfl (fun hc => ?_) (fun hc => ?_)
        · have hg25 := of_decide_eq_true hc; clear hc
          refine op_wantedF (d := 25) rfl rfl ?_
          refine op_field (o' := 5) fa_29_5 rfl rfl rfl ?_
          refine op_wantedF (d := 25) rfl rfl ?_
          refine op_load Try.isAgg23 rfl (cell_own (hS.at_ 0 rfl) rfl) rfl ?_
          refine op_wantedF (d := 25) rfl rfl ?_
          refine op_len Try.underlying23 rfl rfl ?_
          refine op_wantedF (d := 25) rfl rfl ?_
          refine op_leq rfl rfl rfl ?_
          refine op_pickT rfl rfl rfl ?_
          refine op_move rfl rfl ?_
          refine op_cases (d := 31) rfl (fun hc => ?_) (fun hc => ?_)
          · have hg31 := of_decide_eq_true hc; clear hc
            refine op_wantedF (d := 31) rfl rfl ?_
            refine op_field (o' := 6) fa_29_6 rfl rfl rfl ?_
            refine op_wantedF (d := 31) rfl rfl ?_
            refine op_load Try.isAgg24 rfl (cell_own (hS.at_ 0 rfl) rfl) rfl ?_
            refine op_wantedF (d := 31) rfl rfl ?_
            refine op_len Try.underlying24 rfl rfl ?_
            refine op_wantedF (d := 31) rfl rfl ?_
            refine op_leq rfl rfl rfl ?_
            refine op_pickT rfl rfl rfl ?_
            refine op_move rfl rfl ?_
            refine op_cases (d := 37) rfl (fun hc => ?_) (fun hc => ?_)
            · have hg37 := of_decide_eq_true hc; clear hc
              refine op_wantedF (d := 37) rfl rfl ?_
              refine op_field (o' := 7) fa_29_7 rfl rfl rfl ?_
              refine op_wantedF (d := 37) rfl rfl ?_
              refine op_load Try.isAgg25 rfl (cell_own (hS.at_ 0 rfl) rfl) rfl ?_
              refine op_wantedF (d := 37) rfl rfl ?_
              refine op_len Try.underlying25 rfl rfl ?_
              refine op_wantedF (d := 37) rfl rfl ?_
              refine op_leq rfl rfl rfl ?_
              refine op_pickT rfl rfl rfl ?_
              refine op_move rfl rfl ?_
              refine op_cases (d := 43) rfl (fun hc => ?_) (fun hc => ?_)
              · have hg43 := of_decide_eq_true hc; clear hc
                refine op_wantedF (d := 43) rfl rfl ?_
                refine op_field (o' := 8) fa_29_8 rfl rfl rfl ?_
                refine op_wantedF (d := 43) rfl rfl ?_
                refine op_load Try.isAgg26 rfl (cell_own (hS.at_ 0 rfl) rfl) rfl ?_
                refine op_wantedF (d := 43) rfl rfl ?_
                refine op_len Try.underlying26 rfl rfl ?_
                refine op_wantedF (d := 43) rfl rfl ?_
                refine op_leq rfl rfl rfl ?_
                refine op_pickT rfl rfl rfl ?_
                refine op_move rfl rfl ?_
                refine op_cases (d := 49) rfl (fun hc => ?_) (fun hc => ?_)
                · have hg49 := of_decide_eq_true hc; clear hc
                  refine op_wantedF (d := 49) rfl rfl ?_
                  refine op_field (o' := 9) fa_29_9 rfl rfl rfl ?_
                  refine op_wantedF (d := 49) rfl rfl ?_
                  refine op_load Try.isAgg27 rfl (cell_own (hS.at_ 0 rfl) rfl) rfl ?_
                  refine op_wantedF (d := 49) rfl rfl ?_
                  refine op_len Try.underlying27 rfl rfl ?_
                  refine op_wantedF (d := 49) rfl rfl ?_
                  refine op_leq rfl rfl rfl ?_
                  refine op_pickT rfl rfl rfl ?_
                  refine op_assign rfl rfl ?_
                  refine endF ?_
                  refine XF.thenN ?_
                  refine retF ?_
                  refine XF.res (res1 Try.results5 rfl) ?_
                  exact ⟨rbool (by unfold smallB; rw [if_neg (by omega), if_neg (by omega), if_neg (by omega), if_neg (by omega), if_neg (by omega), if_neg (by omega), if_neg (by omega), if_neg (by omega)]; exact decide_eq_decide.2 (by omega)), hS.below⟩
                · have hg49 := of_decide_eq_false hc; clear hc
                  refine op_notF (d := 49) rfl rfl rfl rfl ?_
                  refine op_notF (d := 49) rfl rfl rfl rfl ?_
                  refine op_notF (d := 49) rfl rfl rfl rfl ?_
                  refine op_notF (d := 49) rfl rfl rfl rfl ?_
                  refine op_pickF rfl rfl rfl ?_
                  refine op_assign rfl rfl ?_
                  refine endF ?_
                  refine XF.thenN ?_
                  refine retF ?_
                  refine XF.res (res1 Try.results5 rfl) ?_
                  exact ⟨rbool (by unfold smallB; rw [if_neg (by omega), if_neg (by omega), if_neg (by omega), if_neg (by omega), if_neg (by omega), if_neg (by omega), if_neg (by omega), if_pos (by omega)]), hS.below⟩
              · have hg43 := of_decide_eq_false hc; clear hc
                refine op_notF (d := 43) rfl rfl rfl rfl ?_
                refine op_notF (d := 43) rfl rfl rfl rfl ?_
                refine op_notF (d := 43) rfl rfl rfl rfl ?_
                refine op_notF (d := 43) rfl rfl rfl rfl ?_
                refine op_pickF rfl rfl rfl ?_
                refine op_move rfl rfl ?_
                refine op_notF (d := 49) rfl rfl rfl rfl ?_
                refine op_notF (d := 49) rfl rfl rfl rfl ?_
                refine op_notF (d := 49) rfl rfl rfl rfl ?_
                refine op_notF (d := 49) rfl rfl rfl rfl ?_
                refine op_pickF rfl rfl rfl ?_
                refine op_assign rfl rfl ?_
                refine endF ?_
                refine XF.thenN ?_
                refine retF ?_
                refine XF.res (res1 Try.results5 rfl) ?_
                exact ⟨rbool (by unfold smallB; rw [if_neg (by omega), if_neg (by omega), if_neg (by omega), if_neg (by omega), if_neg (by omega), if_neg (by omega), if_pos (by omega)]), hS.below⟩
            · have hg37 := of_decide_eq_false hc; clear hc
              refine op_notF (d := 37) rfl rfl rfl rfl ?_
              refine op_notF (d := 37) rfl rfl rfl rfl ?_
              refine op_notF (d := 37) rfl rfl rfl rfl ?_
              refine op_notF (d := 37) rfl rfl rfl rfl ?_
              refine op_pickF rfl rfl rfl ?_
              refine op_move rfl rfl ?_
              refine op_notF (d := 43) rfl rfl rfl rfl ?_
              refine op_notF (d := 43) rfl rfl rfl rfl ?_
              refine op_notF (d := 43) rfl rfl rfl rfl ?_
              refine op_notF (d := 43) rfl rfl rfl rfl ?_
              refine op_pickF rfl rfl rfl ?_
              refine op_move rfl rfl ?_
              refine op_notF (d := 49) rfl rfl rfl rfl ?_
              refine op_notF (d := 49) rfl rfl rfl rfl ?_
              refine op_notF (d := 49) rfl rfl rfl rfl ?_
              refine op_notF (d := 49) rfl rfl rfl rfl ?_
              refine op_pickF rfl rfl rfl ?_
              refine op_assign rfl rfl ?_
              refine endF ?_
              refine XF.thenN ?_
              refine retF ?_
              refine XF.res (res1 Try.results5 rfl) ?_
              exact ⟨rbool (by unfold smallB; rw [if_neg (by omega), if_neg (by omega), if_neg (by omega), if_neg (by omega), if_neg (by omega), if_pos (by omega)]), hS.below⟩
          · have hg31 := of_decide_eq_false hc; clear hc
            refine op_notF (d := 31) rfl rfl rfl rfl ?_
            refine op_notF (d := 31) rfl rfl rfl rfl ?_
            refine op_notF (d := 31) rfl rfl rfl rfl ?_
            refine op_notF (d := 31) rfl rfl rfl rfl ?_
            refine op_pickF rfl rfl rfl ?_
            refine op_move rfl rfl ?_
            refine op_notF (d := 37) rfl rfl rfl rfl ?_
            refine op_notF (d := 37) rfl rfl rfl rfl ?_
            refine op_notF (d := 37) rfl rfl rfl rfl ?_
            refine op_notF (d := 37) rfl rfl rfl rfl ?_
            refine op_pickF rfl rfl rfl ?_
            refine op_move rfl rfl ?_
            refine op_notF (d := 43) rfl rfl rfl rfl ?_
            refine op_notF (d := 43) rfl rfl rfl rfl ?_
            refine op_notF (d := 43) rfl rfl rfl rfl ?_
            refine op_notF (d := 43) rfl rfl rfl rfl ?_
            refine op_pickF rfl rfl rfl ?_
            refine op_move rfl rfl ?_
            refine op_notF (d := 49) rfl rfl rfl rfl ?_
            refine op_notF (d := 49) rfl rfl rfl rfl ?_
            refine op_notF (d := 49) rfl rfl rfl rfl ?_
            refine op_notF (d := 49) rfl rfl rfl rfl ?_
            refine op_pickF rfl rfl rfl ?_
            refine op_assign rfl rfl ?_
            refine endF ?_
            refine XF.thenN ?_
            refine retF ?_
            refine XF.res (res1 Try.results5 rfl) ?_
            exact ⟨rbool (by unfold smallB; rw [if_neg (by omega), if_neg (by omega), if_neg (by omega), if_neg (by omega), if_pos (by omega)]), hS.below⟩
        · have hg25 := of_decide_eq_false hc; clear hc
          refine op_notF (d := 25) rfl rfl rfl rfl ?_
          refine op_notF (d := 25) rfl rfl rfl rfl ?_
          refine op_notF (d := 25) rfl rfl rfl rfl ?_
          refine op_notF (d := 25) rfl rfl rfl rfl ?_
          refine op_pickF rfl rfl rfl ?_
          refine op_move rfl rfl ?_
          refine op_notF (d := 31) rfl rfl rfl rfl ?_
          refine op_notF (d := 31) rfl rfl rfl rfl ?_
          refine op_notF (d := 31) rfl rfl rfl rfl ?_
          refine op_notF (d := 31) rfl rfl rfl rfl ?_
          refine op_pickF rfl rfl rfl ?_
          refine op_move rfl rfl ?_
          refine op_notF (d := 37) rfl rfl rfl rfl ?_
          refine op_notF (d := 37) rfl rfl rfl rfl ?_
          refine op_notF (d := 37) rfl rfl rfl rfl ?_
          refine op_notF (d := 37) rfl rfl rfl rfl ?_
          refine op_pickF rfl rfl rfl ?_
          refine op_move rfl rfl ?_
          refine op_notF (d := 43) rfl rfl rfl rfl ?_
          refine op_notF (d := 43) rfl rfl rfl rfl ?_
          refine op_notF (d := 43) rfl rfl rfl rfl ?_
          refine op_notF (d := 43) rfl rfl rfl rfl ?_
          refine op_pickF rfl rfl rfl ?_
          refine op_move rfl rfl ?_
          refine op_notF (d := 49) rfl rfl rfl rfl ?_
          refine op_notF (d := 49) rfl rfl rfl rfl ?_
          refine op_notF (d := 49) rfl rfl rfl rfl ?_
          refine op_notF (d := 49) rfl rfl rfl rfl ?_
          refine op_pickF rfl rfl rfl ?_
          refine op_assign rfl rfl ?_
          refine endF ?_
          refine XF.thenN ?_
          refine retF ?_
          refine XF.res (res1 Try.results5 rfl) ?_
          exact ⟨rbool (by unfold smallB; rw [if_neg (by omega), if_neg (by omega), if_neg (by omega), if_pos (by omega)]), hS.below⟩
      · have hg19 := of_decide_eq_false hc; clear hc
        refine op_notF (d := 19) rfl rfl rfl rfl ?_
        refine op_notF (d := 19) rfl rfl rfl rfl ?_
        refine op_notF (d := 19) rfl rfl rfl rfl ?_
        refine op_notF (d := 19) rfl rfl rfl rfl ?_
        refine op_pickF rfl rfl rfl ?_
        refine op_move rfl rfl ?_
        refine op_notF (d := 25) rfl rfl rfl rfl ?_
        refine op_notF (d := 25) rfl rfl rfl rfl ?_
        refine op_notF (d := 25) rfl rfl rfl rfl ?_
        refine op_notF (d := 25) rfl rfl rfl rfl ?_
        refine op_pickF rfl rfl rfl ?_
        refine op_move rfl rfl ?_
        refine op_notF (d := 31) rfl rfl rfl rfl ?_
        refine op_notF (d := 31) rfl rfl rfl rfl ?_
        refine op_notF (d := 31) rfl rfl rfl rfl ?_
        refine op_notF (d := 31) rfl rfl rfl rfl ?_
        refine op_pickF rfl rfl rfl ?_
        refine op_move rfl rfl ?_
        refine op_notF (d := 37) rfl rfl rfl rfl ?_
        refine op_notF (d := 37) rfl rfl rfl rfl ?_
        refine op_notF (d := 37) rfl rfl rfl rfl ?_
        refine op_notF (d := 37) rfl rfl rfl rfl ?_
        refine op_pickF rfl rfl rfl ?_
        refine op_move rfl rfl ?_
        refine op_notF (d := 43) rfl rfl rfl rfl ?_
        refine op_notF (d := 43) rfl rfl rfl rfl ?_
        refine op_notF (d := 43) rfl rfl rfl rfl ?_
        refine op_notF (d := 43) rfl rfl rfl rfl ?_
        refine op_pickF rfl rfl rfl ?_
        refine op_move rfl rfl ?_
        refine op_notF (d := 49) rfl rfl rfl rfl ?_
        refine op_notF (d := 49) rfl rfl rfl rfl ?_
        refine op_notF (d := 49) rfl rfl rfl rfl ?_
        refine op_notF (d := 49) rfl rfl rfl rfl ?_
        refine op_pickF rfl rfl rfl ?_
        refine op_assign rfl rfl ?_
        refine endF ?_
        refine XF.thenN ?_
        refine retF ?_
        refine XF.res (res1 Try.results5 rfl) ?_
        exact ⟨rbool (by unfold smallB; rw [if_neg (by omega), if_neg (by omega), if_pos (by omega)]), hS.below⟩
    · have hg13 := of_decide_eq_false hc; clear hc
      refine op_notF (d := 13) rfl rfl rfl rfl ?_
      refine op_notF (d := 13) rfl rfl rfl rfl ?_
      refine op_notF (d := 13) rfl rfl rfl rfl ?_
      refine op_notF (d := 13) rfl rfl rfl rfl ?_
      refine op_pickF rfl rfl rfl ?_
      refine op_move rfl rfl ?_
      refine op_notF (d := 19) rfl rfl rfl rfl ?_
      refine op_notF (d := 19) rfl rfl rfl rfl ?_
      refine op_notF (d := 19) rfl rfl rfl rfl ?_
      refine op_notF (d := 19) rfl rfl rfl rfl ?_
      refine op_pickF rfl rfl rfl ?_
      refine op_move rfl rfl ?_
      refine op_notF (d := 25) rfl rfl rfl rfl ?_
      refine op_notF (d := 25) rfl rfl rfl rfl ?_
      refine op_notF (d := 25) rfl rfl rfl rfl ?_
      refine op_notF (d := 25) rfl rfl rfl rfl ?_
      refine op_pickF rfl rfl rfl ?_
      refine op_move rfl rfl ?_
      refine op_notF (d := 31) rfl rfl rfl rfl ?_
      refine op_notF (d := 31) rfl rfl rfl rfl ?_
      refine op_notF (d := 31) rfl rfl rfl rfl ?_
      refine op_notF (d := 31) rfl rfl rfl rfl ?_
      refine op_pickF rfl rfl rfl ?_
      refine op_move rfl rfl ?_
      refine op_notF (d := 37) rfl rfl rfl rfl ?_
      refine op_notF (d := 37) rfl rfl rfl rfl ?_
      refine op_notF (d := 37) rfl rfl rfl rfl ?_
      refine op_notF (d := 37) rfl rfl rfl rfl ?_
      refine op_pickF rfl rfl rfl ?_
      refine op_move rfl rfl ?_
      refine op_notF (d := 43) rfl rfl rfl rfl ?_
      refine op_notF (d := 43) rfl rfl rfl rfl ?_
      refine op_notF (d := 43) rfl rfl rfl rfl ?_
      refine op_notF (d := 43) rfl rfl rfl rfl ?_
      refine op_pickF rfl rfl rfl ?_
      refine op_move rfl rfl ?_
      refine op_notF (d := 49) rfl rfl rfl rfl ?_
      refine op_notF (d := 49) rfl rfl rfl rfl ?_
      refine op_notF (d := 49) rfl rfl rfl rfl ?_
      refine op_notF (d := 49) rfl rfl rfl rfl ?_
      refine op_pickF rfl rfl rfl ?_
      refine op_assign rfl rfl ?_
      refine endF ?_
      refine XF.thenN ?_
      refine retF ?_
      refine XF.res (res1 Try.results5 rfl) ?_
      exact ⟨rbool (by unfold smallB; rw [if_neg (by omega), if_pos (by omega)]), hS.below⟩
  · have hg7 := of_decide_eq_false hc; clear hc
    refine op_notF (d := 7) rfl rfl rfl rfl ?_
    refine op_notF (d := 7) rfl rfl rfl rfl ?_
    refine op_notF (d := 7) rfl rfl rfl rfl ?_
    refine op_notF (d := 7) rfl rfl rfl rfl ?_
    refine op_pickF rfl rfl rfl ?_
    refine op_move rfl rfl ?_
    refine op_notF (d := 13) rfl rfl rfl rfl ?_
    refine op_notF (d := 13) rfl rfl rfl rfl ?_
    refine op_notF (d := 13) rfl rfl rfl rfl ?_
    refine op_notF (d := 13) rfl rfl rfl rfl ?_
    refine op_pickF rfl rfl rfl ?_
    refine op_move rfl rfl ?_
    refine op_notF (d := 19) rfl rfl rfl rfl ?_
    refine op_notF (d := 19) rfl rfl rfl rfl ?_
    refine op_notF (d := 19) rfl rfl rfl rfl ?_
    refine op_notF (d := 19) rfl rfl rfl rfl ?_
    refine op_pickF rfl rfl rfl ?_
    refine op_move rfl rfl ?_
    refine op_notF (d := 25) rfl rfl rfl rfl ?_
    refine op_notF (d := 25) rfl rfl rfl rfl ?_
    refine op_notF (d := 25) rfl rfl rfl rfl ?_
    refine op_notF (d := 25) rfl rfl rfl rfl ?_
    refine op_pickF rfl rfl rfl ?_
    refine op_move rfl rfl ?_
    refine op_notF (d := 31) rfl rfl rfl rfl ?_
    refine op_notF (d := 31) rfl rfl rfl rfl ?_
    refine op_notF (d := 31) rfl rfl rfl rfl ?_
    refine op_notF (d := 31) rfl rfl rfl rfl ?_
    refine op_pickF rfl rfl rfl ?_
    refine op_move rfl rfl ?_
    refine op_notF (d := 37) rfl rfl rfl rfl ?_
    refine op_notF (d := 37) rfl rfl rfl rfl ?_
    refine op_notF (d := 37) rfl rfl rfl rfl ?_
    refine op_notF (d := 37) rfl rfl rfl rfl ?_
    refine op_pickF rfl rfl rfl ?_
    refine op_move rfl rfl ?_
    refine op_notF (d := 43) rfl rfl rfl rfl ?_
    refine op_notF (d := 43) rfl rfl rfl rfl ?_
    refine op_notF (d := 43) rfl rfl rfl rfl ?_
    refine op_notF (d := 43) rfl rfl rfl rfl ?_
    refine op_pickF rfl rfl rfl ?_
    refine op_move rfl rfl ?_
    refine op_notF (d := 49) rfl rfl rfl rfl ?_
    refine op_notF (d := 49) rfl rfl rfl rfl ?_
    refine op_notF (d := 49) rfl rfl rfl rfl ?_
    refine op_notF (d := 49) rfl rfl rfl rfl ?_
    refine op_pickF rfl rfl rfl ?_
    refine op_assign rfl rfl ?_
    refine endF ?_
    refine XF.thenN ?_
    refine retF ?_
    refine XF.res (res1 Try.results5 rfl) ?_
    exact ⟨rbool (by unfold smallB; rw [if_pos (by omega)]), hS.below⟩

set_option maxRecDepth 100000 in
set_option maxHeartbeats 4000000 in
theorem echeck_c (va : Option Addr) (vl : Nat) (vc : Nat) (pa : Option Addr) (pl : Nat) (pc : Nat) (ea : Option Addr) (el : Nat) (ec : Nat) (es : List Int) (xa : Option Addr) (xl : Nat) (xc : Nat) (xs : List Int) (mn : Int) (oa : Option Addr) (ol : Nat) (oc : Nat) (os : List Int) (sa : Option Addr) (sl : Nat) (sc : Nat) (ss : List TV) (ta : Option Addr) (tl : Nat) (tc : Nat) (ts : List UV) (na : Option Addr) (nl : Nat) (nc : Nat) (ns : List NV) (ka : Option Addr) (kl : Nat) (kc : Nat) (ks : List KV) (w : World) (he : RowI w ea es) (hel : es.length = el) (hx : RowI w xa xs) (hxl : xs.length = xl) (ho : RowI w oa os) (hol : os.length = ol) (hs : RowL TV.sev 7 w sa ss) (hsl : ss.length = sl) (ht : RowL UV.four 4 w ta ts) (htl : ts.length = tl) (hn : RowL NV.two 2 w na ns) (hnl : ns.length = nl) (hk : RowL KV.two 2 w ka ks) (hkl : ks.length = kl) (b1 : vl ≤ 5000) (b2 : pl ≤ 5000) (b3 : el ≤ 5000) (b4 : xl ≤ 5000) (b5 : ol ≤ 5000) (b6 : sl ≤ 5000) (b7 : tl ≤ 5000) (b8 : nl ≤ 5000) (b9 : kl ≤ 5000) :
    Calls Try.prog 19 #[.agg #[.slice va vl vc, .slice pa pl pc, .slice ea el ec, .slice xa xl xc, .int .i64 mn, .slice oa ol oc, .slice sa sl sc, .slice ta tl tc, .slice na nl nc, .slice ka kl kc], .int .i64 1] w (fun e w' => e = .returned (.int .i64 (checkE ⟨va, vl, vc, pa, pl, pc, ea, el, ec, es, xa, xl, xc, xs, mn, oa, ol, oc, os, sa, sl, sc, ss, ta, tl, tc, ts, na, nl, nc, ns, ka, kl, kc, ks⟩)) ∧ Below w.heap.size w w') := by
  refine enterF (args := [.agg #[.slice va vl vc, .slice pa pl pc, .slice ea el ec, .slice xa xl xc, .int .i64 mn, .slice oa ol oc, .slice sa sl sc, .slice ta tl tc, .slice na nl nc, .slice ka kl kc], .int .i64 1]) Try.func19 rfl Try.ntmps19 rfl ?_
  have hS := St.start w
  refine seqF ?_
  refine regF ?_
  refine op_box (cs := [_, _, _, _, _, _, _, _, _, _]) hS rfl rfl rfl ?_
  clear hS; intro B1 W1 hS
  refine op_assign rfl rfl ?_
  refine endF ?_
  refine XF.thenN ?_
  refine seqF ?_
  refine seqF ?_
  refine regF ?_
  refine op_loadA (vs := [_, _, _, _, _, _, _, _, _, _]) Try.isAgg29 Try.sizeOf29 rfl (CellsAt.own (j := 0) (m := 10) (hS.at_ 0 rfl) rfl) rfl ?_
  refine op_call (vs := [_]) hS goes_15 rfl (check_c _ vl vc _ pl pc _ el ec es _ xl xc xs mn _ ol oc os _ sl sc ss _ tl tc ts _ nl nc ns _ kl kc ks  _ (he.below hS.below) hel (hx.below hS.below) hxl (ho.below hS.below) hol (hs.below hS.below) hsl (ht.below hS.below) htl (hn.below hS.below) hnl (hk.below hS.below) hkl b1 b2 b3 b4 b5 b6 b7 b8 b9) rfl ?_
  rintro e W2 ⟨rfl, hb⟩
  refine ⟨_, rfl, hb, fun hS' => ?_⟩
  clear hS; have hS := hS'; clear hS' hb
  refine op_assign rfl rfl ?_
  refine endF ?_
  refine XF.thenN ?_
  refine seqF ?_
  refine regF ?_
  refine op_move rfl rfl ?_
  refine op_neq rfl rfl rfl ?_
  refine endF ?_
  refine XF.thenN ?_
  refine condF rfl (fun hc => ?_) (fun hc => ?_)
  · have hc9 := of_decide_eq_true hc; clear hc
    refine seqF ?_
    refine regF ?_
    refine op_move rfl rfl ?_
    refine op_assign rfl rfl ?_
    refine endF ?_
    refine XF.thenN ?_
    refine retF ?_
    refine XF.thenR ?_
    refine XF.res (res1 Try.results19 rfl) ?_
    exact ⟨rfl, hS.below⟩
  · have hc9 := of_decide_eq_false hc; clear hc
    have hce : checkE ⟨va, vl, vc, pa, pl, pc, ea, el, ec, es, xa, xl, xc, xs, mn, oa, ol, oc, os, sa, sl, sc, ss, ta, tl, tc, ts, na, nl, nc, ns, ka, kl, kc, ks⟩ = 0 := Decidable.of_not_not hc9
    refine skipF ?_
    refine XF.thenN ?_
    refine seqF ?_
    refine seqF ?_
    refine regF ?_
    refine op_move rfl rfl ?_
    refine op_neq rfl rfl rfl ?_
    refine op_move rfl rfl ?_
    refine op_cases (d := 13) rfl (fun hc => absurd (of_decide_eq_true hc) (by exact fun h => h rfl)) (fun hc => ?_)
    have hc := of_decide_eq_false hc
    refine op_notF (d := 13) rfl rfl rfl rfl ?_
    refine op_notF (d := 13) rfl rfl rfl rfl ?_
    refine op_pickF rfl rfl rfl ?_
    refine op_move rfl rfl ?_
    refine op_notF (d := 17) rfl rfl rfl rfl ?_
    refine op_notF (d := 17) rfl rfl rfl rfl ?_
    refine op_pickF rfl rfl rfl ?_
    refine endF ?_
    refine XF.thenN ?_
    refine condN rfl ?_
    refine skipF ?_
    refine XF.thenN ?_
    refine seqF ?_
    refine regF ?_
    refine op_assign rfl rfl ?_
    refine endF ?_
    refine XF.thenN ?_
    refine retF ?_
    refine XF.res (res1 Try.results19 rfl) ?_
    exact ⟨rint hce.symm, hS.below⟩

set_option maxRecDepth 100000 in
set_option maxHeartbeats 4000000 in
theorem space_is (n : Int) (w : World) :
    Calls Try.prog 20 #[.int .i64 1, .int .i64 n] w (fun e w' => e = .returned (.agg #[.int .i64 1, .int .i64 0, .slice none 0 0]) ∧ Below w.heap.size w w') := by
  refine enterF (args := [.int .i64 1, .int .i64 n]) Try.func20 rfl Try.ntmps20 rfl ?_
  have hS := St.start w
  refine seqF ?_
  refine regF ?_
  refine op_alloc (cs := [_, _, _]) hS Try.zeroValue53 rfl rfl ?_
  clear hS; intro B1 W1 hS
  refine endF ?_
  refine XF.thenN ?_
  refine seqF ?_
  refine seqF ?_
  refine regF ?_
  refine op_move rfl rfl ?_
  refine endF ?_
  refine XF.thenN ?_
  refine blockF ?_
  refine seqF ?_
  refine regF ?_
  refine op_eql rfl rfl rfl ?_
  refine op_assign rfl rfl ?_
  refine endF ?_
  refine XF.thenN ?_
  refine condF rfl (fun hc => absurd (of_decide_eq_true hc) (by decide)) (fun hc => ?_)
  have hc := of_decide_eq_false hc
  refine seqF ?_
  refine regF ?_
  refine op_eql rfl rfl rfl ?_
  refine op_assign rfl rfl ?_
  refine endF ?_
  refine XF.thenN ?_
  refine condF rfl (fun hc => absurd (of_decide_eq_true hc) (by decide)) (fun hc => ?_)
  have hc := of_decide_eq_false hc
  refine skipF ?_
  refine XF.blkN ?_
  refine XF.thenN ?_
  refine seqF ?_
  refine regF ?_
  refine op_build (us := [(0, .int .i64 _)]) rfl (bld_53_0 _) rfl ?_
  refine op_storeA (i := 0) (vs := [_, _, _]) (cs' := [_, _, _]) (O' := [_]) hS Try.sizeOf53 rfl rfl rfl rfl rfl rfl rfl ?_
  clear hS; intro W2 hS
  refine endF ?_
  refine XF.thenN ?_
  refine retF ?_
  refine XF.res (resC1 (vs := [_, _, _]) Try.results20 Try.isAgg53 Try.sizeOf53 rfl (CellsAt.own (j := 0) (m := 3) (hS.at_ 0 rfl) rfl)) ?_
  exact ⟨rfl, hS.below⟩

set_option maxRecDepth 100000 in
set_option maxHeartbeats 4000000 in
theorem worth_is (n : Int) (s : TV) (w : World) :
    Calls Try.prog 21 #[.int .i64 1, .int .i64 n, s.val] w (fun e w' => e = .returned (.agg #[.bool false, .int .i64 0, .int .u64 0, .slice none 0 0, .slice none 0 0, .slice none 0 0]) ∧ Below w.heap.size w w') := by
  refine enterF (args := [.int .i64 1, .int .i64 n, s.val]) Try.func21 rfl Try.ntmps21 rfl ?_
  have hS := St.start w
  refine seqF ?_
  refine regF ?_
  refine op_box (cs := [_, _, _, _, _, _, _]) hS rfl rfl rfl ?_
  clear hS; intro B1 W1 hS
  refine op_alloc (cs := [_, _, _, _, _, _]) hS Try.zeroValue67 rfl rfl ?_
  clear hS; intro B2 W2 hS
  refine endF ?_
  refine XF.thenN ?_
  refine seqF ?_
  refine seqF ?_
  refine regF ?_
  refine op_move rfl rfl ?_
  refine endF ?_
  refine XF.thenN ?_
  refine blockF ?_
  refine seqF ?_
  refine regF ?_
  refine op_eql rfl rfl rfl ?_
  refine op_assign rfl rfl ?_
  refine endF ?_
  refine XF.thenN ?_
  refine condF rfl (fun hc => absurd (of_decide_eq_true hc) (by decide)) (fun hc => ?_)
  have hc := of_decide_eq_false hc
  refine seqF ?_
  refine regF ?_
  refine op_eql rfl rfl rfl ?_
  refine op_assign rfl rfl ?_
  refine endF ?_
  refine XF.thenN ?_
  refine condF rfl (fun hc => absurd (of_decide_eq_true hc) (by decide)) (fun hc => ?_)
  have hc := of_decide_eq_false hc
  refine skipF ?_
  refine XF.blkN ?_
  refine XF.thenN ?_
  refine seqF ?_
  refine regF ?_
  refine op_build (us := []) rfl (bld_67) rfl ?_
  refine op_storeA (i := 0) (vs := [_, _, _, _, _, _]) (cs' := [_, _, _, _, _, _]) (O' := [_, _]) hS Try.sizeOf67 rfl rfl rfl rfl rfl rfl rfl ?_
  clear hS; intro W3 hS
  refine endF ?_
  refine XF.thenN ?_
  refine retF ?_
  refine XF.res (resC1 (vs := [_, _, _, _, _, _]) Try.results21 Try.isAgg67 Try.sizeOf67 rfl (CellsAt.own (j := 0) (m := 6) (hS.at_ 0 rfl) rfl)) ?_
  exact ⟨rfl, hS.below⟩
end Go.Proofs.Ytpinbmjkbkogdaa
namespace Go.Proofs.Ytpinbmjkbkogdaa
open Go Go.RowKit
set_option linter.unusedVariables false
theorem bld_56 : Try.prog.built 56 [] = some #[.int .i64 0, .int .i64 0, .slice none 0 0, .int .i64 0, .int .i64 0, .slice none 0 0] := by kernel_rfl
theorem bld_56_0_1_2 (v00 : Value) (v01 : Value) (v02 : Value) (v1 : Int) (v2 : Int) : Try.prog.built 56 [(0, .agg #[v00, v01, v02]), (1, .int .i64 v1), (2, .int .i64 v2)] = some #[v00, v01, v02, .int .i64 v1, .int .i64 v2, .slice none 0 0] := by kernel_rfl
theorem bld_69_1_3_4 (v1 : Int) (v3a : Option Addr) (v3l : Nat) (v3c : Nat) (v40 : Value) (v41 : Value) (v42 : Value) (v43 : Value) (v44 : Value) (v45 : Value) : Try.prog.built 69 [(1, .int .i64 v1), (3, .slice v3a v3l v3c), (4, .agg #[v40, v41, v42, v43, v44, v45])] = some #[.int .i64 0, .int .i64 v1, .int .i64 0, .slice v3a v3l v3c, v40, v41, v42, v43, v44, v45] := by kernel_rfl
theorem bld_69_1_4 (v1 : Int) (v40 : Value) (v41 : Value) (v42 : Value) (v43 : Value) (v44 : Value) (v45 : Value) : Try.prog.built 69 [(1, .int .i64 v1), (4, .agg #[v40, v41, v42, v43, v44, v45])] = some #[.int .i64 0, .int .i64 v1, .int .i64 0, .slice none 0 0, v40, v41, v42, v43, v44, v45] := by kernel_rfl
theorem bld_76_2 (v2 : Int) : Try.prog.built 76 [(2, .int .i64 v2)] = some #[.int .i64 0, .int .i64 0, .int .i64 v2, .int .i64 0, .int .i64 0, .int .i64 0, .int .i64 0] := by kernel_rfl
theorem bs_54_1 (v00 : Value) (v01 : Value) (v02 : Value) (v03 : Value) (v04 : Value) (v05 : Value) (v06 : Value) (v07 : Value) (v08 : Value) (v09 : Value) : Instr.fill (fun i => some (i * 10, 10)) ((Array.range (1 * 10)).map ((Value.cells (.agg #[.int .i64 0, .int .i64 0, .int .i64 0, .slice none 0 0, .bool false, .int .i64 0, .int .u64 0, .slice none 0 0, .slice none 0 0, .slice none 0 0]))[· % (Value.cells (.agg #[.int .i64 0, .int .i64 0, .int .i64 0, .slice none 0 0, .bool false, .int .i64 0, .int .u64 0, .slice none 0 0, .slice none 0 0, .slice none 0 0])).size]!)) [(0, .agg #[v00, v01, v02, v03, v04, v05, v06, v07, v08, v09])] = some (List.toArray [v00, v01, v02, v03, v04, v05, v06, v07, v08, v09]) := by kernel_rfl
theorem fa_56_3 (w : World) (b o : Nat) : (Instr.fieldAt 56 (.pointer (some ⟨b, o, none⟩)) 3).run Try.prog w = .ok (.pointer (some ⟨b, o + 5, none⟩)) w := by
  simp [Instr.fieldAt, run_underlying Try.underlying56, Instr.sureAddr, go_sem, Addr.add_lit]
theorem goes_19 : goesIn Try.prog 19 = true := by kernel_rfl
theorem goes_20 : goesIn Try.prog 20 = true := by kernel_rfl
theorem goes_21 : goesIn Try.prog 21 = true := by kernel_rfl
theorem inf_69 : Try.prog.info? 69 = some Try.t69 := by kernel_rfl
set_option maxRecDepth 100000 in
set_option maxHeartbeats 4000000 in
theorem pds_c (va : Option Addr) (vl : Nat) (vc : Nat) (pa : Option Addr) (pl : Nat) (pc : Nat) (ea : Option Addr) (el : Nat) (ec : Nat) (es : List Int) (xa : Option Addr) (xl : Nat) (xc : Nat) (xs : List Int) (mn : Int) (oa : Option Addr) (ol : Nat) (oc : Nat) (os : List Int) (sa : Option Addr) (sl : Nat) (sc : Nat) (ss : List TV) (ta : Option Addr) (tl : Nat) (tc : Nat) (ts : List UV) (na : Option Addr) (nl : Nat) (nc : Nat) (ns : List NV) (ka : Option Addr) (kl : Nat) (kc : Nat) (ks : List KV) (w : World) (he : RowI w ea es) (hel : es.length = el) (hx : RowI w xa xs) (hxl : xs.length = xl) (ho : RowI w oa os) (hol : os.length = ol) (hs : RowL TV.sev 7 w sa ss) (hsl : ss.length = sl) (ht : RowL UV.four 4 w ta ts) (htl : ts.length = tl) (hn : RowL NV.two 2 w na ns) (hnl : ns.length = nl) (hk : RowL KV.two 2 w ka ks) (hkl : ks.length = kl) (b1 : vl ≤ 5000) (b2 : pl ≤ 5000) (b3 : el ≤ 5000) (b4 : xl ≤ 5000) (b5 : ol ≤ 5000) (b6 : sl ≤ 5000) (b7 : tl ≤ 5000) (b8 : nl ≤ 5000) (b9 : kl ≤ 5000) (hco : CallsOk ⟨va, vl, vc, pa, pl, pc, ea, el, ec, es, xa, xl, xc, xs, mn, oa, ol, oc, os, sa, sl, sc, ss, ta, tl, tc, ts, na, nl, nc, ns, ka, kl, kc, ks⟩) :
    Calls Try.prog 14 #[.agg #[.slice va vl vc, .slice pa pl pc, .slice ea el ec, .slice xa xl xc, .int .i64 mn, .slice oa ol oc, .slice sa sl sc, .slice ta tl tc, .slice na nl nc, .slice ka kl kc], .int .i64 1] w (PdsRet ⟨va, vl, vc, pa, pl, pc, ea, el, ec, es, xa, xl, xc, xs, mn, oa, ol, oc, os, sa, sl, sc, ss, ta, tl, tc, ts, na, nl, nc, ns, ka, kl, kc, ks⟩ w) := by
  refine enterF (args := [.agg #[.slice va vl vc, .slice pa pl pc, .slice ea el ec, .slice xa xl xc, .int .i64 mn, .slice oa ol oc, .slice sa sl sc, .slice ta tl tc, .slice na nl nc, .slice ka kl kc], .int .i64 1]) Try.func14 rfl Try.ntmps14 rfl ?_
  have hS := St.start w
  refine seqF ?_
  refine regF ?_
  refine op_box (cs := [_, _, _, _, _, _, _, _, _, _]) hS rfl rfl rfl ?_
  clear hS; intro B1 W1 hS
  refine op_alloc (cs := [_, _, _, _, _, _]) hS Try.zeroValue56 rfl rfl ?_
  clear hS; intro B2 W2 hS
  refine op_assign rfl rfl ?_
  refine endF ?_
  refine XF.thenN ?_
  refine seqF ?_
  refine seqF ?_
  refine regF ?_
  refine op_loadA (vs := [_, _, _, _, _, _, _, _, _, _]) Try.isAgg29 Try.sizeOf29 rfl (CellsAt.own (j := 0) (m := 10) (hS.at_ 1 rfl) rfl) rfl ?_
  refine op_move rfl rfl ?_
  refine op_call (vs := [_, _]) hS goes_19 rfl (echeck_c _ vl vc _ pl pc _ el ec es _ xl xc xs mn _ ol oc os _ sl sc ss _ tl tc ts _ nl nc ns _ kl kc ks  _ (he.below hS.below) hel (hx.below hS.below) hxl (ho.below hS.below) hol (hs.below hS.below) hsl (ht.below hS.below) htl (hn.below hS.below) hnl (hk.below hS.below) hkl b1 b2 b3 b4 b5 b6 b7 b8 b9) rfl ?_
  rintro e W3 ⟨rfl, hb⟩
  refine ⟨_, rfl, hb, fun hS' => ?_⟩
  clear hS; have hS := hS'; clear hS' hb
  refine op_assign rfl rfl ?_
  refine endF ?_
  refine XF.thenN ?_
  refine seqF ?_
  refine regF ?_
  refine op_move rfl rfl ?_
  refine op_neq rfl rfl rfl ?_
  refine endF ?_
  refine XF.thenN ?_
  refine condF rfl (fun hc => ?_) (fun hc => ?_)
  · have hc18 := of_decide_eq_true hc; clear hc
    refine seqF ?_
    refine regF ?_
    refine op_build (us := []) rfl (bld_56) rfl ?_
    refine op_move rfl rfl ?_
    refine op_storeA (i := 0) (vs := [_, _, _, _, _, _]) (cs' := [_, _, _, _, _, _]) (O' := [_, _]) hS Try.sizeOf56 rfl rfl rfl rfl rfl rfl rfl ?_
    clear hS; intro W4 hS
    refine op_assign rfl rfl ?_
    refine endF ?_
    refine XF.thenN ?_
    refine retF ?_
    refine XF.thenR ?_
    refine XF.res (resCT (vs := [_, _, _, _, _, _]) Try.results14 Try.isAgg56 Try.sizeOf56 rfl (CellsAt.own (j := 0) (m := 6) (hS.at_ 0 rfl) rfl) rfl) ?_
    exact ⟨hS.below, .inl ⟨hc18, rfl⟩⟩
  · have hc18 := of_decide_eq_false hc; clear hc
    have hce : checkE ⟨va, vl, vc, pa, pl, pc, ea, el, ec, es, xa, xl, xc, xs, mn, oa, ol, oc, os, sa, sl, sc, ss, ta, tl, tc, ts, na, nl, nc, ns, ka, kl, kc, ks⟩ = 0 := Decidable.of_not_not hc18
    refine skipF ?_
    refine XF.thenN ?_
    refine seqF ?_
    refine regF ?_
    refine op_field (o' := 0) fa_29_0 rfl rfl rfl ?_
    refine op_load Try.isAgg22 rfl (cell_own (hS.at_ 1 rfl) rfl) rfl ?_
    refine op_len Try.underlying22 rfl rfl ?_
    refine op_assign rfl rfl ?_
    refine endF ?_
    refine XF.thenN ?_
    refine seqF ?_
    refine regBA (cs := [_, _, _, _, _, _]) followsM 8 7 hS rfl rfl rfl rfl Try.zeroValue56 rfl (by kernel_rfl) (by kernel_rfl) (by kernel_rfl) (fun d hd => by cases hd) ?_
    refine bla_cons 1 rfl rfl (isV _) (stab_isV _) (agV (li := [(1, _)]) rfl (w_free rfl) ⟨g_fr (by kernel_rfl) rfl, trivial⟩ (fun w hw => rn_move rfl) (at_top rfl)) ?_
    refine bla_cons 2 rfl rfl (isV _) (stab_isV _) (agV (li := [(7, _)]) rfl (w_free rfl) ⟨g_fr (by kernel_rfl) rfl, trivial⟩ (fun w hw => rn_move rfl) (at_top rfl)) ?_
    refine bla_cons 3 rfl rfl (isV (.agg #[.int .i64 1, .int .i64 0, .slice none 0 0])) (stab_isV _) (ag_call [isV _, isV _] rfl goes_20 (w_free rfl) ⟨p_tmp (g_dep 0 (by kernel_rfl) (at_dep rfl rfl rfl)), p_tmp (g_dep 1 (by kernel_rfl) (at_dep rfl rfl rfl)), trivial⟩ (fun vs w' hb hh => by have e := holds_isV (us := [_, _]) hh; subst e; exact (space_is _ _).mono fun e w2 h => ⟨_, h.1, fun _ _ => rfl, h.2⟩) (at_top rfl)) ?_
    refine bla_cons 4 rfl rfl (isV _) (stab_isV _) (agV (li := [(2, _)]) rfl (w_free rfl) ⟨g_fr (by kernel_rfl) rfl, trivial⟩ (fun w hw => rn_field (o' := 5) fa_29_5 rfl rfl) (at_top rfl)) ?_
    refine bla_cons 5 rfl rfl (isV _) (stab_isV _) (agV (li := [(27, _)]) rfl (w_free rfl) ⟨g_dep 3 (by kernel_rfl) (at_dep rfl rfl rfl), trivial⟩ (fun w hw => rn_load Try.isAgg23 rfl ((below_agree hw 0).cell (Nat.zero_le _) (cell_own (hS.at_ 1 rfl) rfl))) (at_top rfl)) ?_
    refine bla_cons 6 rfl rfl (isV _) (stab_isV _) (agV (li := [(28, _)]) rfl (w_free rfl) ⟨g_dep 4 (by kernel_rfl) (at_dep rfl rfl rfl), trivial⟩ (fun w hw => rn_len Try.underlying23 rfl) (at_top rfl)) ?_
    refine bla_cons 7 rfl rfl (isV _) (stab_isV _) (agV (li := [(26, _), (29, _)]) rfl (w_free rfl) ⟨g_dep 2 (by kernel_rfl) (at_dep rfl rfl rfl), g_dep 5 (by kernel_rfl) (at_dep rfl rfl rfl), trivial⟩ (fun w hw => rn_build (us := [(0, .agg (List.toArray [_, _, _])), (1, .int .i64 _), (2, .int .i64 _)]) rfl (bld_56_0_1_2 _ _ _ _ _)) (at_top rfl)) ?_
    refine bla_alloc 8 rfl rfl ?_
    refine bla_nil ?_
    intro B5 AB5 W5 hbR hA1 hA2 hBlo hBhi hS'
    clear hS; have hS := hS'; clear hS'
    refine fin_av ?_
    refine fin_av ?_
    refine fin_av ?_
    refine fin_av ?_
    refine fin_av ?_
    refine fin_av ?_
    refine fin_av ?_
    refine fin_v ?_
    refine fin_nil ?_
    refine op_storeA (i := 0) (vs := [_, _, _, _, _, _]) (cs' := [_, _, _, _, _, _]) (O' := [_, _, _]) hS Try.sizeOf56 rfl rfl rfl rfl rfl rfl rfl ?_
    clear hS; intro W6 hS
    refine endF ?_
    refine XF.thenN ?_
    refine seqF ?_
    refine seqF ?_
    have hS := hS.newG 69 10
    refine regF ?_
    refine op_field (o' := 6) fa_29_6 rfl rfl rfl ?_
    refine op_load Try.isAgg24 rfl (cell_own (hS.at_ 2 rfl) rfl) rfl ?_
    refine op_len Try.underlying24 rfl rfl ?_
    refine op_move rfl rfl ?_
    refine endF ?_
    refine XF.thenN ?_
    refine blockF ?_
    refine loopF (fun m l W => ∃ (i : Nat) (qs : List QV) (v : Value) (Kk : List (Nat × World)), i ≤ sl ∧ m = sl - i ∧ l = [(1, .int .i64 1), (2, .pointer (some ⟨B1, 0, none⟩)), (4, .pointer (some ⟨B2, 0, none⟩)), (7, .int .i64 (vl : Int)), (8, .pointer (some ⟨B5, 0, none⟩)), (32, .slice sa sl sc), (33, .int .i64 (sl : Int)), (34, .int .i64 (i : Int))] ∧ qs.length = i ∧ qs.map QV.pl = (ss.take i).map (stepR ⟨va, vl, vc, pa, pl, pc, ea, el, ec, es, xa, xl, xc, xs, mn, oa, ol, oc, os, sa, sl, sc, ss, ta, tl, tc, ts, na, nl, nc, ns, ka, kl, kc, ks⟩) ∧ Held w Kk (fun W2 => ∀ q ∈ qs, QN w.heap.size W2 q) ∧ St w [(B5, [.int .i64 1, .int .i64 0, .slice none 0 0, .int .i64 1, .int .i64 (ol : Int), v], 56), (B2, [.int .i64 0, .int .i64 0, .slice none 0 0, .int .i64 0, .int .i64 0, .slice none 0 0], 56), (B1, [.slice va vl vc, .slice pa pl pc, .slice ea el ec, .slice xa xl xc, .int .i64 mn, .slice oa ol oc, .slice sa sl sc, .slice ta tl tc, .slice na nl nc, .slice ka kl kc], 29)] [⟨v, i, qs.flatMap QV.ten, 69, 10⟩] Kk W) (sl - 0) ([(1, _), (2, _), (4, _), (7, _), (8, _), (32, _), (33, _), (34, _)]) ⟨rfl, rfl, rfl, rfl, rfl, rfl, rfl, rfl, trivial⟩ (⟨0, [], _, [], Nat.zero_le _, rfl, rfl, rfl, rfl, (fun _ _ q hq => by cases hq), hS.clear⟩) ?_
    clear hS
    rintro m l W ⟨i, qs, v, Kk, hi, rfl, rfl, hql, hqm, HQ, hS⟩
    refine seqF ?_
    refine regF ?_
    refine op_lss rfl rfl rfl ?_
    refine endF ?_
    refine XF.thenN ?_
    refine seqF ?_
    refine condF rfl (fun hc => ?_) (fun hc => ?_)
    · have hc35 := of_decide_eq_true hc; clear hc
      have hk1 : i < sl := by omega
      obtain ⟨b, off, s, rfl, hy, hyc⟩ := hs.get (i := i) (by omega)
      have k1 := CellsAt.agree hS.agree (Nat.zero_le _) hyc
      refine skipF ?_
      refine XF.thenN ?_
      refine seqF ?_
      refine blockF ?_
      refine seqF ?_
      refine regF ?_
      refine op_indexA  Try.underlying24 Try.sizeOf76 rfl rfl rfl (by omega) rfl rfl ?_
      refine op_loadA (vs := [_, _, _, _, _, _, _]) Try.isAgg76 Try.sizeOf76 rfl (k1) rfl ?_
      refine op_alloc (cs := [_, _, _, _, _, _, _]) hS Try.zeroValue76 rfl rfl ?_
      clear hS; intro B7 W7 hS
      refine op_storeA (i := 0) (vs := [_, _, _, _, _, _, _]) (cs' := [_, _, _, _, _, _, _]) (O' := [_, _, _, _]) hS Try.sizeOf76 rfl rfl rfl rfl rfl rfl rfl ?_
      clear hS; intro W8 hS
      refine endF ?_
      refine XF.thenN ?_
      refine seqF ?_
      have hsz9 := hS.below.size
      refine regF ?_
      refine op_field (o' := 1) fa_76_1 rfl rfl rfl ?_
      refine op_load Try.isAgg3 rfl (cell_own (hS.at_ 0 rfl) rfl) rfl ?_
      refine op_rowK (us := [(0, .int .i64 s.t)]) hS Try.underlying23 Try.sizeOf3 Try.zeroValue3 rfl rfl rfl (bs_23_1 _) rfl ?_
      intro B90 W90 hB90 hlo90 hS9
      clear hS; have hS := hS9; clear hS9
      have H90 : Held w [(_, W90)] (fun W2 => W2.heap[B90]? = some (.cells #[.int .i64 s.t] 3 (0, 0))) := Held.one (fun W2 hg => (hg.2 _ hlo90 (lt_of_heap hB90)).trans hB90)
      refine op_assign rfl rfl ?_
      refine endF ?_
      refine XF.thenN ?_
      refine seqF ?_
      refine seqF ?_
      refine regF ?_
      refine op_field (o' := 2) fa_76_2 rfl rfl rfl ?_
      refine op_load Try.isAgg74 rfl (cell_own (hS.at_ 0 rfl) rfl) rfl ?_
      refine op_eql rfl rfl rfl ?_
      refine endF ?_
      refine XF.thenN ?_
      refine condF rfl (fun hc => ?_) (fun hc => ?_)
      · have hc43 := of_decide_eq_true hc; clear hc
        have h8 : s.k = 8 := hc43
        obtain ⟨n8, k8, u8, hn8, hnt8, hu8, hk8, hke8⟩ := hco s (List.mem_of_getElem? hy) h8
        have hnt9 : n8 < tl := hnt8
        have hke9 : k8 < el := hke8
        obtain ⟨tb, to_, u9, rfl, hu9, huc9⟩ := ht.get (i := n8) (by omega)
        obtain rfl : u8 = u9 := Option.some.inj (hu8.symm.trans hu9)
        obtain ⟨eb, eo, e8, rfl, he8, hec8⟩ := he.get (i := k8) (by omega)
        have k2 := (CellsAt.agree hS.agree (Nat.zero_le _) huc9).2.1
        have k3 := (CellsAt.agree hS.agree (Nat.zero_le _) hec8).1
        have hsz11 := hS.below.size
        refine regB (m := 15) followsM hS (by kernel_rfl) (by kernel_rfl) rfl ?_
        refine bl_cons 1 rfl (isV _) (stab_isV _) (rgV (li := [(2, _)]) rfl (w_free rfl) ⟨g_fr (by kernel_rfl) rfl, trivial⟩ (fun w hw => rn_field (o' := 2) fa_29_2 rfl rfl) (at_top rfl)) ?_
        refine bl_cons 2 rfl (isV _) (stab_isV _) (rgV (li := [(44, _)]) rfl (w_free rfl) ⟨g_dep 0 (by kernel_rfl) (at_dep rfl rfl rfl), trivial⟩ (fun w hw => rn_load Try.isAgg23 rfl ((below_agree hw 0).cell (Nat.zero_le _) (cell_own (hS.at_ 3 rfl) rfl))) (at_top rfl)) ?_
        refine bl_cons 3 rfl (isV _) (stab_isV _) (rgV (li := [(2, _)]) rfl (w_free rfl) ⟨g_fr (by kernel_rfl) rfl, trivial⟩ (fun w hw => rn_field (o' := 7) fa_29_7 rfl rfl) (at_top rfl)) ?_
        refine bl_cons 4 rfl (isV _) (stab_isV _) (rgV (li := [(46, _)]) rfl (w_free rfl) ⟨g_dep 2 (by kernel_rfl) (at_dep rfl rfl rfl), trivial⟩ (fun w hw => rn_load Try.isAgg25 rfl ((below_agree hw 0).cell (Nat.zero_le _) (cell_own (hS.at_ 3 rfl) rfl))) (at_top rfl)) ?_
        refine bl_cons 5 rfl (isV _) (stab_isV _) (rgV (li := [(10, _)]) rfl (w_free rfl) ⟨g_fr (by kernel_rfl) rfl, trivial⟩ (fun w hw => rn_field (o' := 6) fa_76_6 rfl rfl) (at_top rfl)) ?_
        refine bl_cons 6 rfl (isV _) (stab_isV _) (rgV (li := [(48, _)]) rfl (w_free rfl) ⟨g_dep 4 (by kernel_rfl) (at_dep rfl rfl rfl), trivial⟩ (fun w hw => rn_load Try.isAgg3 rfl ((below_agree hw 0).cell (Nat.zero_le _) (cell_own (hS.at_ 0 rfl) rfl))) (at_top rfl)) ?_
        refine bl_cons 7 rfl (isV _) (stab_isV _) (rgV (li := [(47, _), (49, _)]) rfl (w_free rfl) ⟨g_dep 3 (by kernel_rfl) (at_dep rfl rfl rfl), g_dep 5 (by kernel_rfl) (at_dep rfl rfl rfl), trivial⟩ (fun w hw => rn_indexA (j := n8) Try.underlying25 Try.sizeOf47 rfl rfl (hn8) (hnt8) rfl) (at_top rfl)) ?_
        refine bl_cons 8 rfl (isV _) (stab_isV _) (rgV (li := [(50, _)]) rfl (w_free rfl) ⟨g_dep 6 (by kernel_rfl) (at_dep rfl rfl rfl), trivial⟩ (fun w hw => rn_field fa_47_1 rfl rfl) (at_top rfl)) ?_
        refine bl_cons 9 rfl (isV _) (stab_isV _) (rgV (li := [(51, _)]) rfl (w_free rfl) ⟨g_dep 7 (by kernel_rfl) (at_dep rfl rfl rfl), trivial⟩ (fun w hw => rn_load Try.isAgg3 rfl ((below_agree hw 0).cell (Nat.zero_le _) (k2))) (at_top rfl)) ?_
        refine bl_cons 10 rfl (isV _) (stab_isV _) (rgV (li := [(45, _), (52, _)]) rfl (w_free rfl) ⟨g_dep 1 (by kernel_rfl) (at_dep rfl rfl rfl), g_dep 8 (by kernel_rfl) (at_dep rfl rfl rfl), trivial⟩ (fun w hw => rn_indexA (j := k8) Try.underlying23 Try.sizeOf3 rfl rfl (hk8) (hke8) rfl) (at_top rfl)) ?_
        refine bl_cons 11 rfl (isV _) (stab_isV _) (rgV (li := [(53, _)]) rfl (w_free rfl) ⟨g_dep 9 (by kernel_rfl) (at_dep rfl rfl rfl), trivial⟩ (fun w hw => rn_load Try.isAgg3 rfl ((below_agree hw 0).cell (Nat.zero_le _) (k3))) (at_top rfl)) ?_
        refine bl_cons 12 rfl (isV _) (stab_isV _) (rgV (li := [(10, _)]) rfl (w_free rfl) ⟨g_fr (by kernel_rfl) rfl, trivial⟩ (fun w hw => rn_field (o' := 1) fa_76_1 rfl rfl) (at_top rfl)) ?_
        refine bl_cons 13 rfl (isV _) (stab_isV _) (rgV (li := [(55, _)]) rfl (w_free rfl) ⟨g_dep 11 (by kernel_rfl) (at_dep rfl rfl rfl), trivial⟩ (fun w hw => rn_load Try.isAgg3 rfl ((below_agree hw 0).cell (Nat.zero_le _) (cell_own (hS.at_ 0 rfl) rfl))) (at_top rfl)) ?_
        refine bl_cons 14 rfl (isRow W90.heap.size 2 3 _) (stab_isRow) (rg_rowV (us := [.int .i64 _, .int .i64 _]) rfl (w_free rfl) Try.underlying23 Try.sizeOf3 Try.zeroValue3 rfl rfl ⟨p_tmp (g_dep 10 (by kernel_rfl) (at_dep rfl rfl rfl)), p_tmp (g_dep 12 (by kernel_rfl) (at_dep rfl rfl rfl)), trivial⟩ (bs_23_2 _ _) (at_top rfl)) ?_
        refine bl_cons 15 rfl (isRow W90.heap.size 2 3 _) (stab_isRow) (rg_same rfl (g_dep 13 (by kernel_rfl) (at_dep rfl rfl rfl)) (at_top rfl)) ?_
        refine bl_nil ?_
        intro W9 hbR hS'
        clear hS; have hS := hS'; clear hS'
        refine fin_v ?_
        refine fin_v ?_
        refine fin_v ?_
        refine fin_v ?_
        refine fin_v ?_
        refine fin_v ?_
        refine fin_v ?_
        refine fin_v ?_
        refine fin_v ?_
        refine fin_v ?_
        refine fin_v ?_
        refine fin_v ?_
        refine fin_v ?_
        refine fin_p ?_; rintro _ ⟨B11_13, rfl, hlo11_13, hrow11_13⟩
        refine fin_p ?_; rintro _ ⟨B11_14, rfl, hlo11_14, hrow11_14⟩
        have H11 : Held w [(_, W9)] (fun W2 => W2.heap[B11_14]? = some (.cells #[.int .i64 e8, .int .i64 s.t] 3 (0, 0))) := Held.one (fun W2 hg => (hg.2 _ hlo11_14 (lt_of_heap hrow11_14)).trans hrow11_14)
        refine fin_nil ?_
        refine XF.thenN ?_
        refine regBP (p := 11) (k := 13) (gi := 0) (m := 1) followsM hS rfl rfl (by kernel_rfl) (by kernel_rfl) (by kernel_rfl) (fun d hd => by cases hd) rfl rfl Try.underlying54 inf_69 rfl rfl (by show 0 < 10; decide) rfl rfl rfl (by simp only [maxLen]; omega) (by show (i + 1) * 144 ≤ _; omega) ?_
        refine blp_v 1 rfl rfl (by kernel_rfl) (rgV (li := [(8, _)]) rfl (w_free rfl) ⟨g_fr (by kernel_rfl) rfl, trivial⟩ (fun w hw => rn_field (o' := 5) fa_56_3 rfl rfl) (at_top rfl)) ?_
        refine blp_v 2 rfl rfl (by kernel_rfl) (rgV (li := [(58, _)]) rfl (w_free rfl) ⟨g_dep 0 (by kernel_rfl) (at_dep rfl rfl rfl), trivial⟩ (fun w hw => rn_load Try.isAgg54 rfl ((below_agree hw 0).cell (Nat.zero_le _) (cell_own (hS.at_ 1 rfl) rfl))) (at_top rfl)) ?_
        refine blp_v 3 rfl rfl (by kernel_rfl) (rgV (li := [(10, _)]) rfl (w_free rfl) ⟨g_fr (by kernel_rfl) rfl, trivial⟩ (fun w hw => rn_field (o' := 0) fa_76_0 rfl rfl) (at_top rfl)) ?_
        refine blp_v 4 rfl rfl (by kernel_rfl) (rgV (li := [(60, _)]) rfl (w_free rfl) ⟨g_dep 2 (by kernel_rfl) (at_dep rfl rfl rfl), trivial⟩ (fun w hw => rn_load Try.isAgg3 rfl ((below_agree hw 0).cell (Nat.zero_le _) (cell_own (hS.at_ 0 rfl) rfl))) (at_top rfl)) ?_
        refine blp_v 5 rfl rfl (by kernel_rfl) (rgV (li := [(11, _)]) rfl (w_free rfl) ⟨g_fr (by kernel_rfl) rfl, trivial⟩ (fun w hw => rn_move rfl) (at_top rfl)) ?_
        refine blp_v 6 rfl rfl (by kernel_rfl) (rgV (li := [(1, _)]) rfl (w_free rfl) ⟨g_fr (by kernel_rfl) rfl, trivial⟩ (fun w hw => rn_move rfl) (at_top rfl)) ?_
        refine blp_v 7 rfl rfl (by kernel_rfl) (rgV (li := [(7, _)]) rfl (w_free rfl) ⟨g_fr (by kernel_rfl) rfl, trivial⟩ (fun w hw => rn_move rfl) (at_top rfl)) ?_
        refine blp_v 8 rfl rfl (by kernel_rfl) (rgV (li := [(10, _)]) rfl (w_free rfl) ⟨g_fr (by kernel_rfl) rfl, trivial⟩ (fun w hw => rn_loadA (vs := [_, _, _, _, _, _, _]) Try.isAgg76 Try.sizeOf76 rfl (CellsAt.agree (below_agree hw 0) (Nat.zero_le _) (CellsAt.own (j := 0) (m := 7) (hS.at_ 0 rfl) rfl))) (at_top rfl)) ?_
        refine blp_v 9 rfl rfl (by kernel_rfl) (rg_call [isV _, isV _, isV _] rfl goes_21 (w_free rfl) ⟨p_tmp (g_dep 5 (by kernel_rfl) (at_dep rfl rfl rfl)), p_tmp (g_dep 6 (by kernel_rfl) (at_dep rfl rfl rfl)), p_tmp (g_dep 7 (by kernel_rfl) (at_dep rfl rfl rfl)), trivial⟩ (fun vs w' hb hh => by have e := holds_isV (us := [_, _, _]) hh; subst e; exact (worth_is _ ⟨_, _, _, _, _, _, _⟩ _).mono fun e w2 h => ⟨_, h.1, rfl, h.2⟩) (at_top rfl)) ?_
        refine blp_v 10 rfl rfl (by kernel_rfl) (rgV (li := [(61, _), (62, _), (66, _)]) rfl (w_free rfl) ⟨g_dep 3 (by kernel_rfl) (at_dep rfl rfl rfl), g_dep 4 (by kernel_rfl) (at_dep rfl rfl rfl), g_dep 8 (by kernel_rfl) (at_dep rfl rfl rfl), trivial⟩ (fun w hw => rn_build (us := [(1, .int .i64 _), (3, .slice _ _ _), (4, .agg (List.toArray [_, _, _, _, _, _]))]) rfl (bld_69_1_3_4 _ _ _ _ _ _ _ _ _ _)) (at_top rfl)) ?_
        refine blp_q 11 rfl rfl (by kernel_rfl) (isRow W9.heap.size 1 69 _) (stab_isRow) (rg_rowV (us := [.agg (List.toArray [_, _, _, _, _, _, _, _, _, _])]) rfl (w_free rfl) Try.underlying54 Try.sizeOf69 Try.zeroValue69 rfl rfl ⟨p_tmp (g_dep 9 (by kernel_rfl) (at_dep rfl rfl rfl)), trivial⟩ (bs_54_1 _ _ _ _ _ _ _ _ _ _) (at_top rfl)) ?_
        refine blp_app 12 rfl rfl ?_
        refine blp_late 13 rfl rfl (rgV (li := [(8, _)]) rfl (w_free rfl) ⟨g_fr (by kernel_rfl) rfl, trivial⟩ (fun w hw => rn_field (o' := 5) fa_56_3 rfl rfl) (at_top rfl)) (lgV (li := [(8, _)]) rfl (w_free rfl) ⟨g_fr (by kernel_rfl) rfl, trivial⟩ (fun w => rn_field (o' := 5) fa_56_3 rfl rfl) (at_top rfl) rfl) ?_
        refine blp_nil ⟨_, _, g_dep 1 (by kernel_rfl) (at_dep rfl rfl rfl), g_dep 10 (by kernel_rfl) (at_dep rfl rfl rfl), rowOf_isRow rfl rfl, ?_⟩
        intro A10 v10 news10 W10 hbR hqA10 hS'
        clear hS; have hS := hS'; clear hS'
        cases hqA10
        refine fin_v ?_
        refine fin_v ?_
        refine fin_v ?_
        refine fin_v ?_
        refine fin_v ?_
        refine fin_v ?_
        refine fin_v ?_
        refine fin_v ?_
        refine fin_v ?_
        refine fin_v ?_
        refine fin_p ?_; intro _ _
        refine fin_v ?_
        refine fin_v ?_
        obtain ⟨a2, c2, e2, hac2⟩ := ownsRow_sl (hS.row 0 rfl)
        dsimp only at e2
        subst e2
        refine fin_nil ?_
        refine op_store (i := 1) (cs' := [_, _, _, _, _, _]) (O' := [_, _, _, _]) hS Try.sizeOf54 rfl rfl rfl rfl rfl rfl rfl ?_
        clear hS; intro W11 hS
        refine endF ?_
        refine XF.blkN ?_
        refine XF.thenN ?_
        refine regF ?_
        refine op_add rfl rfl (IntWalk.i64_in _ (by omega)) rfl ?_
        refine op_move rfl rfl ?_
        refine endF ?_
        have hS9 := hS.tail
        refine XF.round (sl - (i + 1)) [(1, _), (2, _), (4, _), (7, _), (8, _), (32, _), (33, _), (34, _)] (by omega) ⟨rfl, rfl, rfl, rfl, rfl, rfl, rfl, rfl, trivial⟩ ⟨i + 1, qs ++ [⟨s.f, some ⟨B11_14, 0, none⟩, 2, 2, [e8, s.t]⟩], _, _, by omega, rfl, rfl, by simp [hql]; try omega, by rw [List.map_append, hqm, List.take_add_one, List.map_append, hy, List.map_cons, List.map_nil]; show _ = _ ++ [_]; rw [stepR_two h8 hn8 hu8 hk8 he8]; rfl, ?_, hS9.castG (by simp [Nat.add_assoc])⟩
        exact fun h2 hk q hq => by
          rcases List.mem_append.1 hq with hq | hq
          · exact HQ h2 (fun r hr => hk r (by simp [hr])) q hq
          · rw [List.mem_singleton] at hq; subst hq
            exact ⟨rfl, .inr ⟨B11_14, rfl, Nat.le_trans hsz11 hlo11_14, H11 h2 (fun r hr => hk r (by simp at hr; subst hr; simp))⟩⟩
      · have hc43 := of_decide_eq_false hc; clear hc
        have n8 : ¬ s.k = 8 := hc43
        refine skipF ?_
        refine XF.thenN ?_
        refine regBP (p := 11) (k := 13) (gi := 0) (m := 1) followsM hS rfl rfl (by kernel_rfl) (by kernel_rfl) (by kernel_rfl) (fun d hd => by cases hd) rfl rfl Try.underlying54 inf_69 rfl rfl (by show 0 < 10; decide) rfl rfl rfl (by simp only [maxLen]; omega) (by show (i + 1) * 144 ≤ _; omega) ?_
        refine blp_v 1 rfl rfl (by kernel_rfl) (rgV (li := [(8, _)]) rfl (w_free rfl) ⟨g_fr (by kernel_rfl) rfl, trivial⟩ (fun w hw => rn_field (o' := 5) fa_56_3 rfl rfl) (at_top rfl)) ?_
        refine blp_v 2 rfl rfl (by kernel_rfl) (rgV (li := [(58, _)]) rfl (w_free rfl) ⟨g_dep 0 (by kernel_rfl) (at_dep rfl rfl rfl), trivial⟩ (fun w hw => rn_load Try.isAgg54 rfl ((below_agree hw 0).cell (Nat.zero_le _) (cell_own (hS.at_ 1 rfl) rfl))) (at_top rfl)) ?_
        refine blp_v 3 rfl rfl (by kernel_rfl) (rgV (li := [(10, _)]) rfl (w_free rfl) ⟨g_fr (by kernel_rfl) rfl, trivial⟩ (fun w hw => rn_field (o' := 0) fa_76_0 rfl rfl) (at_top rfl)) ?_
        refine blp_v 4 rfl rfl (by kernel_rfl) (rgV (li := [(60, _)]) rfl (w_free rfl) ⟨g_dep 2 (by kernel_rfl) (at_dep rfl rfl rfl), trivial⟩ (fun w hw => rn_load Try.isAgg3 rfl ((below_agree hw 0).cell (Nat.zero_le _) (cell_own (hS.at_ 0 rfl) rfl))) (at_top rfl)) ?_
        refine blp_v 5 rfl rfl (by kernel_rfl) (rgV (li := [(11, _)]) rfl (w_free rfl) ⟨g_fr (by kernel_rfl) rfl, trivial⟩ (fun w hw => rn_move rfl) (at_top rfl)) ?_
        refine blp_v 6 rfl rfl (by kernel_rfl) (rgV (li := [(1, _)]) rfl (w_free rfl) ⟨g_fr (by kernel_rfl) rfl, trivial⟩ (fun w hw => rn_move rfl) (at_top rfl)) ?_
        refine blp_v 7 rfl rfl (by kernel_rfl) (rgV (li := [(7, _)]) rfl (w_free rfl) ⟨g_fr (by kernel_rfl) rfl, trivial⟩ (fun w hw => rn_move rfl) (at_top rfl)) ?_
        refine blp_v 8 rfl rfl (by kernel_rfl) (rgV (li := [(10, _)]) rfl (w_free rfl) ⟨g_fr (by kernel_rfl) rfl, trivial⟩ (fun w hw => rn_loadA (vs := [_, _, _, _, _, _, _]) Try.isAgg76 Try.sizeOf76 rfl (CellsAt.agree (below_agree hw 0) (Nat.zero_le _) (CellsAt.own (j := 0) (m := 7) (hS.at_ 0 rfl) rfl))) (at_top rfl)) ?_
        refine blp_v 9 rfl rfl (by kernel_rfl) (rg_call [isV _, isV _, isV _] rfl goes_21 (w_free rfl) ⟨p_tmp (g_dep 5 (by kernel_rfl) (at_dep rfl rfl rfl)), p_tmp (g_dep 6 (by kernel_rfl) (at_dep rfl rfl rfl)), p_tmp (g_dep 7 (by kernel_rfl) (at_dep rfl rfl rfl)), trivial⟩ (fun vs w' hb hh => by have e := holds_isV (us := [_, _, _]) hh; subst e; exact (worth_is _ ⟨_, _, _, _, _, _, _⟩ _).mono fun e w2 h => ⟨_, h.1, rfl, h.2⟩) (at_top rfl)) ?_
        refine blp_v 10 rfl rfl (by kernel_rfl) (rgV (li := [(61, _), (62, _), (66, _)]) rfl (w_free rfl) ⟨g_dep 3 (by kernel_rfl) (at_dep rfl rfl rfl), g_dep 4 (by kernel_rfl) (at_dep rfl rfl rfl), g_dep 8 (by kernel_rfl) (at_dep rfl rfl rfl), trivial⟩ (fun w hw => rn_build (us := [(1, .int .i64 _), (3, .slice _ _ _), (4, .agg (List.toArray [_, _, _, _, _, _]))]) rfl (bld_69_1_3_4 _ _ _ _ _ _ _ _ _ _)) (at_top rfl)) ?_
        refine blp_q 11 rfl rfl (by kernel_rfl) (isRow W90.heap.size 1 69 _) (stab_isRow) (rg_rowV (us := [.agg (List.toArray [_, _, _, _, _, _, _, _, _, _])]) rfl (w_free rfl) Try.underlying54 Try.sizeOf69 Try.zeroValue69 rfl rfl ⟨p_tmp (g_dep 9 (by kernel_rfl) (at_dep rfl rfl rfl)), trivial⟩ (bs_54_1 _ _ _ _ _ _ _ _ _ _) (at_top rfl)) ?_
        refine blp_app 12 rfl rfl ?_
        refine blp_late 13 rfl rfl (rgV (li := [(8, _)]) rfl (w_free rfl) ⟨g_fr (by kernel_rfl) rfl, trivial⟩ (fun w hw => rn_field (o' := 5) fa_56_3 rfl rfl) (at_top rfl)) (lgV (li := [(8, _)]) rfl (w_free rfl) ⟨g_fr (by kernel_rfl) rfl, trivial⟩ (fun w => rn_field (o' := 5) fa_56_3 rfl rfl) (at_top rfl) rfl) ?_
        refine blp_nil ⟨_, _, g_dep 1 (by kernel_rfl) (at_dep rfl rfl rfl), g_dep 10 (by kernel_rfl) (at_dep rfl rfl rfl), rowOf_isRow rfl rfl, ?_⟩
        intro A12 v12 news12 W12 hbR hqA12 hS'
        clear hS; have hS := hS'; clear hS'
        cases hqA12
        refine fin_v ?_
        refine fin_v ?_
        refine fin_v ?_
        refine fin_v ?_
        refine fin_v ?_
        refine fin_v ?_
        refine fin_v ?_
        refine fin_v ?_
        refine fin_v ?_
        refine fin_v ?_
        refine fin_p ?_; intro _ _
        refine fin_v ?_
        refine fin_v ?_
        obtain ⟨a2, c2, e2, hac2⟩ := ownsRow_sl (hS.row 0 rfl)
        dsimp only at e2
        subst e2
        refine fin_nil ?_
        refine op_store (i := 1) (cs' := [_, _, _, _, _, _]) (O' := [_, _, _, _]) hS Try.sizeOf54 rfl rfl rfl rfl rfl rfl rfl ?_
        clear hS; intro W13 hS
        refine endF ?_
        refine XF.blkN ?_
        refine XF.thenN ?_
        refine regF ?_
        refine op_add rfl rfl (IntWalk.i64_in _ (by omega)) rfl ?_
        refine op_move rfl rfl ?_
        refine endF ?_
        have hS9 := hS.tail
        refine XF.round (sl - (i + 1)) [(1, _), (2, _), (4, _), (7, _), (8, _), (32, _), (33, _), (34, _)] (by omega) ⟨rfl, rfl, rfl, rfl, rfl, rfl, rfl, rfl, trivial⟩ ⟨i + 1, qs ++ [⟨s.f, some ⟨B90, 0, none⟩, 1, 1, [s.t]⟩], _, _, by omega, rfl, rfl, by simp [hql]; try omega, by rw [List.map_append, hqm, List.take_add_one, List.map_append, hy, List.map_cons, List.map_nil]; show _ = _ ++ [_]; rw [stepR_one n8]; rfl, ?_, hS9.castG (by simp [Nat.add_assoc])⟩
        exact fun h2 hk q hq => by
          rcases List.mem_append.1 hq with hq | hq
          · exact HQ h2 (fun r hr => hk r (by simp [hr])) q hq
          · rw [List.mem_singleton] at hq; subst hq
            exact ⟨rfl, .inr ⟨B90, rfl, Nat.le_trans hsz9 hlo90, H90 h2 (fun r hr => hk r (by simp at hr; subst hr; simp))⟩⟩
    · have hc35 := of_decide_eq_false hc; clear hc
      rw [List.take_of_length_le (by omega)] at hqm
      refine exitF ?_
      refine XF.thenX ?_
      refine XF.thenX ?_
      refine XF.blkX ?_
      refine XF.thenN ?_
      refine seqF ?_
      refine seqF ?_
      refine regF ?_
      refine op_field (o' := 3) fa_29_3 rfl rfl rfl ?_
      refine op_load Try.isAgg23 rfl (cell_own (hS.at_ 2 rfl) rfl) rfl ?_
      refine op_len Try.underlying23 rfl rfl ?_
      refine op_move rfl rfl ?_
      refine endF ?_
      refine XF.thenN ?_
      refine blockF ?_
      refine loopF (fun m l W => ∃ (i : Nat) (qs : List QV) (v : Value) (Kk : List (Nat × World)), i ≤ xl ∧ m = xl - i ∧ l = [(1, .int .i64 1), (2, .pointer (some ⟨B1, 0, none⟩)), (4, .pointer (some ⟨B2, 0, none⟩)), (7, .int .i64 (vl : Int)), (8, .pointer (some ⟨B5, 0, none⟩)), (73, .slice xa xl xc), (74, .int .i64 (xl : Int)), (75, .int .i64 (i : Int))] ∧ qs.length = sl + i ∧ qs.map QV.pl = ss.map (stepR ⟨va, vl, vc, pa, pl, pc, ea, el, ec, es, xa, xl, xc, xs, mn, oa, ol, oc, os, sa, sl, sc, ss, ta, tl, tc, ts, na, nl, nc, ns, ka, kl, kc, ks⟩) ++ (xs.take i).map exitR' ∧ Held w Kk (fun W2 => ∀ q ∈ qs, QN w.heap.size W2 q) ∧ St w [(B5, [.int .i64 1, .int .i64 0, .slice none 0 0, .int .i64 1, .int .i64 (ol : Int), v], 56), (B2, [.int .i64 0, .int .i64 0, .slice none 0 0, .int .i64 0, .int .i64 0, .slice none 0 0], 56), (B1, [.slice va vl vc, .slice pa pl pc, .slice ea el ec, .slice xa xl xc, .int .i64 mn, .slice oa ol oc, .slice sa sl sc, .slice ta tl tc, .slice na nl nc, .slice ka kl kc], 29)] [⟨v, sl + i, qs.flatMap QV.ten, 69, 10⟩] Kk W) (xl - 0) ([(1, _), (2, _), (4, _), (7, _), (8, _), (73, _), (74, _), (75, _)]) ⟨rfl, rfl, rfl, rfl, rfl, rfl, rfl, rfl, trivial⟩ (⟨0, qs, _, Kk, Nat.zero_le _, rfl, rfl, by omega, by rw [hqm]; simp, HQ, hS.castG (by rw [show i = sl + 0 by omega])⟩) ?_
      clear hS
      rintro m l W ⟨i, qs, v, Kk, hi, rfl, rfl, hql, hqm, HQ, hS⟩
      refine seqF ?_
      refine regF ?_
      refine op_lss rfl rfl rfl ?_
      refine endF ?_
      refine XF.thenN ?_
      refine seqF ?_
      refine condF rfl (fun hc => ?_) (fun hc => ?_)
      · have hc76 := of_decide_eq_true hc; clear hc
        have hk1 : i < xl := by omega
        obtain ⟨b, off, y, rfl, hy, hyc⟩ := hx.get (i := i) (by omega)
        have k1 := (CellsAt.agree hS.agree (Nat.zero_le _) hyc).1
        refine skipF ?_
        refine XF.thenN ?_
        refine seqF ?_
        refine blockF ?_
        refine seqF ?_
        refine regF ?_
        refine op_indexA  Try.underlying23 Try.sizeOf3 rfl rfl rfl (by omega) rfl rfl ?_
        refine op_load Try.isAgg3 rfl (k1) rfl ?_
        refine op_assign rfl rfl ?_
        refine endF ?_
        refine XF.thenN ?_
        refine regBP (p := 9) (k := 11) (gi := 0) (m := 1) followsM hS rfl rfl (by kernel_rfl) (by kernel_rfl) (by kernel_rfl) (fun d hd => by cases hd) rfl rfl Try.underlying54 inf_69 rfl rfl (by show 0 < 10; decide) rfl rfl rfl (by simp only [maxLen]; omega) (by show (sl + i + 1) * 144 ≤ _; omega) ?_
        refine blp_v 1 rfl rfl (by kernel_rfl) (rgV (li := [(8, _)]) rfl (w_free rfl) ⟨g_fr (by kernel_rfl) rfl, trivial⟩ (fun w hw => rn_field (o' := 5) fa_56_3 rfl rfl) (at_top rfl)) ?_
        refine blp_v 2 rfl rfl (by kernel_rfl) (rgV (li := [(79, _)]) rfl (w_free rfl) ⟨g_dep 0 (by kernel_rfl) (at_dep rfl rfl rfl), trivial⟩ (fun w hw => rn_load Try.isAgg54 rfl ((below_agree hw 0).cell (Nat.zero_le _) (cell_own (hS.at_ 0 rfl) rfl))) (at_top rfl)) ?_
        refine blp_v 3 rfl rfl (by kernel_rfl) (rgV (li := [(13, _)]) rfl (w_free rfl) ⟨g_fr (by kernel_rfl) rfl, trivial⟩ (fun w hw => rn_move rfl) (at_top rfl)) ?_
        refine blp_v 4 rfl rfl (by kernel_rfl) (rgV (li := [(1, _)]) rfl (w_free rfl) ⟨g_fr (by kernel_rfl) rfl, trivial⟩ (fun w hw => rn_move rfl) (at_top rfl)) ?_
        refine blp_v 5 rfl rfl (by kernel_rfl) (rgV (li := [(7, _)]) rfl (w_free rfl) ⟨g_fr (by kernel_rfl) rfl, trivial⟩ (fun w hw => rn_move rfl) (at_top rfl)) ?_
        refine blp_v 6 rfl rfl (by kernel_rfl) (rgV (li := []) rfl (w_free rfl) trivial (fun w hw => rn_build (us := [(2, .int .i64 _)]) rfl (bld_76_2 _)) (at_top rfl)) ?_
        refine blp_v 7 rfl rfl (by kernel_rfl) (rg_call [isV _, isV _, isV _] rfl goes_21 (w_free rfl) ⟨p_tmp (g_dep 3 (by kernel_rfl) (at_dep rfl rfl rfl)), p_tmp (g_dep 4 (by kernel_rfl) (at_dep rfl rfl rfl)), p_tmp (g_dep 5 (by kernel_rfl) (at_dep rfl rfl rfl)), trivial⟩ (fun vs w' hb hh => by have e := holds_isV (us := [_, _, _]) hh; subst e; exact (worth_is _ ⟨_, _, _, _, _, _, _⟩ _).mono fun e w2 h => ⟨_, h.1, rfl, h.2⟩) (at_top rfl)) ?_
        refine blp_v 8 rfl rfl (by kernel_rfl) (rgV (li := [(81, _), (85, _)]) rfl (w_free rfl) ⟨g_dep 2 (by kernel_rfl) (at_dep rfl rfl rfl), g_dep 6 (by kernel_rfl) (at_dep rfl rfl rfl), trivial⟩ (fun w hw => rn_build (us := [(1, .int .i64 _), (4, .agg (List.toArray [_, _, _, _, _, _]))]) rfl (bld_69_1_4 _ _ _ _ _ _ _)) (at_top rfl)) ?_
        refine blp_q 9 rfl rfl (by kernel_rfl) (isRow W.heap.size 1 69 _) (stab_isRow) (rg_rowV (us := [.agg (List.toArray [_, _, _, _, _, _, _, _, _, _])]) rfl (w_free rfl) Try.underlying54 Try.sizeOf69 Try.zeroValue69 rfl rfl ⟨p_tmp (g_dep 7 (by kernel_rfl) (at_dep rfl rfl rfl)), trivial⟩ (bs_54_1 _ _ _ _ _ _ _ _ _ _) (at_top rfl)) ?_
        refine blp_app 10 rfl rfl ?_
        refine blp_late 11 rfl rfl (rgV (li := [(8, _)]) rfl (w_free rfl) ⟨g_fr (by kernel_rfl) rfl, trivial⟩ (fun w hw => rn_field (o' := 5) fa_56_3 rfl rfl) (at_top rfl)) (lgV (li := [(8, _)]) rfl (w_free rfl) ⟨g_fr (by kernel_rfl) rfl, trivial⟩ (fun w => rn_field (o' := 5) fa_56_3 rfl rfl) (at_top rfl) rfl) ?_
        refine blp_nil ⟨_, _, g_dep 1 (by kernel_rfl) (at_dep rfl rfl rfl), g_dep 8 (by kernel_rfl) (at_dep rfl rfl rfl), rowOf_isRow rfl rfl, ?_⟩
        intro A14 v14 news14 W14 hbR hqA14 hS'
        clear hS; have hS := hS'; clear hS'
        cases hqA14
        refine fin_v ?_
        refine fin_v ?_
        refine fin_v ?_
        refine fin_v ?_
        refine fin_v ?_
        refine fin_v ?_
        refine fin_v ?_
        refine fin_v ?_
        refine fin_p ?_; intro _ _
        refine fin_v ?_
        refine fin_v ?_
        obtain ⟨a2, c2, e2, hac2⟩ := ownsRow_sl (hS.row 0 rfl)
        dsimp only at e2
        subst e2
        refine fin_nil ?_
        refine op_store (i := 0) (cs' := [_, _, _, _, _, _]) (O' := [_, _, _]) hS Try.sizeOf54 rfl rfl rfl rfl rfl rfl rfl ?_
        clear hS; intro W15 hS
        refine endF ?_
        refine XF.blkN ?_
        refine XF.thenN ?_
        refine regF ?_
        refine op_add rfl rfl (IntWalk.i64_in _ (by omega)) rfl ?_
        refine op_move rfl rfl ?_
        refine endF ?_
        have hS9 := hS
        refine XF.round (xl - (i + 1)) [(1, _), (2, _), (4, _), (7, _), (8, _), (73, _), (74, _), (75, _)] (by omega) ⟨rfl, rfl, rfl, rfl, rfl, rfl, rfl, rfl, trivial⟩ ⟨i + 1, qs ++ [⟨y, none, 0, 0, []⟩], _, _, by omega, rfl, rfl, by simp [hql]; try omega, by rw [List.map_append, hqm, List.take_add_one, List.map_append, hy, List.append_assoc]; rfl, ?_, hS9.castG (by simp [Nat.add_assoc])⟩
        exact fun h2 hk q hq => by
          rcases List.mem_append.1 hq with hq | hq
          · exact HQ h2 (fun r hr => hk r (by simp [hr])) q hq
          · rw [List.mem_singleton] at hq; subst hq
            exact ⟨rfl, .inl rfl⟩
      · have hc76 := of_decide_eq_false hc; clear hc
        rw [List.take_of_length_le (by omega)] at hqm
        obtain ⟨a9, c9, rfl, hac⟩ := ownsRow_sl (v := v) (n := sl + i) (hS.row 0 rfl)
        refine exitF ?_
        refine XF.thenX ?_
        refine XF.thenX ?_
        refine XF.blkX ?_
        refine XF.thenN ?_
        refine seqF ?_
        refine regF ?_
        refine op_loadA (vs := [_, _, _, _, _, _]) Try.isAgg56 Try.sizeOf56 rfl (CellsAt.own (j := 0) (m := 6) (hS.at_ 0 rfl) rfl) rfl ?_
        refine op_storeA (i := 1) (vs := [_, _, _, _, _, _]) (cs' := [_, _, _, _, _, _]) (O' := [_, _, _]) hS Try.sizeOf56 rfl rfl rfl rfl rfl rfl rfl ?_
        clear hS; intro W16 hS
        refine op_assign rfl rfl ?_
        refine endF ?_
        refine XF.thenN ?_
        refine retF ?_
        refine XF.res (resCT (vs := [_, _, _, _, _, _]) Try.results14 Try.isAgg56 Try.sizeOf56 rfl (CellsAt.own (j := 0) (m := 6) (hS.at_ 1 rfl) rfl) rfl) ?_
        exact ⟨hS.below, .inr ⟨hce, a9, c9, qs, by rw [hql], by rw [hql]; exact hS.row 0 rfl, hqm, HQ hS (fun r hr => by simp [hr])⟩⟩
end Go.Proofs.Ytpinbmjkbkogdaa
namespace Go.Proofs.Ytpinbmjkbkogdaa
open Go Go.RowKit
set_option linter.unusedVariables false
theorem flat_at {α : Type} {f : α → List Value} {sz : Nat} (hf : ∀ x, (f x).length = sz) : ∀ {xs : List α} {i : Nat} {x : α}, xs[i]? = some x → ((xs.flatMap f).drop (i * sz)).take sz = f x
  | [], i, x, h => by simp at h
  | y :: xs, 0, x, h => by
    simp at h; subst h
    rw [Nat.zero_mul, List.drop_zero, List.flatMap_cons, List.take_append_of_le_length (by rw [hf]; exact Nat.le_refl _), List.take_of_length_le (by rw [hf]; exact Nat.le_refl _)]
  | y :: xs, i + 1, x, h => by
    have h2 : (i + 1) * sz = (f y).length + i * sz := by rw [hf, Nat.succ_mul, Nat.add_comm]
    rw [List.flatMap_cons, h2, ← List.drop_drop, List.drop_left]
    exact flat_at hf (by simpa using h)
theorem rowL_own {α : Type} {f : α → List Value} {sz : Nat} {W : World} {B : Nat} {xs : List α} {T : TypeId} (hf : ∀ x, (f x).length = sz) (h : W.heap[B]? = some (.cells (xs.flatMap f).toArray T (0, 0))) : RowL f sz W (some ⟨B, 0, none⟩) xs :=
  .inr ⟨B, 0, rfl, fun i x hx => by rw [Nat.zero_add]; exact CellsAt.own h (flat_at hf hx)⟩
structure KnownG (g : GV) : Prop where
  v : g.vl = 0
  p : g.pl = 2
  el : g.el = 2
  es : g.es = [0, 3]
  xl : g.xl = 2
  xs : g.xs = [1, 4]
  mn : g.mn = 0
  ol : g.ol = 5
  os : g.os = [0, 0, 0, 1, 1]
  sl : g.sl = 3
  ss : g.ss = [⟨0, 2, 8, 0, 0, 0, 0⟩, ⟨2, 1, 1, 0, 0, 0, 0⟩, ⟨3, 4, 1, 0, 0, 0, 0⟩]
  tl : g.tl = 1
  ts : ∃ nm, g.ts = [⟨nm, 1, 0, 2⟩]
  nl : g.nl = 0
  ns : g.ns = []
  kl : g.kl = 0
  ks : g.ks = []
theorem KnownG.few {g : GV} (h : KnownG g) : GFew g := ⟨by rw [h.v]; decide, by rw [h.p]; decide, by rw [h.el]; decide, by rw [h.xl]; decide, by rw [h.ol]; decide, by rw [h.sl]; decide, by rw [h.tl]; decide, by rw [h.nl]; decide, by rw [h.kl]; decide⟩
theorem KnownG.facts {g : GV} (h : KnownG g) : checkE g = 0 ∧ CallsOk g ∧ g.ss.map (stepR g) ++ g.xs.map exitR' = [(0, [3, 2]), (2, [1]), (3, [4]), (1, []), (4, [])] ∧ confE g 3 [0] = (0, [3, 2]) := by
  obtain ⟨va, vl, vc, pa, pl, pc, ea, el, ec, es, xa, xl, xc, xs, mn, oa, ol, oc, os, sa, sl, sc, ss, ta, tl, tc, ts, na, nl, nc, ns, ka, kl, kc, ks⟩ := g
  obtain ⟨h1, h2, h3, h4, h5, h6, h7, h8, h9, h10, h11, h12, ⟨nm, h13⟩, h14, h15, h16, h17⟩ := h
  dsimp only at h1 h2 h3 h4 h5 h6 h7 h8 h9 h10 h11 h12 h13 h14 h15 h16 h17
  subst h1 h2 h3 h4 h5 h6 h7 h8 h9 h10 h11 h12 h13 h14 h15 h16 h17
  refine ⟨rfl, fun s hs h8 => ?_, rfl, rfl⟩
  simp only [List.mem_cons, List.not_mem_nil, or_false] at hs
  rcases hs with rfl | rfl | rfl
  · exact ⟨0, 1, ⟨nm, 1, 0, 2⟩, rfl, by show (0 : Nat) < 1; decide, rfl, rfl, by show (1 : Nat) < 2; decide⟩
  · exact absurd h8 (by decide)
  · exact absurd h8 (by decide)
theorem pdsRet_ok {g : GV} {w : World} {e : Ending} {w' : World} (h : PdsRet g w e w') (hc : checkE g = 0) : ∃ a c, ∃ qs : List QV, e = .returned (.tuple #[.agg #[.int .i64 1, .int .i64 0, .slice none 0 0, .int .i64 1, .int .i64 (g.ol : Int), .slice a qs.length c], .int .i64 0]) ∧
    w'.ownsRow w.heap.size 69 10 (.slice a qs.length c) qs.length (qs.flatMap QV.ten) ∧ qs.map QV.pl = g.ss.map (stepR g) ++ g.xs.map exitR' ∧ (∀ q ∈ qs, QN w.heap.size w' q) ∧ Below w.heap.size w w' := by
  obtain ⟨hb, ⟨h1, _⟩ | ⟨_, a, c, qs, h2, h3, h4, h5⟩⟩ := h
  · exact absurd hc h1
  · exact ⟨a, c, qs, h2, h3, h4, h5, hb⟩
theorem confRet_ok {R : Int × List Int} {w : World} {e : Ending} {w' : World} {l : List Int} (h : ConfRet R w e w') (hR : R = (0, l)) : ∃ a c, e = .returned (.tuple #[.agg #[.int .i64 0, .slice a l.length c], .int .i64 0]) ∧ RowN w.heap.size w' a c l ∧ Below w.heap.size w w' := by
  subst hR
  obtain ⟨hb, ⟨h1, _⟩ | ⟨_, a, c, h2, h3⟩⟩ := h
  · exact absurd rfl h1
  · exact ⟨a, c, h2, h3, hb⟩
theorem five_rules {qs : List QV} (h : qs.map QV.pl = [(0, [3, 2]), (2, [1]), (3, [4]), (1, []), (4, [])]) : ∃ a0 l0 c0 q1 q2 q3 a4 l4 c4, qs = [⟨0, a0, l0, c0, [3, 2]⟩, q1, q2, q3, ⟨4, a4, l4, c4, []⟩] := by
  have hl : qs.length = 5 := by simpa using congrArg List.length h
  match qs, hl, h with
  | [⟨g0, a0, l0, c0, w0⟩, q1, q2, q3, ⟨g4, a4, l4, c4, w4⟩], _, h =>
    simp only [List.map_cons, List.map_nil, List.cons.injEq, QV.pl, Prod.mk.injEq] at h
    obtain ⟨⟨rfl, rfl⟩, _, _, _, ⟨rfl, rfl⟩, _⟩ := h
    exact ⟨a0, l0, c0, q1, q2, q3, a4, l4, c4, rfl⟩
theorem old_heap {lo : Nat} {A W : World} {B : Nat} {o : Obj} (hg : Agree lo A W) (hB : lo ≤ B) (h : A.heap[B]? = some o) : W.heap[B]? = some o := (hg.2 B hB (lt_of_heap h)).trans h
end Go.Proofs.Ytpinbmjkbkogdaa
namespace Go.Proofs.Ytpinbmjkbkogdaa
open Go Go.RowKit
set_option linter.unusedVariables false
theorem bld_29_1_2_3_5_6_7 (v1a : Option Addr) (v1l : Nat) (v1c : Nat) (v2a : Option Addr) (v2l : Nat) (v2c : Nat) (v3a : Option Addr) (v3l : Nat) (v3c : Nat) (v5a : Option Addr) (v5l : Nat) (v5c : Nat) (v6a : Option Addr) (v6l : Nat) (v6c : Nat) (v7a : Option Addr) (v7l : Nat) (v7c : Nat) : Try.prog.built 29 [(1, .slice v1a v1l v1c), (2, .slice v2a v2l v2c), (3, .slice v3a v3l v3c), (5, .slice v5a v5l v5c), (6, .slice v6a v6l v6c), (7, .slice v7a v7l v7c)] = some #[.slice none 0 0, .slice v1a v1l v1c, .slice v2a v2l v2c, .slice v3a v3l v3c, .int .i64 0, .slice v5a v5l v5c, .slice v6a v6l v6c, .slice v7a v7l v7c, .slice none 0 0, .slice none 0 0] := by kernel_rfl
theorem bld_47_0_1_3 (v0 : ByteArray) (v1 : Int) (v3 : Int) : Try.prog.built 47 [(0, .string v0), (1, .int .i64 v1), (3, .int .i64 v3)] = some #[.string v0, .int .i64 v1, .int .i64 0, .int .i64 v3] := by kernel_rfl
theorem bld_76_0_1_2 (v0 : Int) (v1 : Int) (v2 : Int) : Try.prog.built 76 [(0, .int .i64 v0), (1, .int .i64 v1), (2, .int .i64 v2)] = some #[.int .i64 v0, .int .i64 v1, .int .i64 v2, .int .i64 0, .int .i64 0, .int .i64 0, .int .i64 0] := by kernel_rfl
theorem bld_76_1_2 (v1 : Int) (v2 : Int) : Try.prog.built 76 [(1, .int .i64 v1), (2, .int .i64 v2)] = some #[.int .i64 0, .int .i64 v1, .int .i64 v2, .int .i64 0, .int .i64 0, .int .i64 0, .int .i64 0] := by kernel_rfl
theorem bs_22_2 (v0 : ByteArray) (v1 : ByteArray) : Instr.fill (fun i => some (i * 1, 1)) ((Array.range (2 * 1)).map ((Value.cells (.string ByteArray.empty))[· % (Value.cells (.string ByteArray.empty)).size]!)) [(0, .string v0), (1, .string v1)] = some (List.toArray [.string v0, .string v1]) := by kernel_rfl
theorem bs_23_5 (v0 : Int) (v1 : Int) (v2 : Int) (v3 : Int) (v4 : Int) : Instr.fill (fun i => some (i * 1, 1)) ((Array.range (5 * 1)).map ((Value.cells (.int .i64 0))[· % (Value.cells (.int .i64 0)).size]!)) [(0, .int .i64 v0), (1, .int .i64 v1), (2, .int .i64 v2), (3, .int .i64 v3), (4, .int .i64 v4)] = some (List.toArray [.int .i64 v0, .int .i64 v1, .int .i64 v2, .int .i64 v3, .int .i64 v4]) := by kernel_rfl
theorem bs_24_3 (v00 : Value) (v01 : Value) (v02 : Value) (v03 : Value) (v04 : Value) (v05 : Value) (v06 : Value) (v10 : Value) (v11 : Value) (v12 : Value) (v13 : Value) (v14 : Value) (v15 : Value) (v16 : Value) (v20 : Value) (v21 : Value) (v22 : Value) (v23 : Value) (v24 : Value) (v25 : Value) (v26 : Value) : Instr.fill (fun i => some (i * 7, 7)) ((Array.range (3 * 7)).map ((Value.cells (.agg #[.int .i64 0, .int .i64 0, .int .i64 0, .int .i64 0, .int .i64 0, .int .i64 0, .int .i64 0]))[· % (Value.cells (.agg #[.int .i64 0, .int .i64 0, .int .i64 0, .int .i64 0, .int .i64 0, .int .i64 0, .int .i64 0])).size]!)) [(0, .agg #[v00, v01, v02, v03, v04, v05, v06]), (1, .agg #[v10, v11, v12, v13, v14, v15, v16]), (2, .agg #[v20, v21, v22, v23, v24, v25, v26])] = some (List.toArray [v00, v01, v02, v03, v04, v05, v06, v10, v11, v12, v13, v14, v15, v16, v20, v21, v22, v23, v24, v25, v26]) := by kernel_rfl
theorem bs_25_1 (v00 : Value) (v01 : Value) (v02 : Value) (v03 : Value) : Instr.fill (fun i => some (i * 4, 4)) ((Array.range (1 * 4)).map ((Value.cells (.agg #[.string ByteArray.empty, .int .i64 0, .int .i64 0, .int .i64 0]))[· % (Value.cells (.agg #[.string ByteArray.empty, .int .i64 0, .int .i64 0, .int .i64 0])).size]!)) [(0, .agg #[v00, v01, v02, v03])] = some (List.toArray [v00, v01, v02, v03]) := by kernel_rfl
theorem fa_69_1 (w : World) (b o : Nat) : (Instr.fieldAt 69 (.pointer (some ⟨b, o, none⟩)) 1).run Try.prog w = .ok (.pointer (some ⟨b, o + 1, none⟩)) w := by
  simp [Instr.fieldAt, run_underlying Try.underlying69, Instr.sureAddr, go_sem, Addr.add_lit]
theorem fa_69_3 (w : World) (b o : Nat) : (Instr.fieldAt 69 (.pointer (some ⟨b, o, none⟩)) 3).run Try.prog w = .ok (.pointer (some ⟨b, o + 3, none⟩)) w := by
  simp [Instr.fieldAt, run_underlying Try.underlying69, Instr.sureAddr, go_sem, Addr.add_lit]
theorem goes_13 : goesIn Try.prog 13 = true := by kernel_rfl
theorem goes_14 : goesIn Try.prog 14 = true := by kernel_rfl
theorem goes_7 : goesIn Try.prog 7 = true := by kernel_rfl
set_option maxRecDepth 100000 in
set_option maxHeartbeats 4000000 in
theorem known_is (w : World) :
    Calls Try.prog 13 #[] w (fun e w' => ∃ g : GV, e = .returned g.val ∧ KnownG g ∧ (∀ W2, Agree w.heap.size w' W2 → GIn W2 g) ∧ Below w.heap.size w w') := by
  refine enterF (args := []) Try.func13 rfl Try.ntmps13 rfl ?_
  have hS := St.start w
  refine seqF ?_
  refine regF ?_
  refine op_alloc (cs := [_, _, _, _, _, _, _, _, _, _]) hS Try.zeroValue29 rfl rfl ?_
  clear hS; intro B1 W1 hS
  refine endF ?_
  refine XF.thenN ?_
  refine seqF ?_
  refine regF ?_
  refine op_buildSlice (us := [(0, .string _), (1, .string _)]) hS Try.underlying22 Try.sizeOf9 Try.zeroValue9 rfl rfl rfl (bs_22_2 _ _) rfl ?_
  clear hS; intro B2 W2 hS
  refine op_buildSlice (us := [(0, .int .i64 _), (1, .int .i64 _)]) hS Try.underlying23 Try.sizeOf3 Try.zeroValue3 rfl rfl rfl (bs_23_2 _ _) rfl ?_
  clear hS; intro B3 W3 hS
  refine op_buildSlice (us := [(0, .int .i64 _), (1, .int .i64 _)]) hS Try.underlying23 Try.sizeOf3 Try.zeroValue3 rfl rfl rfl (bs_23_2 _ _) rfl ?_
  clear hS; intro B4 W4 hS
  refine op_buildSlice (us := [(0, .int .i64 _), (1, .int .i64 _), (2, .int .i64 _), (3, .int .i64 _), (4, .int .i64 _)]) hS Try.underlying23 Try.sizeOf3 Try.zeroValue3 rfl rfl rfl (bs_23_5 _ _ _ _ _) rfl ?_
  clear hS; intro B5 W5 hS
  refine op_build (us := [(1, .int .i64 _), (2, .int .i64 _)]) rfl (bld_76_1_2 _ _) rfl ?_
  refine op_build (us := [(0, .int .i64 _), (1, .int .i64 _), (2, .int .i64 _)]) rfl (bld_76_0_1_2 _ _ _) rfl ?_
  refine op_build (us := [(0, .int .i64 _), (1, .int .i64 _), (2, .int .i64 _)]) rfl (bld_76_0_1_2 _ _ _) rfl ?_
  refine op_buildSlice (us := [(0, .agg (List.toArray [_, _, _, _, _, _, _])), (1, .agg (List.toArray [_, _, _, _, _, _, _])), (2, .agg (List.toArray [_, _, _, _, _, _, _]))]) hS Try.underlying24 Try.sizeOf76 Try.zeroValue76 rfl rfl rfl (bs_24_3 _ _ _ _ _ _ _ _ _ _ _ _ _ _ _ _ _ _ _ _ _) rfl ?_
  clear hS; intro B6 W6 hS
  refine op_build (us := [(0, .string _), (1, .int .i64 _), (3, .int .i64 _)]) rfl (bld_47_0_1_3 _ _ _) rfl ?_
  refine op_buildSlice (us := [(0, .agg (List.toArray [_, _, _, _]))]) hS Try.underlying25 Try.sizeOf47 Try.zeroValue47 rfl rfl rfl (bs_25_1 _ _ _ _) rfl ?_
  clear hS; intro B7 W7 hS
  refine op_build (us := [(1, .slice _ _ _), (2, .slice _ _ _), (3, .slice _ _ _), (5, .slice _ _ _), (6, .slice _ _ _), (7, .slice _ _ _)]) rfl (bld_29_1_2_3_5_6_7 _ _ _ _ _ _ _ _ _ _ _ _ _ _ _ _ _ _) rfl ?_
  refine op_storeA (i := 6) (vs := [_, _, _, _, _, _, _, _, _, _]) (cs' := [_, _, _, _, _, _, _, _, _, _]) (O' := [_, _, _, _, _, _, _]) hS Try.sizeOf29 rfl rfl rfl rfl rfl rfl rfl ?_
  clear hS; intro W8 hS
  refine endF ?_
  refine XF.thenN ?_
  refine retF ?_
  refine XF.res (resC1 (vs := [_, _, _, _, _, _, _, _, _, _]) Try.results13 Try.isAgg29 Try.sizeOf29 rfl (CellsAt.own (j := 0) (m := 10) (hS.at_ 6 rfl) rfl)) ?_
  obtain ⟨nm, hnm⟩ : ∃ nm, W8.heap[B7]? = some (.cells #[.string nm, .int .i64 1, .int .i64 0, .int .i64 2] 47 (0, 0)) := ⟨_, hS.at_ 0 rfl⟩
  refine ⟨⟨none, 0, 0, some ⟨B2, 0, none⟩, 2, 2, some ⟨B3, 0, none⟩, 2, 2, [0, 3], some ⟨B4, 0, none⟩, 2, 2, [1, 4], 0, some ⟨B5, 0, none⟩, 5, 5, [0, 0, 0, 1, 1], some ⟨B6, 0, none⟩, 3, 3, [⟨0, 2, 8, 0, 0, 0, 0⟩, ⟨2, 1, 1, 0, 0, 0, 0⟩, ⟨3, 4, 1, 0, 0, 0, 0⟩], some ⟨B7, 0, none⟩, 1, 1, [⟨nm, 1, 0, 2⟩], none, 0, 0, [], none, 0, 0, []⟩, rfl, ⟨rfl, rfl, rfl, rfl, rfl, rfl, rfl, rfl, rfl, rfl, rfl, rfl, ⟨_, rfl⟩, rfl, rfl, rfl, rfl⟩, fun W2 hg => ?_, hS.below⟩
  exact ⟨rowL_own (fun _ => rfl) (old_heap hg (hS.ge 4 rfl) (hS.at_ 4 rfl)), rfl, rowL_own (fun _ => rfl) (old_heap hg (hS.ge 3 rfl) (hS.at_ 3 rfl)), rfl, rowL_own (fun _ => rfl) (old_heap hg (hS.ge 2 rfl) (hS.at_ 2 rfl)), rfl, rowL_own (fun _ => rfl) (old_heap hg (hS.ge 1 rfl) (hS.at_ 1 rfl)), rfl, rowL_own (fun _ => rfl) (old_heap hg (hS.ge 0 rfl) hnm), rfl, .inl rfl, rfl, .inl rfl, rfl⟩

theorem pds_is (g : GV) (w : World) (hg : GIn w g) (hf : GFew g) (hco : CallsOk g) : Calls Try.prog 14 #[g.val, .int .i64 1] w (PdsRet g w) :=
  pds_c g.va g.vl g.vc g.pa g.pl g.pc g.ea g.el g.ec g.es g.xa g.xl g.xc g.xs g.mn g.oa g.ol g.oc g.os g.sa g.sl g.sc g.ss g.ta g.tl g.tc g.ts g.na g.nl g.nc g.ns g.ka g.kl g.kc g.ks w hg.e hg.el hg.x hg.xl hg.o hg.ol hg.s hg.sl hg.t hg.tl hg.n hg.nl hg.k hg.kl hf.v hf.p hf.e hf.x hf.o hf.s hf.t hf.n hf.k hco
theorem conf_is (g : GV) (node : Int) (la : Option Addr) (ll lc : Nat) (is : List Int) (w : World) (hg : GIn w g) (hf : GFew g) (hrla : RowI w la is) (hll : is.length = ll) (hlm : ll ≤ 5000) : Calls Try.prog 7 #[g.val, .int .i64 node, .slice la ll lc] w (ConfRet (confE g node is) w) :=
  conf_c g.va g.vl g.vc g.pa g.pl g.pc g.ea g.el g.ec g.es g.xa g.xl g.xc g.xs g.mn g.oa g.ol g.oc g.os g.sa g.sl g.sc g.ss g.ta g.tl g.tc g.ts g.na g.nl g.nc g.ns g.ka g.kl g.kc g.ks node la ll lc is w hg.e hg.el hg.x hg.xl hg.o hg.ol hg.s hg.sl hg.t hg.tl hg.n hg.nl hg.k hg.kl hf.v hf.p hf.e hf.x hf.o hf.s hf.t hf.n hf.k hrla hll hlm
theorem sites_is (g : GV) (p : Int) (wa : Option Addr) (wl wc : Nat) (ws : List Int) (w : World) (hg : GIn w g) (hf : GFew g) (hrw : RowI w wa ws) (hwl : ws.length = wl) (hwc : wl ≤ wc) : Calls Try.prog 9 #[g.val, .agg #[.int .i64 p, .slice wa wl wc]] w (SitesRet (sitesE g p ws) w) :=
  sites_c g.va g.vl g.vc g.pa g.pl g.pc g.ea g.el g.ec g.es g.xa g.xl g.xc g.xs g.mn g.oa g.ol g.oc g.os g.sa g.sl g.sc g.ss g.ta g.tl g.tc g.ts g.na g.nl g.nc g.ns g.ka g.kl g.kc g.ks w hg.e hg.el hg.x hg.xl hg.o hg.ol hg.s hg.sl hg.t hg.tl hg.n hg.nl hg.k hg.kl hf.v hf.p hf.e hf.x hf.o hf.s hf.t hf.n hf.k p wa wl wc ws hrw hwl hwc

set_option maxRecDepth 100000 in
set_option maxHeartbeats 4000000 in
theorem alive_is (w : World) :
    Calls Try.prog 6 #[] w (fun e w' => e = .returned (.bool (true)) ∧ Below w.heap.size w w') := by
  refine enterF (args := []) Try.func6 rfl Try.ntmps6 rfl ?_
  have hS := St.start w
  refine seqF ?_
  refine regF ?_
  refine op_assign rfl rfl ?_
  refine endF ?_
  refine XF.thenN ?_
  refine seqF ?_
  refine regF ?_
  refine op_call (vs := []) hS goes_13 rfl (known_is _) rfl ?_
  rintro e W1 ⟨g, rfl, hkn, hgin, hb⟩
  refine ⟨_, rfl, hb, fun hS' => ?_⟩
  clear hS; have hS := hS'; clear hS'
  obtain ⟨hce, hco, hrules, hcf⟩ := hkn.facts
  refine op_alloc (cs := [_, _, _, _, _, _, _, _, _, _]) hS Try.zeroValue29 rfl rfl ?_
  clear hS; intro B2 W2 hS
  refine op_storeA (i := 0) (vs := [_, _, _, _, _, _, _, _, _, _]) (cs' := [_, _, _, _, _, _, _, _, _, _]) (O' := [_]) hS Try.sizeOf29 rfl rfl rfl rfl rfl rfl rfl ?_
  clear hS; intro W3 hS
  refine endF ?_
  refine XF.thenN ?_
  refine seqF ?_
  refine regF ?_
  refine op_loadA (vs := [_, _, _, _, _, _, _, _, _, _]) Try.isAgg29 Try.sizeOf29 rfl (CellsAt.own (j := 0) (m := 10) (hS.at_ 0 rfl) rfl) rfl ?_
  have hgi2 := hgin _ (hS.since 0 rfl)
  refine op_call (vs := [_, _]) hS goes_14 rfl ((pds_is g _ hgi2 hkn.few hco).mono fun e w2 h => pdsRet_ok h hce) rfl ?_
  rintro e W4 ⟨ap, cp, qs, rfl, hrow, hqm, hqn, hb⟩
  refine ⟨_, rfl, hb, fun hS' => ?_⟩
  clear hS; have hS := hS'; clear hS'
  rw [hrules] at hqm
  obtain ⟨a0, l0, c0, q1, q2, q3, a4, l4, c4, rfl⟩ := five_rules hqm
  refine op_move rfl rfl ?_
  refine op_extract rfl rfl rfl ?_
  refine op_extract rfl rfl rfl ?_
  refine op_alloc (cs := [_, _, _, _, _, _]) hS Try.zeroValue56 rfl rfl ?_
  clear hS; intro B5 W5 hS
  refine op_storeA (i := 0) (vs := [_, _, _, _, _, _]) (cs' := [_, _, _, _, _, _]) (O' := [_, _]) hS Try.sizeOf56 rfl rfl rfl rfl rfl rfl rfl ?_
  clear hS; intro W6 hS
  refine op_assign rfl rfl ?_
  refine endF ?_
  refine XF.thenN ?_
  refine seqF ?_
  refine regF ?_
  refine op_loadA (vs := [_, _, _, _, _, _, _, _, _, _]) Try.isAgg29 Try.sizeOf29 rfl (CellsAt.own (j := 0) (m := 10) (hS.at_ 1 rfl) rfl) rfl ?_
  refine op_buildSlice (us := [(0, .int .i64 _)]) hS Try.underlying23 Try.sizeOf3 Try.zeroValue3 rfl rfl rfl (bs_23_1 _) rfl ?_
  clear hS; intro B7 W7 hS
  have hgi3 := hgin _ (hS.since 1 rfl)
  refine op_call (vs := [_, _, _]) hS goes_7 rfl ((conf_is g 3 _ 1 1 [0] _ hgi3 hkn.few (rowI_of1 (hS.at_ 0 rfl)) rfl (by decide)).mono fun e w2 h => confRet_ok h hcf) rfl ?_
  rintro e W8 ⟨ac, cc, rfl, hcn, hb⟩
  refine ⟨_, rfl, hb, fun hS' => ?_⟩
  clear hS; have hS := hS'; clear hS'
  refine op_move rfl rfl ?_
  refine op_extract rfl rfl rfl ?_
  refine op_extract rfl rfl rfl ?_
  refine op_alloc (cs := [_, _]) hS Try.zeroValue31 rfl rfl ?_
  clear hS; intro B9 W9 hS
  refine op_storeA (i := 0) (vs := [_, _]) (cs' := [_, _]) (O' := [_, _, _, _]) hS Try.sizeOf31 rfl rfl rfl rfl rfl rfl rfl ?_
  clear hS; intro W10 hS
  refine op_assign rfl rfl ?_
  refine endF ?_
  refine XF.thenN ?_
  refine seqF ?_
  have hg4 := hS.since 1 rfl
  have hrow4 := ownsRow_agree hrow hg4
  obtain ⟨hne, h0⟩ | ⟨br, rfl, _, hcell⟩ := ownsRow_cells hrow4
  · simp at h0
  have hq0 := (hqn _ List.mem_cons_self).agree hg4
  have hq4 := (hqn ⟨4, a4, l4, c4, []⟩ (by simp)).agree hg4
  have hl0 : 2 = l0 := hq0.1
  have hl4 : 0 = l4 := hq4.1
  subst hl0; subst hl4
  obtain ⟨B0, ha0, _, hB0⟩ := hq0.2.resolve_left (by simp)
  have ha0' : a0 = some ⟨B0, 0, none⟩ := ha0
  subst ha0'
  have k1 := hcell 3 _ rfl
  have k2 : W10.cell? ⟨B0, 0, none⟩ = some (.int .i64 3) := cell_own (cs := [_, _]) (j := 0) hB0 rfl
  have k3 : W10.cell? ⟨B0, 1, none⟩ = some (.int .i64 2) := cell_own (cs := [_, _]) (j := 1) hB0 rfl
  have k4 := hcell 43 _ rfl
  have k5 := hcell 41 _ rfl
  obtain ⟨bc, oc_, y, rfl, hy, hyc⟩ := (hcn.agree (hS.since 0 rfl)).row.get (i := 1) (by decide)
  obtain rfl : (2 : Int) = y := Option.some.inj hy
  have k6 := hyc.1
  refine regF ?_
  refine op_move rfl rfl ?_
  refine op_eql rfl rfl rfl ?_
  refine op_move rfl rfl ?_
  refine op_cases (d := 20) rfl (fun hc => ?_) (fun hc => absurd (of_decide_eq_false hc) (by exact fun h => h rfl))
  have hc := of_decide_eq_true hc
  refine op_wantedF (d := 20) rfl rfl ?_
  refine op_move rfl rfl ?_
  refine op_wantedF (d := 20) rfl rfl ?_
  refine op_eql rfl rfl rfl ?_
  refine op_pickT rfl rfl rfl ?_
  refine op_move rfl rfl ?_
  refine op_cases (d := 24) rfl (fun hc => ?_) (fun hc => absurd (of_decide_eq_false hc) (by exact fun h => h rfl))
  have hc := of_decide_eq_true hc
  refine op_wantedF (d := 24) rfl rfl ?_
  refine op_field (o' := 5) fa_56_3 rfl rfl rfl ?_
  refine op_wantedF (d := 24) rfl rfl ?_
  refine op_load Try.isAgg54 rfl (cell_own (hS.at_ 2 rfl) rfl) rfl ?_
  refine op_wantedF (d := 24) rfl rfl ?_
  refine op_len Try.underlying54 rfl rfl ?_
  refine op_wantedF (d := 24) rfl rfl ?_
  refine op_eql rfl rfl rfl ?_
  refine op_pickT rfl rfl rfl ?_
  refine op_move rfl rfl ?_
  refine op_cases (d := 30) rfl (fun hc => ?_) (fun hc => absurd (of_decide_eq_false hc) (by exact fun h => h rfl))
  have hc := of_decide_eq_true hc
  refine op_wantedF (d := 30) rfl rfl ?_
  refine op_field (o' := 5) fa_56_3 rfl rfl rfl ?_
  refine op_wantedF (d := 30) rfl rfl ?_
  refine op_load Try.isAgg54 rfl (cell_own (hS.at_ 2 rfl) rfl) rfl ?_
  refine op_wantedF (d := 30) rfl rfl ?_
  refine op_indexA (j := 0) Try.underlying54 Try.sizeOf69 rfl rfl rfl (by omega) (Nat.add_zero _) rfl ?_
  refine op_wantedF (d := 30) rfl rfl ?_
  refine op_field fa_69_3 rfl rfl rfl ?_
  refine op_wantedF (d := 30) rfl rfl ?_
  refine op_load Try.isAgg23 rfl (k1) rfl ?_
  refine op_wantedF (d := 30) rfl rfl ?_
  refine op_len Try.underlying23 rfl rfl ?_
  refine op_wantedF (d := 30) rfl rfl ?_
  refine op_eql rfl rfl rfl ?_
  refine op_pickT rfl rfl rfl ?_
  refine op_move rfl rfl ?_
  refine op_cases (d := 39) rfl (fun hc => ?_) (fun hc => absurd (of_decide_eq_false hc) (by exact fun h => h rfl))
  have hc := of_decide_eq_true hc
  refine op_wantedF (d := 39) rfl rfl ?_
  refine op_field (o' := 5) fa_56_3 rfl rfl rfl ?_
  refine op_wantedF (d := 39) rfl rfl ?_
  refine op_load Try.isAgg54 rfl (cell_own (hS.at_ 2 rfl) rfl) rfl ?_
  refine op_wantedF (d := 39) rfl rfl ?_
  refine op_indexA (j := 0) Try.underlying54 Try.sizeOf69 rfl rfl rfl (by omega) (Nat.add_zero _) rfl ?_
  refine op_wantedF (d := 39) rfl rfl ?_
  refine op_field fa_69_3 rfl rfl rfl ?_
  refine op_wantedF (d := 39) rfl rfl ?_
  refine op_load Try.isAgg23 rfl (k1) rfl ?_
  refine op_wantedF (d := 39) rfl rfl ?_
  refine op_indexA (j := 0) Try.underlying23 Try.sizeOf3 rfl rfl rfl (by omega) (Nat.add_zero _) rfl ?_
  refine op_wantedF (d := 39) rfl rfl ?_
  refine op_load Try.isAgg3 rfl (k2) rfl ?_
  refine op_wantedF (d := 39) rfl rfl ?_
  refine op_eql rfl rfl rfl ?_
  refine op_pickT rfl rfl rfl ?_
  refine op_move rfl rfl ?_
  refine op_cases (d := 49) rfl (fun hc => ?_) (fun hc => absurd (of_decide_eq_false hc) (by exact fun h => h rfl))
  have hc := of_decide_eq_true hc
  refine op_wantedF (d := 49) rfl rfl ?_
  refine op_field (o' := 5) fa_56_3 rfl rfl rfl ?_
  refine op_wantedF (d := 49) rfl rfl ?_
  refine op_load Try.isAgg54 rfl (cell_own (hS.at_ 2 rfl) rfl) rfl ?_
  refine op_wantedF (d := 49) rfl rfl ?_
  refine op_indexA (j := 0) Try.underlying54 Try.sizeOf69 rfl rfl rfl (by omega) (Nat.add_zero _) rfl ?_
  refine op_wantedF (d := 49) rfl rfl ?_
  refine op_field fa_69_3 rfl rfl rfl ?_
  refine op_wantedF (d := 49) rfl rfl ?_
  refine op_load Try.isAgg23 rfl (k1) rfl ?_
  refine op_wantedF (d := 49) rfl rfl ?_
  refine op_indexA (j := 1) Try.underlying23 Try.sizeOf3 rfl rfl rfl (by omega) rfl rfl ?_
  refine op_wantedF (d := 49) rfl rfl ?_
  refine op_load Try.isAgg3 rfl (k3) rfl ?_
  refine op_wantedF (d := 49) rfl rfl ?_
  refine op_eql rfl rfl rfl ?_
  refine op_pickT rfl rfl rfl ?_
  refine op_move rfl rfl ?_
  refine op_cases (d := 59) rfl (fun hc => ?_) (fun hc => absurd (of_decide_eq_false hc) (by exact fun h => h rfl))
  have hc := of_decide_eq_true hc
  refine op_wantedF (d := 59) rfl rfl ?_
  refine op_field (o' := 5) fa_56_3 rfl rfl rfl ?_
  refine op_wantedF (d := 59) rfl rfl ?_
  refine op_load Try.isAgg54 rfl (cell_own (hS.at_ 2 rfl) rfl) rfl ?_
  refine op_wantedF (d := 59) rfl rfl ?_
  refine op_indexA (j := 4) Try.underlying54 Try.sizeOf69 rfl rfl rfl (by omega) rfl rfl ?_
  refine op_wantedF (d := 59) rfl rfl ?_
  refine op_field fa_69_3 rfl rfl rfl ?_
  refine op_wantedF (d := 59) rfl rfl ?_
  refine op_load Try.isAgg23 rfl (k4) rfl ?_
  refine op_wantedF (d := 59) rfl rfl ?_
  refine op_len Try.underlying23 rfl rfl ?_
  refine op_wantedF (d := 59) rfl rfl ?_
  refine op_eql rfl rfl rfl ?_
  refine op_pickT rfl rfl rfl ?_
  refine op_move rfl rfl ?_
  refine op_cases (d := 68) rfl (fun hc => ?_) (fun hc => absurd (of_decide_eq_false hc) (by exact fun h => h rfl))
  have hc := of_decide_eq_true hc
  refine op_wantedF (d := 68) rfl rfl ?_
  refine op_field (o' := 5) fa_56_3 rfl rfl rfl ?_
  refine op_wantedF (d := 68) rfl rfl ?_
  refine op_load Try.isAgg54 rfl (cell_own (hS.at_ 2 rfl) rfl) rfl ?_
  refine op_wantedF (d := 68) rfl rfl ?_
  refine op_indexA (j := 4) Try.underlying54 Try.sizeOf69 rfl rfl rfl (by omega) rfl rfl ?_
  refine op_wantedF (d := 68) rfl rfl ?_
  refine op_field fa_69_1 rfl rfl rfl ?_
  refine op_wantedF (d := 68) rfl rfl ?_
  refine op_load Try.isAgg3 rfl (k5) rfl ?_
  refine op_wantedF (d := 68) rfl rfl ?_
  refine op_eql rfl rfl rfl ?_
  refine op_pickT rfl rfl rfl ?_
  refine op_move rfl rfl ?_
  refine op_cases (d := 76) rfl (fun hc => ?_) (fun hc => absurd (of_decide_eq_false hc) (by exact fun h => h rfl))
  have hc := of_decide_eq_true hc
  refine op_wantedF (d := 76) rfl rfl ?_
  refine op_field (o' := 1) fa_31_1 rfl rfl rfl ?_
  refine op_wantedF (d := 76) rfl rfl ?_
  refine op_load Try.isAgg23 rfl (cell_own (hS.at_ 0 rfl) rfl) rfl ?_
  refine op_wantedF (d := 76) rfl rfl ?_
  refine op_len Try.underlying23 rfl rfl ?_
  refine op_wantedF (d := 76) rfl rfl ?_
  refine op_eql rfl rfl rfl ?_
  refine op_pickT rfl rfl rfl ?_
  refine op_move rfl rfl ?_
  refine op_cases (d := 82) rfl (fun hc => ?_) (fun hc => absurd (of_decide_eq_false hc) (by exact fun h => h rfl))
  have hc := of_decide_eq_true hc
  refine op_wantedF (d := 82) rfl rfl ?_
  refine op_field (o' := 1) fa_31_1 rfl rfl rfl ?_
  refine op_wantedF (d := 82) rfl rfl ?_
  refine op_load Try.isAgg23 rfl (cell_own (hS.at_ 0 rfl) rfl) rfl ?_
  refine op_wantedF (d := 82) rfl rfl ?_
  refine op_indexA (j := 1) Try.underlying23 Try.sizeOf3 rfl rfl rfl (by omega) rfl rfl ?_
  refine op_wantedF (d := 82) rfl rfl ?_
  refine op_load Try.isAgg3 rfl (k6) rfl ?_
  refine op_wantedF (d := 82) rfl rfl ?_
  refine op_eql rfl rfl rfl ?_
  refine op_pickT rfl rfl rfl ?_
  refine op_assign rfl rfl ?_
  refine endF ?_
  refine XF.thenN ?_
  refine retF ?_
  refine XF.res (res1 Try.results6 rfl) ?_
  exact ⟨rbool rfl, hS.below⟩
end Go.Proofs.Ytpinbmjkbkogdaa
namespace Go.Proofs.Ytpinbmjkbkogdaa
open Go Go.RowKit
set_option linter.unusedVariables false
def Apart (ts : List UV) (i : Nat) : Prop := ∀ (a b : Nat) (u v : UV), a < i → b < a → ts[a]? = some u → ts[b]? = some v → u.bk ≠ v.bk
theorem vals_other {b : Nat → Nat} {j : Nat} : ∀ (pre : List Nat) (vs : List Int), (∀ y ∈ pre, b y ≠ j) → (pre.foldl (fun vs i => vs.set (b i) (i : Int)) vs)[j]? = vs[j]?
  | [], vs, h => rfl
  | y :: pre, vs, h => by
    rw [List.foldl_cons, vals_other pre _ (fun z hz => h z (List.mem_cons_of_mem _ hz)), List.getElem?_set_ne (h y List.mem_cons_self)]
theorem vals_at {b : Nat → Nat} {x : Nat} : ∀ (pre : List Nat) (vs : List Int), x ∈ pre → (∀ y ∈ pre, b y = b x → y = x) → b x < vs.length → (pre.foldl (fun vs i => vs.set (b i) (i : Int)) vs)[b x]? = some (x : Int)
  | y :: pre, vs, hx, hu, hl => by
    rw [List.foldl_cons]
    by_cases hm : x ∈ pre
    · exact vals_at pre _ hm (fun z hz => hu z (List.mem_cons_of_mem _ hz)) (by rw [List.length_set]; exact hl)
    · have hxy : x = y := by
        rcases List.mem_cons.1 hx with h | h
        · exact h
        · exact absurd h hm
      subst hxy
      rw [vals_other pre _ (fun z hz e => hm (by rw [← hu z (List.mem_cons_of_mem _ hz) e]; exact hz))]
      simp [hl]
theorem first_at {ts : List UV} {ol x kb : Nat} {u : UV} (hd : Apart ts ts.length) (hin : ∀ u ∈ ts, inQ u.bk ol = true) (hu : ts[x]? = some u) (hk : u.bk = (kb : Int)) : (firstL ts ol)[kb]? = some (x : Int) := by
  have hxl : x < ts.length := (List.getElem?_eq_some_iff.1 hu).1
  have hux : uat ts x = u := by unfold uat; rw [hu]; rfl
  have hkb : (uat ts x).bk.toNat = kb := by rw [hux, hk, Int.toNat_natCast]
  have hkl : kb < ol := by
    have := hin u (List.mem_of_getElem? hu)
    rw [hk] at this
    unfold inQ at this
    rw [Bool.and_eq_true, decide_eq_true_eq, decide_eq_true_eq] at this
    omega
  have h := vals_at (b := fun i => (uat ts i).bk.toNat) (x := x) (List.range ts.length).reverse (List.replicate ol (-1)) (by simpa using hxl) (fun y hy e => ?_) (by show (uat ts x).bk.toNat < _; rw [hkb, List.length_replicate]; exact hkl)
  · show (List.foldl _ _ _)[kb]? = _
    rw [← hkb]; exact h
  · have hyl : y < ts.length := by simpa using hy
    obtain ⟨v, hv⟩ : ∃ v, ts[y]? = some v := ⟨ts[y], by simp [hyl]⟩
    have hvy : uat ts y = v := by unfold uat; rw [hv]; rfl
    have e2 : v.bk.toNat = u.bk.toNat := by have e3 : (uat ts y).bk.toNat = (uat ts x).bk.toNat := e; rwa [hvy, hux] at e3
    obtain ⟨n1, e1, _⟩ := inQ_nat (hin v (List.mem_of_getElem? hv))
    have e4 : v.bk = u.bk := by
      rw [e1, hk, Int.toNat_natCast, Int.toNat_natCast] at e2
      rw [e1, hk, e2]
    rcases Nat.lt_trichotomy y x with h1 | h1 | h1
    · exact absurd e4.symm (hd x y u v hxl h1 hu hv)
    · exact h1
    · exact absurd e4 (hd y x v u hyl h1 hv hu)
theorem backs_fsts {ts : List UV} {tl ol : Nat} (htl : ts.length = tl) (hd : Apart ts tl) (hin : ∀ u ∈ ts, inQ u.bk ol = true) : ∀ {is l : List Int}, backs ts tl is = some l → fsts (firstL ts ol) ol l = some is
  | [], l, h => by simp only [backs, Option.some.injEq] at h; subst h; rfl
  | s :: r, l, h => by
    cases hs : inQ s tl with
    | false => rw [backs_no hs] at h; cases h
    | true =>
      obtain ⟨k, rfl, hk⟩ := inQ_nat hs
      obtain ⟨u, hu⟩ : ∃ u, ts[k]? = some u := ⟨ts[k]'(by omega), by simp [show k < ts.length by omega]⟩
      rw [backs_yes hk hu] at h
      cases hb : backs ts tl r with
      | none => rw [hb] at h; cases h
      | some l2 =>
        rw [hb] at h
        have e := Option.some.inj h
        subst e
        obtain ⟨kb, ekb, hkb⟩ := inQ_nat (hin u (List.mem_of_getElem? hu))
        rw [ekb, fsts_at hkb (first_at (by rw [htl]; exact hd) hin hu ekb), if_neg (by omega), backs_fsts htl hd hin hb]
        rfl
theorem conf_cases (g : GV) (node : Int) (is : List Int) : (∃ c, c ≠ 0 ∧ confE g node is = (c, [])) ∨ ∃ l, confE g node is = (0, node :: l) ∧ checkE g = 0 ∧ inQ node g.ol = true ∧ backs g.ts g.tl is = some l ∧ l.length + 1 ≤ 4096 := by
  by_cases h1 : checkE g = 0
  · cases h2 : inQ node g.ol with
    | false => exact .inl ⟨5, by decide, by unfold confE; rw [if_neg (by rw [h1]; simp), if_pos h2]⟩
    | true =>
      cases h3 : backs g.ts g.tl is with
      | none => exact .inl ⟨5, by decide, by unfold confE; rw [if_neg (by rw [h1]; simp), if_neg (by rw [h2]; simp), h3]⟩
      | some l =>
        by_cases h4 : 4096 < l.length + 1
        · exact .inl ⟨2, by decide, by unfold confE; rw [if_neg (by rw [h1]; simp), if_neg (by rw [h2]; simp), h3]; exact if_pos h4⟩
        · exact .inr ⟨l, by unfold confE; rw [if_neg (by rw [h1]; simp), if_neg (by rw [h2]; simp), h3]; exact if_neg h4, h1, rfl, rfl, by omega⟩
  · exact .inl ⟨_, h1, by unfold confE; rw [if_pos h1]⟩
theorem there_back {g : GV} {node : Int} {is l : List Int} (htl : g.ts.length = g.tl) (hd : Apart g.ts g.tl) (hc : checkE g = 0) (hn : inQ node g.ol = true) (hb : backs g.ts g.tl is = some l) (hl : l.length + 1 ≤ 4096) : sitesE g 0 (node :: l) = (node, is, 0) := by
  unfold sitesE
  rw [if_neg (by rw [hc]; simp)]
  dsimp only
  rw [if_neg (by rw [hn]; simp; omega), backs_fsts htl hd (backs_in htl hc) hb]
theorem confRet_no {R : Int × List Int} {w : World} {e : Ending} {w' : World} {c : Int} (h : ConfRet R w e w') (hR : R = (c, [])) (hc : c ≠ 0) : e = .returned (.tuple #[.agg #[.int .i64 0, .slice none 0 0], .int .i64 c]) ∧ Below w.heap.size w w' := by
  subst hR
  obtain ⟨hb, ⟨_, h1⟩ | ⟨h1, _⟩⟩ := h
  · exact ⟨h1, hb⟩
  · exact absurd h1 hc
theorem sitesRet_ok {R : Int × List Int × Int} {w : World} {e : Ending} {w' : World} {n : Int} {l : List Int} (h : SitesRet R w e w') (hR : R = (n, l, 0)) : ∃ a c, e = .returned (.tuple #[.int .i64 n, .slice a l.length c, .int .i64 0]) ∧ RowN w.heap.size w' a c l ∧ Below w.heap.size w w' := by
  subst hR
  obtain ⟨hb, ⟨h1, _⟩ | ⟨_, a, c, h2, h3⟩⟩ := h
  · exact absurd rfl h1
  · exact ⟨a, c, h2, h3, hb⟩
theorem sameConf_nil (w : World) : Calls Try.prog 11 #[.agg #[.int .i64 0, .slice none 0 0], .agg #[.int .i64 0, .slice none 0 0]] w fun e w' => e = .returned (.bool true) ∧ Below w.heap.size w w' := by
  have h := sameConf_is 0 0 none none 0 0 0 0 [] [] w (.inl rfl) rfl (.inl rfl) rfl (by decide)
  rw [show (decide ((0 : Int) = 0) && decide (([] : List Int) = [])) = true from rfl] at h
  exact h
theorem ints_same {a b : Option Addr} {l c l2 c2 : Nat} {ws : List Int} {w : World} (h1 : RowI w a ws) (hl : ws.length = l) (h2 : RowI w b ws) (hl2 : ws.length = l2) (hm : l ≤ 9223372036854775807) : Calls Try.prog 12 #[.slice a l c, .slice b l2 c2] w fun e w' => e = .returned (.bool true) ∧ Below w.heap.size w w' := by
  have h := ints_is a b l c l2 c2 ws ws w h1 hl h2 hl2 hm
  rw [show decide (ws = ws) = true from decide_eq_true rfl] at h
  exact h
end Go.Proofs.Ytpinbmjkbkogdaa
namespace Go.Proofs.Ytpinbmjkbkogdaa
open Go Go.RowKit
set_option linter.unusedVariables false
theorem goes_11 : goesIn Try.prog 11 = true := by kernel_rfl
theorem goes_5 : goesIn Try.prog 5 = true := by kernel_rfl
theorem goes_6 : goesIn Try.prog 6 = true := by kernel_rfl
theorem goes_9 : goesIn Try.prog 9 = true := by kernel_rfl
set_option maxRecDepth 100000 in
set_option maxHeartbeats 4000000 in
theorem encodeBack_c (va : Option Addr) (vl : Nat) (vc : Nat) (pa : Option Addr) (pl : Nat) (pc : Nat) (ea : Option Addr) (el : Nat) (ec : Nat) (es : List Int) (xa : Option Addr) (xl : Nat) (xc : Nat) (xs : List Int) (mn : Int) (oa : Option Addr) (ol : Nat) (oc : Nat) (os : List Int) (sa : Option Addr) (sl : Nat) (sc : Nat) (ss : List TV) (ta : Option Addr) (tl : Nat) (tc : Nat) (ts : List UV) (na : Option Addr) (nl : Nat) (nc : Nat) (ns : List NV) (ka : Option Addr) (kl : Nat) (kc : Nat) (ks : List KV) (node : Int) (la : Option Addr) (ll lc : Nat) (is : List Int) (w : World) (he : RowI w ea es) (hel : es.length = el) (hx : RowI w xa xs) (hxl : xs.length = xl) (ho : RowI w oa os) (hol : os.length = ol) (hs : RowL TV.sev 7 w sa ss) (hsl : ss.length = sl) (ht : RowL UV.four 4 w ta ts) (htl : ts.length = tl) (hn : RowL NV.two 2 w na ns) (hnl : ns.length = nl) (hk : RowL KV.two 2 w ka ks) (hkl : ks.length = kl) (hrla : RowI w la is) (hll : is.length = ll) (hlc : ll ≤ lc) (hlm : ll ≤ 9223372036854775807) :
    Calls Try.prog 4 #[.agg #[.slice va vl vc, .slice pa pl pc, .slice ea el ec, .slice xa xl xc, .int .i64 mn, .slice oa ol oc, .slice sa sl sc, .slice ta tl tc, .slice na nl nc, .slice ka kl kc], .int .i64 node, .slice la ll lc] w (fun e w' => e = .returned (.bool (true)) ∧ Below w.heap.size w w') := by
  refine enterF (args := [.agg #[.slice va vl vc, .slice pa pl pc, .slice ea el ec, .slice xa xl xc, .int .i64 mn, .slice oa ol oc, .slice sa sl sc, .slice ta tl tc, .slice na nl nc, .slice ka kl kc], .int .i64 node, .slice la ll lc]) Try.func4 rfl Try.ntmps4 rfl ?_
  have hS := St.start w
  refine seqF ?_
  refine regF ?_
  refine op_box (cs := [_, _, _, _, _, _, _, _, _, _]) hS rfl rfl rfl ?_
  clear hS; intro B1 W1 hS
  refine op_assign rfl rfl ?_
  refine endF ?_
  refine XF.thenN ?_
  refine seqF ?_
  refine seqF ?_
  refine regF ?_
  refine op_loadA (vs := [_, _, _, _, _, _, _, _, _, _]) Try.isAgg29 Try.sizeOf29 rfl (CellsAt.own (j := 0) (m := 10) (hS.at_ 0 rfl) rfl) rfl ?_
  refine op_call (vs := [_]) hS goes_5 rfl (small_is ⟨_, vl, vc, _, pl, pc, _, el, ec, es, _, xl, xc, xs, mn, _, ol, oc, os, _, sl, sc, ss, _, tl, tc, ts, _, nl, nc, ns, _, kl, kc, ks⟩ _) rfl ?_
  rintro e W2 ⟨rfl, hb⟩
  refine ⟨_, rfl, hb, fun hS' => ?_⟩
  clear hS; have hS := hS'; clear hS' hb
  refine op_not rfl rfl ?_
  refine op_move rfl rfl ?_
  refine op_cases (d := 17) rfl (fun hc => ?_) (fun hc => ?_)
  · have hg17 := hc; clear hc
    refine op_notF (d := 17) rfl rfl rfl rfl ?_
    refine op_notF (d := 17) rfl rfl rfl rfl ?_
    refine op_notF (d := 17) rfl rfl rfl rfl ?_
    refine op_pickT rfl rfl rfl ?_
    refine endF ?_
    refine XF.thenN ?_
    refine condT rfl ?_
    refine seqF ?_
    refine regF ?_
    refine op_call (vs := []) hS goes_6 rfl (alive_is _) rfl ?_
    rintro e W3 ⟨rfl, hb⟩
    refine ⟨_, rfl, hb, fun hS' => ?_⟩
    clear hS; have hS := hS'; clear hS' hb
    refine op_assign rfl rfl ?_
    refine endF ?_
    refine XF.thenN ?_
    refine retF ?_
    refine XF.thenR ?_
    refine XF.res (res1 Try.results4 rfl) ?_
    exact ⟨rfl, hS.below⟩
  · have hg17 := hc; clear hc
    have hsm : smallB ⟨va, vl, vc, pa, pl, pc, ea, el, ec, es, xa, xl, xc, xs, mn, oa, ol, oc, os, sa, sl, sc, ss, ta, tl, tc, ts, na, nl, nc, ns, ka, kl, kc, ks⟩ = true := by simpa using hg17
    have hfw := small_few hsm
    have b1 : vl ≤ 5000 := hfw.v
    have b2 : pl ≤ 5000 := hfw.p
    have b3 : el ≤ 5000 := hfw.e
    have b4 : xl ≤ 5000 := hfw.x
    have b5 : ol ≤ 5000 := hfw.o
    have b6 : sl ≤ 5000 := hfw.s
    have b7 : tl ≤ 5000 := hfw.t
    have b8 : nl ≤ 5000 := hfw.n
    have b9 : kl ≤ 5000 := hfw.k
    refine op_wantedF (d := 17) rfl rfl ?_
    refine op_move rfl rfl ?_
    refine op_wantedF (d := 17) rfl rfl ?_
    refine op_len Try.underlying23 rfl rfl ?_
    refine op_wantedF (d := 17) rfl rfl ?_
    refine op_gtr rfl rfl rfl ?_
    refine op_pickF rfl rfl rfl ?_
    refine endF ?_
    refine XF.thenN ?_
    refine condF rfl (fun hc => ?_) (fun hc => ?_)
    · have hc21 := of_decide_eq_true hc; clear hc
      refine seqF ?_
      refine regF ?_
      refine op_call (vs := []) hS goes_6 rfl (alive_is _) rfl ?_
      rintro e W4 ⟨rfl, hb⟩
      refine ⟨_, rfl, hb, fun hS' => ?_⟩
      clear hS; have hS := hS'; clear hS' hb
      refine op_assign rfl rfl ?_
      refine endF ?_
      refine XF.thenN ?_
      refine retF ?_
      refine XF.thenR ?_
      refine XF.res (res1 Try.results4 rfl) ?_
      exact ⟨rfl, hS.below⟩
    · have hc21 := of_decide_eq_false hc; clear hc
      refine skipF ?_
      refine XF.thenN ?_
      refine seqF ?_
      refine seqF ?_
      refine regF ?_
      refine op_assign rfl rfl ?_
      refine endF ?_
      refine XF.thenN ?_
      refine blockF ?_
      refine loopF (fun m l W => ∃ i : Nat, i ≤ tl ∧ m = tl - i ∧ l = [(1, .int .i64 node), (2, .slice la ll lc), (3, .pointer (some ⟨B1, 0, none⟩)), (7, .int .i64 (i : Int))] ∧ Apart ts i ∧ St w [(B1, [.slice va vl vc, .slice pa pl pc, .slice ea el ec, .slice xa xl xc, .int .i64 mn, .slice oa ol oc, .slice sa sl sc, .slice ta tl tc, .slice na nl nc, .slice ka kl kc], 29)] [] [] W) (tl - 0) ([(1, _), (2, _), (3, _), (7, _)]) ⟨rfl, rfl, rfl, rfl, trivial⟩ (⟨0, Nat.zero_le _, rfl, rfl, (fun a b u v h => by omega), hS.clear⟩) ?_
      clear hS
      rintro m l W ⟨i, hi, rfl, rfl, hap, hS⟩
      refine seqF ?_
      refine seqF ?_
      refine regF ?_
      refine op_move rfl rfl ?_
      refine op_field (o' := 7) fa_29_7 rfl rfl rfl ?_
      refine op_load Try.isAgg25 rfl (cell_own (hS.at_ 0 rfl) rfl) rfl ?_
      refine op_len Try.underlying25 rfl rfl ?_
      refine op_lss rfl rfl rfl ?_
      refine endF ?_
      refine XF.thenN ?_
      refine condF rfl (fun hc => ?_) (fun hc => ?_)
      · have hc27 := of_decide_eq_true hc; clear hc
        have hk1 : i < tl := by omega
        obtain ⟨tb, to_, u, rfl, hu, huc⟩ := ht.get (i := i) (by omega)
        refine skipF ?_
        refine XF.thenN ?_
        refine seqF ?_
        refine blockF ?_
        refine seqF ?_
        refine regF ?_
        refine op_assign rfl rfl ?_
        refine endF ?_
        refine XF.thenN ?_
        refine blockF ?_
        refine loopF (fun m l W => ∃ k : Nat, k ≤ i ∧ m = i - k ∧ l = [(1, .int .i64 node), (2, .slice la ll lc), (3, .pointer (some ⟨B1, 0, none⟩)), (7, .int .i64 (i : Int)), (8, .int .i64 (k : Int))] ∧ (∀ (b : Nat) (v : UV), b < k → ts[b]? = some v → u.bk ≠ v.bk) ∧ St w [(B1, [.slice va vl vc, .slice pa pl pc, .slice ea el ec, .slice xa xl xc, .int .i64 mn, .slice oa ol oc, .slice sa sl sc, .slice (some ⟨tb, to_, none⟩) tl tc, .slice na nl nc, .slice ka kl kc], 29)] [] [] W) (i - 0) ([(1, _), (2, _), (3, _), (7, _), (8, _)]) ⟨rfl, rfl, rfl, rfl, rfl, trivial⟩ (⟨0, Nat.zero_le _, rfl, rfl, (fun b v h => by omega), hS.clear⟩) ?_
        clear hS
        rintro m l W ⟨k, hk2, rfl, rfl, hne, hS⟩
        have k1 := (CellsAt.agree hS.agree (Nat.zero_le _) huc).2.2.2.1
        refine seqF ?_
        refine seqF ?_
        refine regF ?_
        refine op_move rfl rfl ?_
        refine op_move rfl rfl ?_
        refine op_lss rfl rfl rfl ?_
        refine endF ?_
        refine XF.thenN ?_
        refine condF rfl (fun hc => ?_) (fun hc => ?_)
        · have hc32 := of_decide_eq_true hc; clear hc
          have hki : k < i := by omega
          obtain ⟨tb2, to2, v, e2, hv, hvc⟩ := ht.get (i := k) (by omega)
          cases e2
          have k2 := (CellsAt.agree hS.agree (Nat.zero_le _) hvc).2.2.2.1
          refine skipF ?_
          refine XF.thenN ?_
          refine seqF ?_
          refine blockF ?_
          refine seqF ?_
          refine regB (m := 13) followsM hS (by kernel_rfl) (by kernel_rfl) rfl ?_
          refine bl_cons 1 rfl (isV _) (stab_isV _) (rgV (li := [(3, _)]) rfl (w_free rfl) ⟨g_fr (by kernel_rfl) rfl, trivial⟩ (fun w hw => rn_field (o' := 7) fa_29_7 rfl rfl) (at_top rfl)) ?_
          refine bl_cons 2 rfl (isV _) (stab_isV _) (rgV (li := [(35, _)]) rfl (w_free rfl) ⟨g_dep 0 (by kernel_rfl) (at_dep rfl rfl rfl), trivial⟩ (fun w hw => rn_load Try.isAgg25 rfl ((below_agree hw 0).cell (Nat.zero_le _) (cell_own (hS.at_ 0 rfl) rfl))) (at_top rfl)) ?_
          refine bl_cons 3 rfl (isV _) (stab_isV _) (rgV (li := [(7, _)]) rfl (w_free rfl) ⟨g_fr (by kernel_rfl) rfl, trivial⟩ (fun w hw => rn_move rfl) (at_top rfl)) ?_
          refine bl_cons 4 rfl (isV _) (stab_isV _) (rgV (li := [(36, _), (37, _)]) rfl (w_free rfl) ⟨g_dep 1 (by kernel_rfl) (at_dep rfl rfl rfl), g_dep 2 (by kernel_rfl) (at_dep rfl rfl rfl), trivial⟩ (fun w hw => rn_indexA (j := i) Try.underlying25 Try.sizeOf47 rfl rfl (by omega) (by omega) rfl) (at_top rfl)) ?_
          refine bl_cons 5 rfl (isV _) (stab_isV _) (rgV (li := [(38, _)]) rfl (w_free rfl) ⟨g_dep 3 (by kernel_rfl) (at_dep rfl rfl rfl), trivial⟩ (fun w hw => rn_field fa_47_3 rfl rfl) (at_top rfl)) ?_
          refine bl_cons 6 rfl (isV _) (stab_isV _) (rgV (li := [(39, _)]) rfl (w_free rfl) ⟨g_dep 4 (by kernel_rfl) (at_dep rfl rfl rfl), trivial⟩ (fun w hw => rn_load Try.isAgg3 rfl ((below_agree hw 0).cell (Nat.zero_le _) (k1))) (at_top rfl)) ?_
          refine bl_cons 7 rfl (isV _) (stab_isV _) (rgV (li := [(3, _)]) rfl (w_free rfl) ⟨g_fr (by kernel_rfl) rfl, trivial⟩ (fun w hw => rn_field (o' := 7) fa_29_7 rfl rfl) (at_top rfl)) ?_
          refine bl_cons 8 rfl (isV _) (stab_isV _) (rgV (li := [(41, _)]) rfl (w_free rfl) ⟨g_dep 6 (by kernel_rfl) (at_dep rfl rfl rfl), trivial⟩ (fun w hw => rn_load Try.isAgg25 rfl ((below_agree hw 0).cell (Nat.zero_le _) (cell_own (hS.at_ 0 rfl) rfl))) (at_top rfl)) ?_
          refine bl_cons 9 rfl (isV _) (stab_isV _) (rgV (li := [(8, _)]) rfl (w_free rfl) ⟨g_fr (by kernel_rfl) rfl, trivial⟩ (fun w hw => rn_move rfl) (at_top rfl)) ?_
          refine bl_cons 10 rfl (isV _) (stab_isV _) (rgV (li := [(42, _), (43, _)]) rfl (w_free rfl) ⟨g_dep 7 (by kernel_rfl) (at_dep rfl rfl rfl), g_dep 8 (by kernel_rfl) (at_dep rfl rfl rfl), trivial⟩ (fun w hw => rn_indexA (j := k) Try.underlying25 Try.sizeOf47 rfl rfl (by omega) (by omega) rfl) (at_top rfl)) ?_
          refine bl_cons 11 rfl (isV _) (stab_isV _) (rgV (li := [(44, _)]) rfl (w_free rfl) ⟨g_dep 9 (by kernel_rfl) (at_dep rfl rfl rfl), trivial⟩ (fun w hw => rn_field fa_47_3 rfl rfl) (at_top rfl)) ?_
          refine bl_cons 12 rfl (isV _) (stab_isV _) (rgV (li := [(45, _)]) rfl (w_free rfl) ⟨g_dep 10 (by kernel_rfl) (at_dep rfl rfl rfl), trivial⟩ (fun w hw => rn_load Try.isAgg3 rfl ((below_agree hw 0).cell (Nat.zero_le _) (k2))) (at_top rfl)) ?_
          refine bl_cons 13 rfl (isV _) (stab_isV _) (rgV (li := [(40, _), (46, _)]) rfl (w_free rfl) ⟨g_dep 5 (by kernel_rfl) (at_dep rfl rfl rfl), g_dep 11 (by kernel_rfl) (at_dep rfl rfl rfl), trivial⟩ (fun w hw => rn_eql rfl rfl) (at_top rfl)) ?_
          refine bl_nil ?_
          intro W5 hbR hS'
          clear hS; have hS := hS'; clear hS'
          refine fin_v ?_
          refine fin_v ?_
          refine fin_v ?_
          refine fin_v ?_
          refine fin_v ?_
          refine fin_v ?_
          refine fin_v ?_
          refine fin_v ?_
          refine fin_v ?_
          refine fin_v ?_
          refine fin_v ?_
          refine fin_v ?_
          refine fin_v ?_
          refine fin_nil ?_
          refine XF.thenN ?_
          refine condF rfl (fun hc => ?_) (fun hc => ?_)
          · have hc47 := hc; clear hc
            refine seqF ?_
            refine regF ?_
            refine op_call (vs := []) hS goes_6 rfl (alive_is _) rfl ?_
            rintro e W6 ⟨rfl, hb⟩
            refine ⟨_, rfl, hb, fun hS' => ?_⟩
            clear hS; have hS := hS'; clear hS' hb
            refine op_assign rfl rfl ?_
            refine endF ?_
            refine XF.thenN ?_
            refine retF ?_
            refine XF.blkR ?_
            refine XF.thenR ?_
            refine XF.thenR ?_
            refine XF.blkR ?_
            refine XF.blkR ?_
            refine XF.thenR ?_
            refine XF.thenR ?_
            refine XF.blkR ?_
            refine XF.thenR ?_
            refine XF.res (res1 Try.results4 rfl) ?_
            exact ⟨rfl, hS.below⟩
          · have hc47 := hc; clear hc
            have huv : u.bk ≠ v.bk := of_decide_eq_false hc47
            refine skipF ?_
            refine XF.blkN ?_
            refine XF.thenN ?_
            refine regF ?_
            refine op_move rfl rfl ?_
            refine op_add rfl rfl (IntWalk.i64_in _ (by omega)) rfl ?_
            refine op_assign rfl rfl ?_
            refine endF ?_
            exact XF.round (i - (k + 1)) [(1, _), (2, _), (3, _), (7, _), (8, _)] (by omega) ⟨rfl, rfl, rfl, rfl, rfl, trivial⟩ ⟨k + 1, by omega, rfl, rfl, (fun b x hb hx => by
              rcases Nat.lt_or_ge b k with h | h
              · exact hne b x h hx
              · obtain rfl : b = k := by omega
                rw [hv] at hx; cases hx; exact huv), hS.clear⟩
        · have hc32 := of_decide_eq_false hc; clear hc
          have hki : k = i := by omega
          subst hki
          refine exitF ?_
          refine XF.thenX ?_
          refine XF.thenX ?_
          refine XF.blkX ?_
          refine XF.blkN ?_
          refine XF.thenN ?_
          refine regF ?_
          refine op_move rfl rfl ?_
          refine op_add rfl rfl (IntWalk.i64_in _ (by omega)) rfl ?_
          refine op_assign rfl rfl ?_
          refine endF ?_
          exact XF.round (tl - (k + 1)) [(1, _), (2, _), (3, _), (7, _)] (by omega) ⟨rfl, rfl, rfl, rfl, trivial⟩ ⟨k + 1, by omega, rfl, rfl, (fun a b x y ha hb hx hy => by
            rcases Nat.lt_or_ge a k with h | h
            · exact hap a b x y h hb hx hy
            · obtain rfl : a = k := by omega
              rw [hu] at hx; cases hx; exact hne b y hb hy), hS.clear⟩
      · have hc27 := of_decide_eq_false hc; clear hc
        have hit : i = tl := by omega
        have hap : Apart ts tl := by rw [← hit]; exact hap
        have hgi : GIn w ⟨va, vl, vc, pa, pl, pc, ea, el, ec, es, xa, xl, xc, xs, mn, oa, ol, oc, os, sa, sl, sc, ss, ta, tl, tc, ts, na, nl, nc, ns, ka, kl, kc, ks⟩ := ⟨he, hel, hx, hxl, ho, hol, hs, hsl, ht, htl, hn, hnl, hk, hkl⟩
        refine exitF ?_
        refine XF.thenX ?_
        refine XF.thenX ?_
        refine XF.blkX ?_
        refine XF.thenN ?_
        refine seqF ?_
        rcases conf_cases ⟨va, vl, vc, pa, pl, pc, ea, el, ec, es, xa, xl, xc, xs, mn, oa, ol, oc, os, sa, sl, sc, ss, ta, tl, tc, ts, na, nl, nc, ns, ka, kl, kc, ks⟩ node is with ⟨c9, hc9, hcf⟩ | ⟨l9, hcf, hce, hnd, hbk, hl9⟩
        · skip
          refine regF ?_
          refine op_loadA (vs := [_, _, _, _, _, _, _, _, _, _]) Try.isAgg29 Try.sizeOf29 rfl (CellsAt.own (j := 0) (m := 10) (hS.at_ 0 rfl) rfl) rfl ?_
          refine op_move rfl rfl ?_
          refine op_move rfl rfl ?_
          refine op_call (vs := [_, _, _]) hS goes_7 rfl ((conf_is ⟨va, vl, vc, pa, pl, pc, ea, el, ec, es, xa, xl, xc, xs, mn, oa, ol, oc, os, sa, sl, sc, ss, ta, tl, tc, ts, na, nl, nc, ns, ka, kl, kc, ks⟩ node la ll lc is _ (hgi.below hS.below) hfw (hrla.below hS.below) hll (by omega)).mono fun e w2 h => confRet_no h hcf hc9) rfl ?_
          rintro e W7 ⟨rfl, hb⟩
          refine ⟨_, rfl, hb, fun hS' => ?_⟩
          clear hS; have hS := hS'; clear hS' hb
          refine op_move rfl rfl ?_
          refine op_extract rfl rfl rfl ?_
          refine op_extract rfl rfl rfl ?_
          refine op_alloc (cs := [_, _]) hS Try.zeroValue31 rfl rfl ?_
          clear hS; intro B8 W8 hS
          refine op_storeA (i := 0) (vs := [_, _]) (cs' := [_, _]) (O' := [_, _]) hS Try.sizeOf31 rfl rfl rfl rfl rfl rfl rfl ?_
          clear hS; intro W9 hS
          refine op_assign rfl rfl ?_
          refine endF ?_
          refine XF.thenN ?_
          refine seqF ?_
          refine seqF ?_
          refine regF ?_
          refine op_move rfl rfl ?_
          refine op_neq rfl rfl rfl ?_
          refine endF ?_
          refine XF.thenN ?_
          refine condF rfl (fun hc => ?_) (fun hc => absurd (of_decide_eq_false hc) (by exact fun h => h hc9))
          have hc := of_decide_eq_true hc
          refine seqF ?_
          refine regF ?_
          refine op_loadA (vs := [_, _]) Try.isAgg31 Try.sizeOf31 rfl (CellsAt.own (j := 0) (m := 2) (hS.at_ 0 rfl) rfl) rfl ?_
          refine op_build (us := []) rfl (bld_31) rfl ?_
          refine op_call (vs := [_, _]) hS goes_11 rfl (sameConf_nil _) rfl ?_
          rintro e W10 ⟨rfl, hb⟩
          refine ⟨_, rfl, hb, fun hS' => ?_⟩
          clear hS; have hS := hS'; clear hS' hb
          refine op_move rfl rfl ?_
          refine op_wantedF (d := 61) rfl rfl ?_
          refine op_call (vs := []) hS goes_6 rfl (alive_is _) rfl ?_
          rintro e W11 ⟨rfl, hb⟩
          refine ⟨_, rfl, hb, fun hS' => ?_⟩
          clear hS; have hS := hS'; clear hS' hb
          refine op_pickT rfl rfl rfl ?_
          refine op_assign rfl rfl ?_
          refine endF ?_
          refine XF.thenN ?_
          refine retF ?_
          refine XF.thenR ?_
          refine XF.res (res1 Try.results4 rfl) ?_
          exact ⟨rfl, hS.below⟩
        · skip
          refine regF ?_
          refine op_loadA (vs := [_, _, _, _, _, _, _, _, _, _]) Try.isAgg29 Try.sizeOf29 rfl (CellsAt.own (j := 0) (m := 10) (hS.at_ 0 rfl) rfl) rfl ?_
          refine op_move rfl rfl ?_
          refine op_move rfl rfl ?_
          refine op_call (vs := [_, _, _]) hS goes_7 rfl ((conf_is ⟨va, vl, vc, pa, pl, pc, ea, el, ec, es, xa, xl, xc, xs, mn, oa, ol, oc, os, sa, sl, sc, ss, ta, tl, tc, ts, na, nl, nc, ns, ka, kl, kc, ks⟩ node la ll lc is _ (hgi.below hS.below) hfw (hrla.below hS.below) hll (by omega)).mono fun e w2 h => confRet_ok h hcf) rfl ?_
          rintro e W12 ⟨ac, cc, rfl, hcn, hb⟩
          refine ⟨_, rfl, hb, fun hS' => ?_⟩
          clear hS; have hS := hS'; clear hS' hb
          refine op_move rfl rfl ?_
          refine op_extract rfl rfl rfl ?_
          refine op_extract rfl rfl rfl ?_
          refine op_alloc (cs := [_, _]) hS Try.zeroValue31 rfl rfl ?_
          clear hS; intro B13 W13 hS
          refine op_storeA (i := 0) (vs := [_, _]) (cs' := [_, _]) (O' := [_, _]) hS Try.sizeOf31 rfl rfl rfl rfl rfl rfl rfl ?_
          clear hS; intro W14 hS
          refine op_assign rfl rfl ?_
          refine endF ?_
          refine XF.thenN ?_
          refine seqF ?_
          refine seqF ?_
          refine regF ?_
          refine op_move rfl rfl ?_
          refine op_neq rfl rfl rfl ?_
          refine endF ?_
          refine XF.thenN ?_
          refine condF rfl (fun hc => absurd (of_decide_eq_true hc) (by exact fun h => h rfl)) (fun hc => ?_)
          have hc := of_decide_eq_false hc
          refine skipF ?_
          refine XF.thenN ?_
          refine seqF ?_
          refine regF ?_
          refine op_loadA (vs := [_, _, _, _, _, _, _, _, _, _]) Try.isAgg29 Try.sizeOf29 rfl (CellsAt.own (j := 0) (m := 10) (hS.at_ 1 rfl) rfl) rfl ?_
          refine op_loadA (vs := [_, _]) Try.isAgg31 Try.sizeOf31 rfl (CellsAt.own (j := 0) (m := 2) (hS.at_ 0 rfl) rfl) rfl ?_
          refine op_call (vs := [_, _]) hS goes_9 rfl ((sites_is ⟨va, vl, vc, pa, pl, pc, ea, el, ec, es, xa, xl, xc, xs, mn, oa, ol, oc, os, sa, sl, sc, ss, ta, tl, tc, ts, na, nl, nc, ns, ka, kl, kc, ks⟩ 0 ac _ cc (node :: l9) _ (hgi.below hS.below) hfw (hcn.agree (hS.since 0 rfl)).row rfl hcn.cap).mono fun e w2 h => sitesRet_ok h (there_back htl hap hce hnd hbk hl9)) rfl ?_
          rintro e W15 ⟨a2, c2, rfl, hsn, hb⟩
          refine ⟨_, rfl, hb, fun hS' => ?_⟩
          clear hS; have hS := hS'; clear hS' hb
          refine op_move rfl rfl ?_
          refine op_extract rfl rfl rfl ?_
          refine op_extract rfl rfl rfl ?_
          refine op_extract rfl rfl rfl ?_
          refine op_assign rfl rfl ?_
          refine op_assign rfl rfl ?_
          refine op_assign rfl rfl ?_
          refine endF ?_
          refine XF.thenN ?_
          refine seqF ?_
          refine regF ?_
          refine op_move rfl rfl ?_
          refine op_eql rfl rfl rfl ?_
          refine op_move rfl rfl ?_
          refine op_cases (d := 73) rfl (fun hc => ?_) (fun hc => absurd (of_decide_eq_false hc) (by exact fun h => h rfl))
          have hc := of_decide_eq_true hc
          refine op_wantedF (d := 73) rfl rfl ?_
          refine op_move rfl rfl ?_
          refine op_wantedF (d := 73) rfl rfl ?_
          refine op_move rfl rfl ?_
          refine op_wantedF (d := 73) rfl rfl ?_
          refine op_eql rfl rfl rfl ?_
          refine op_pickT rfl rfl rfl ?_
          refine op_move rfl rfl ?_
          refine op_cases (d := 78) rfl (fun hc => ?_) (fun hc => absurd (of_decide_eq_false hc) (by exact fun h => h rfl))
          have hc := of_decide_eq_true hc
          refine op_wantedF (d := 78) rfl rfl ?_
          refine op_move rfl rfl ?_
          refine op_wantedF (d := 78) rfl rfl ?_
          refine op_move rfl rfl ?_
          refine op_wantedF (d := 78) rfl rfl ?_
          refine op_call (vs := [_, _]) hS goes_12 rfl (ints_same (hsn.agree (hS.since 0 rfl)).row rfl (hrla.below hS.below) hll (by omega)) rfl ?_
          rintro e W16 ⟨rfl, hb⟩
          refine ⟨_, rfl, hb, fun hS' => ?_⟩
          clear hS; have hS := hS'; clear hS' hb
          refine op_pickT rfl rfl rfl ?_
          refine op_move rfl rfl ?_
          refine op_wantedF (d := 83) rfl rfl ?_
          refine op_call (vs := []) hS goes_6 rfl (alive_is _) rfl ?_
          rintro e W17 ⟨rfl, hb⟩
          refine ⟨_, rfl, hb, fun hS' => ?_⟩
          clear hS; have hS := hS'; clear hS' hb
          refine op_pickT rfl rfl rfl ?_
          refine op_assign rfl rfl ?_
          refine endF ?_
          refine XF.thenN ?_
          refine retF ?_
          refine XF.res (res1 Try.results4 rfl) ?_
          exact ⟨rfl, hS.below⟩

theorem encodeBack_walk (g : GV) (node : Int) (la : Option Addr) (ll lc : Nat) (is : List Int) (w : World) (hg : GIn w g) (hw : (Lit.int .i64 node).wf = true) (hl : RowI w la is ∧ is.length = ll ∧ ll ≤ lc ∧ ll ≤ 9223372036854775807) :
    Calls Try.prog 4 #[g.val, .int .i64 node, .slice la ll lc] w (fun e w' => e = .returned (.bool true) ∧ Below w.heap.size w w') :=
  encodeBack_c g.va g.vl g.vc g.pa g.pl g.pc g.ea g.el g.ec g.es g.xa g.xl g.xc g.xs g.mn g.oa g.ol g.oc g.os g.sa g.sl g.sc g.ss g.ta g.tl g.tc g.ts g.na g.nl g.nc g.ns g.ka g.kl g.kc g.ks node la ll lc is w hg.e hg.el hg.x hg.xl hg.o hg.ol hg.s hg.sl hg.t hg.tl hg.n hg.nl hg.k hg.kl hl.1 hl.2.1 hl.2.2.1 hl.2.2.2
end Go.Proofs.Ytpinbmjkbkogdaa
namespace Go.Proofs.Ytpinbmjkbkogdaa
open Go.RowKit Go.ChangeShapes Go.WideShapes Go.Deep Go.Joins
set_option linter.unusedVariables false
theorem list_pick {α : Type} : ∀ (n : Nat) (p : Nat → α → Prop), (∀ i, i < n → ∃ c, p i c) → ∃ xs : List α, xs.length = n ∧ ∀ i c, xs[i]? = some c → p i c
  | 0, p, h => ⟨[], rfl, fun i c hi => by simp at hi⟩
  | n + 1, p, h => by
    obtain ⟨xs, hl, hp⟩ := list_pick n p (fun i hi => h i (by omega))
    obtain ⟨c, hc⟩ := h n (by omega)
    refine ⟨xs ++ [c], by simp [hl], fun i d hi => ?_⟩
    rcases Nat.lt_or_ge i n with h1 | h1
    · rw [List.getElem?_append_left (by omega)] at hi
      exact hp i d hi
    · obtain ⟨h2, _⟩ := List.getElem?_eq_some_iff.1 hi
      simp [hl] at h2
      obtain rfl : i = n := by omega
      rw [List.getElem?_append_right (by omega), hl, Nat.sub_self] at hi
      simp at hi
      subst hi
      exact hc
theorem two_len {cs : List Value} (h : cs.length = 2) : ∃ a b, cs = [a, b] := by
  match cs, h with
  | [a, b], _ => exact ⟨a, b, rfl⟩
theorem four_len {cs : List Value} (h : cs.length = 4) : ∃ a b c d, cs = [a, b, c, d] := by
  match cs, h with
  | [a, b, c, d], _ => exact ⟨a, b, c, d, rfl⟩
theorem seven_len {cs : List Value} (h : cs.length = 7) : ∃ a b c d e f g, cs = [a, b, c, d, e, f, g] := by
  match cs, h with
  | [a, b, c, d, e, f, g], _ => exact ⟨a, b, c, d, e, f, g, rfl⟩
theorem ten_len {cs : List Value} (h : cs.length = 10) : ∃ a b c d e f g i j k, cs = [a, b, c, d, e, f, g, i, j, k] := by
  match cs, h with
  | [a, b, c, d, e, f, g, i, j, k], _ => exact ⟨a, b, c, d, e, f, g, i, j, k, rfl⟩
theorem cellsAt_of {w : World} {b : Nat} : ∀ (vs : List Value) (o : Nat), (∀ (j : Nat) u, vs[j]? = some u → w.cell? ⟨b, o + j, none⟩ = some u) → CellsAt w b o vs
  | [], _, _ => trivial
  | v :: vs, o, h => ⟨h 0 v rfl, cellsAt_of vs (o + 1) fun j u hj => by have := h (j + 1) u (by simpa using hj); rwa [show o + 1 + j = o + (j + 1) by omega]⟩
section
variable {H : Type} {enc : TypeId × Value → H} {w : World} {base : Nat} {spare : Nat → Bool} {held : Bool}
theorem rows_in {α : Type} {f : α → List Value} {sz : Nat} {t e : TypeId} {n : Nat} {v : Value} {x : DataW H × List MemPlace} (ht : Try.prog.underlying t = some (.slice e)) (hc : Try.prog.cellsOf e = sz) (hp : 0 < sz) (hf : ∀ y, (f y).length = sz)
    (one : ∀ (n : Nat) (cs : List Value) (x : DataW H × List MemPlace), DataW.trod enc Try.prog w base spare held n e cs = some x → ∃ y, cs = f y) (h : DataW.trod enc Try.prog w base spare held n t [v] = some x) :
    ∃ (a : Option Addr) (len cap : Nat) (xs : List α), v = .slice a len cap ∧ RowL f sz w a xs ∧ xs.length = len ∧ len ≤ cap ∧ cap ≤ maxLen := by
  rcases DataW.trod_slice ht h with ⟨hcs, _⟩ | ⟨ad, len, cap, elems, rest, n2, hn2, hcs, _, hb, hle, hcap, hel, hi, _, _⟩
  · simp at hcs
    subst hcs
    exact ⟨none, 0, 0, [], rfl, .inl rfl, rfl, Nat.le_refl _, Nat.zero_le _⟩
  · simp at hcs
    subst hcs
    rw [hc] at hi
    obtain ⟨rs, hrl, hrs⟩ := list_pick len (fun i (r : α) => ∀ (j : Nat) u, (f r)[j]? = some u → w.cell? (ad.add (i * sz + j)) = some u) (fun i hil => by
      have hii := hi i hil
      rw [List.getElem?_eq_getElem (by omega)] at hii
      obtain ⟨cs', hc', ht'⟩ := Option.bind_eq_some_iff.1 hii
      obtain ⟨_, hcl, hat⟩ := World.cells?_some hc'
      obtain ⟨r, rfl⟩ := one _ _ _ ht'
      refine ⟨r, fun j u hj => ?_⟩
      have hjs : j < sz := by have := (List.getElem?_eq_some_iff.1 hj).1; rw [hf] at this; exact this
      have h0 := hat j hjs
      rw [Go.Deep.add_add] at h0
      rw [h0]; exact hj)
    refine ⟨some ad, len, cap, rs, rfl, ?_, hrl, hle, hcap⟩
    rcases Nat.eq_zero_or_pos len with h0 | h0
    · exact .inl (List.length_eq_zero_iff.1 (by omega))
    · obtain ⟨b, off, spot⟩ := ad
      have h1 := hrs 0 (rs[0]'(by omega)) (List.getElem?_eq_getElem (by omega)) 0 _ (List.getElem?_eq_getElem (by rw [hf]; exact hp))
      have hspot : spot = none := by simpa [Addr.add] using World.cell?_spot h1
      subst hspot
      refine .inr ⟨b, off, rfl, fun i r hir => cellsAt_of _ _ fun j u hj => ?_⟩
      have h3 := hrs i r hir j u hj
      have e : ∀ k, ({ block := b, off := off } : Addr).add k = ⟨b, off + k, none⟩ := fun k => by simp [Addr.add]
      rw [e, ← Nat.add_assoc] at h3
      exact h3
set_option maxRecDepth 100000 in
theorem ints_in {n : Nat} {v : Value} {x : DataW H × List MemPlace} (h : DataW.trod enc Try.prog w base spare held n 23 [v] = some x) :
    ∃ (a : Option Addr) (len cap : Nat) (zs : List Int), v = .slice a len cap ∧ RowI w a zs ∧ zs.length = len ∧ len ≤ cap ∧ cap ≤ maxLen :=
  rows_in (e := 3) (by kernel_rfl) (by kernel_rfl) (by omega) (fun _ => rfl) (fun n cs x h => by
    obtain ⟨z0, e0, _, _⟩ := DataW.trod_int (k := .i64) (by kernel_rfl) h
    exact ⟨z0, e0⟩) h
set_option maxRecDepth 100000 in
theorem texts_in {n : Nat} {v : Value} {x : DataW H × List MemPlace} (h : DataW.trod enc Try.prog w base spare held n 22 [v] = some x) :
    ∃ (a : Option Addr) (len cap : Nat), v = .slice a len cap := by
  obtain ⟨a, len, cap, _, e, _⟩ := rows_in (f := fun s : ByteArray => [.string s]) (sz := 1) (e := 9) (by kernel_rfl) (by kernel_rfl) (by omega) (fun _ => rfl) (fun n cs x h => by
    obtain ⟨z0, e0, _, _⟩ := DataW.trod_string (by kernel_rfl) h
    exact ⟨z0, e0⟩) h
  exact ⟨a, len, cap, e⟩
set_option maxRecDepth 100000 in
theorem steps_in {n : Nat} {v : Value} {x : DataW H × List MemPlace} (h : DataW.trod enc Try.prog w base spare held n 24 [v] = some x) :
    ∃ (a : Option Addr) (len cap : Nat) (zs : List TV), v = .slice a len cap ∧ RowL TV.sev 7 w a zs ∧ zs.length = len ∧ len ≤ cap ∧ cap ≤ maxLen :=
  rows_in (e := 76) (by kernel_rfl) (by kernel_rfl) (by omega) (fun _ => rfl) (fun n cs x h => by
    obtain ⟨xs, n', hn, _, hl, hlen, hg⟩ := DataW.trod_struct Try.underlying76 h
    rw [show Try.prog.cellsOf 76 = 7 by kernel_rfl] at hl
    obtain ⟨a, b, c, d, e, f, g, rfl⟩ := seven_len hl
    have hlen' : xs.length = 7 := hlen
    have g0 := hg 0 _ rfl
    have g1 := hg 1 _ rfl
    have g2 := hg 2 _ rfl
    have g3 := hg 3 _ rfl
    have g4 := hg 4 _ rfl
    have g5 := hg 5 _ rfl
    have g6 := hg 6 _ rfl
    rw [show Try.prog.cellsOf _ = 1 by kernel_rfl, List.getElem?_eq_getElem (by omega)] at g0 g1 g2 g3 g4 g5 g6
    obtain ⟨z0, e0, _, _⟩ := DataW.trod_int (k := .i64) (by kernel_rfl) g0
    obtain ⟨z1, e1, _, _⟩ := DataW.trod_int (k := .i64) (by kernel_rfl) g1
    obtain ⟨z2, e2, _, _⟩ := DataW.trod_int (k := .i64) (by kernel_rfl) g2
    obtain ⟨z3, e3, _, _⟩ := DataW.trod_int (k := .i64) (by kernel_rfl) g3
    obtain ⟨z4, e4, _, _⟩ := DataW.trod_int (k := .i64) (by kernel_rfl) g4
    obtain ⟨z5, e5, _, _⟩ := DataW.trod_int (k := .i64) (by kernel_rfl) g5
    obtain ⟨z6, e6, _, _⟩ := DataW.trod_int (k := .i64) (by kernel_rfl) g6
    simp at e0 e1 e2 e3 e4 e5 e6
    subst e0 e1 e2 e3 e4 e5 e6
    exact ⟨⟨z0, z1, z2, z3, z4, z5, z6⟩, rfl⟩) h
set_option maxRecDepth 100000 in
theorem sites_in {n : Nat} {v : Value} {x : DataW H × List MemPlace} (h : DataW.trod enc Try.prog w base spare held n 25 [v] = some x) :
    ∃ (a : Option Addr) (len cap : Nat) (zs : List UV), v = .slice a len cap ∧ RowL UV.four 4 w a zs ∧ zs.length = len ∧ len ≤ cap ∧ cap ≤ maxLen :=
  rows_in (e := 47) (by kernel_rfl) (by kernel_rfl) (by omega) (fun _ => rfl) (fun n cs x h => by
    obtain ⟨xs, n', hn, _, hl, hlen, hg⟩ := DataW.trod_struct Try.underlying47 h
    rw [show Try.prog.cellsOf 47 = 4 by kernel_rfl] at hl
    obtain ⟨a, b, c, d, rfl⟩ := four_len hl
    have hlen' : xs.length = 4 := hlen
    have g0 := hg 0 _ rfl
    have g1 := hg 1 _ rfl
    have g2 := hg 2 _ rfl
    have g3 := hg 3 _ rfl
    rw [show Try.prog.cellsOf _ = 1 by kernel_rfl, List.getElem?_eq_getElem (by omega)] at g0 g1 g2 g3
    obtain ⟨z0, e0, _, _⟩ := DataW.trod_string (by kernel_rfl) g0
    obtain ⟨z1, e1, _, _⟩ := DataW.trod_int (k := .i64) (by kernel_rfl) g1
    obtain ⟨z2, e2, _, _⟩ := DataW.trod_int (k := .i64) (by kernel_rfl) g2
    obtain ⟨z3, e3, _, _⟩ := DataW.trod_int (k := .i64) (by kernel_rfl) g3
    simp at e0 e1 e2 e3
    subst e0 e1 e2 e3
    exact ⟨⟨z0, z1, z2, z3⟩, rfl⟩) h
set_option maxRecDepth 100000 in
theorem points_in {n : Nat} {v : Value} {x : DataW H × List MemPlace} (h : DataW.trod enc Try.prog w base spare held n 26 [v] = some x) :
    ∃ (a : Option Addr) (len cap : Nat) (zs : List NV), v = .slice a len cap ∧ RowL NV.two 2 w a zs ∧ zs.length = len ∧ len ≤ cap ∧ cap ≤ maxLen :=
  rows_in (e := 85) (by kernel_rfl) (by kernel_rfl) (by omega) (fun _ => rfl) (fun n cs x h => by
    obtain ⟨xs, n', hn, _, hl, hlen, hg⟩ := DataW.trod_struct Try.underlying85 h
    rw [show Try.prog.cellsOf 85 = 2 by kernel_rfl] at hl
    obtain ⟨a, b, rfl⟩ := two_len hl
    have hlen' : xs.length = 2 := hlen
    have g0 := hg 0 _ rfl
    have g1 := hg 1 _ rfl
    rw [show Try.prog.cellsOf _ = 1 by kernel_rfl, List.getElem?_eq_getElem (by omega)] at g0 g1
    obtain ⟨z0, e0, _, _⟩ := DataW.trod_string (by kernel_rfl) g0
    obtain ⟨z1, e1, _, _⟩ := DataW.trod_int (k := .i64) (by kernel_rfl) g1
    simp at e0 e1
    subst e0 e1
    exact ⟨⟨z0, z1⟩, rfl⟩) h
set_option maxRecDepth 100000 in
theorem sinks_in {n : Nat} {v : Value} {x : DataW H × List MemPlace} (h : DataW.trod enc Try.prog w base spare held n 27 [v] = some x) :
    ∃ (a : Option Addr) (len cap : Nat) (zs : List KV), v = .slice a len cap ∧ RowL KV.two 2 w a zs ∧ zs.length = len ∧ len ≤ cap ∧ cap ≤ maxLen :=
  rows_in (e := 87) (by kernel_rfl) (by kernel_rfl) (by omega) (fun _ => rfl) (fun n cs x h => by
    obtain ⟨xs, n', hn, _, hl, hlen, hg⟩ := DataW.trod_struct Try.underlying87 h
    rw [show Try.prog.cellsOf 87 = 2 by kernel_rfl] at hl
    obtain ⟨a, b, rfl⟩ := two_len hl
    have hlen' : xs.length = 2 := hlen
    have g0 := hg 0 _ rfl
    have g1 := hg 1 _ rfl
    rw [show Try.prog.cellsOf _ = 1 by kernel_rfl, List.getElem?_eq_getElem (by omega)] at g0 g1
    obtain ⟨z0, e0, _, _⟩ := DataW.trod_int (k := .i64) (by kernel_rfl) g0
    obtain ⟨z1, e1, _, _⟩ := DataW.trod_int (k := .i64) (by kernel_rfl) g1
    simp at e0 e1
    subst e0 e1
    exact ⟨⟨z0, z1⟩, rfl⟩) h
set_option maxRecDepth 100000 in
theorem graph_in {n : Nat} {cs : List Value} {x : DataW H × List MemPlace} (h : DataW.trod enc Try.prog w base spare held n 29 cs = some x) : ∃ g : GV, cs = g.ten ∧ GIn w g := by
  obtain ⟨xs, n', hn, _, hl, hlen, hg⟩ := DataW.trod_struct Try.underlying29 h
  rw [show Try.prog.cellsOf 29 = 10 by kernel_rfl] at hl
  obtain ⟨a, b, c, d, e, f, g, i, j, k, rfl⟩ := ten_len hl
  have hlen' : xs.length = 10 := hlen
  have g0 := hg 0 _ rfl
  have g1 := hg 1 _ rfl
  have g2 := hg 2 _ rfl
  have g3 := hg 3 _ rfl
  have g4 := hg 4 _ rfl
  have g5 := hg 5 _ rfl
  have g6 := hg 6 _ rfl
  have g7 := hg 7 _ rfl
  have g8 := hg 8 _ rfl
  have g9 := hg 9 _ rfl
  rw [show Try.prog.cellsOf _ = 1 by kernel_rfl, List.getElem?_eq_getElem (by omega)] at g0 g1 g2 g3 g4 g5 g6 g7 g8 g9
  obtain ⟨va, vl, vc, rfl⟩ := texts_in (v := a) g0
  obtain ⟨pa, pl, pc, rfl⟩ := texts_in (v := b) g1
  obtain ⟨ea, el, ec, es, rfl, he, hel, _⟩ := ints_in (v := c) g2
  obtain ⟨xa, xl, xc, ys, rfl, hx, hxl, _⟩ := ints_in (v := d) g3
  obtain ⟨mn, e4, _, _⟩ := DataW.trod_int (k := .i64) (by kernel_rfl) g4
  simp at e4
  subst e4
  obtain ⟨oa, ol, oc, os, rfl, ho, hol, _⟩ := ints_in (v := f) g5
  obtain ⟨sa, sl, sc, ss, rfl, hs, hsl, _⟩ := steps_in (v := g) g6
  obtain ⟨ta, tl, tc, ts, rfl, ht, htl, _⟩ := sites_in (v := i) g7
  obtain ⟨na, nl, nc, ns, rfl, hn', hnl, _⟩ := points_in (v := j) g8
  obtain ⟨ka, kl, kc, ks, rfl, hk, hkl, _⟩ := sinks_in (v := k) g9
  exact ⟨⟨va, vl, vc, pa, pl, pc, ea, el, ec, es, xa, xl, xc, ys, mn, oa, ol, oc, os, sa, sl, sc, ss, ta, tl, tc, ts, na, nl, nc, ns, ka, kl, kc, ks⟩, rfl, ⟨he, hel, hx, hxl, ho, hol, hs, hsl, ht, htl, hn', hnl, hk, hkl⟩⟩
set_option maxRecDepth 100000 in
theorem graph_open {r : Reach} {b0 : Nat} {v : Value} {d : DataW H} {p : List MemPlace} (hv : Value.okWide Try.prog w r b0 29 v) (h : DataW.Trod enc Try.prog w base spare held 29 v d p) :
    ∃ g : GV, v = g.val ∧ GIn w g := by
  obtain ⟨cs, rfl, _⟩ := okWide_struct Try.underlying29 hv
  obtain ⟨n, h⟩ := h
  obtain ⟨s, e, hs⟩ := graph_in (n := n) h
  have e' : cs.toList = _ := e
  exact ⟨s, by show Value.agg cs = Value.agg _; congr 1; exact Array.ext' e', hs⟩
set_option maxRecDepth 100000 in
theorem list_open {n : Nat} {a : Option Addr} {len cap : Nat} {x : DataW H × List MemPlace} (h : DataW.trod enc Try.prog w base spare held n 23 [.slice a len cap] = some x) : ∃ zs : List Int, RowI w a zs ∧ zs.length = len ∧ len ≤ cap ∧ len ≤ 9223372036854775807 := by
  obtain ⟨a', len', cap', zs, e, h1, h2, h3, h4⟩ := ints_in h
  cases e
  exact ⟨zs, h1, h2, h3, by simp only [maxLen] at h4; omega⟩
end
end Go.Proofs.Ytpinbmjkbkogdaa
