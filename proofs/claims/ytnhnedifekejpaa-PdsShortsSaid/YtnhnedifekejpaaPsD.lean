import Derived.Orders
import Derived.Below
import Derived.Deep.RegionHeld
import Derived.WalkKit
import Derived.KernelRfl
import Derived.Laws.Rows
import Derived.Laws.AppendOwn
import Derived.Laws.Strings
import Derived.Laws.Small
import Derived.Lib.Hide
import Derived.IntWalk
import Derived.Laws.Tables
import Derived.Laws.Concat
import Derived.Laws.MakeOwn
import Derived.Lib.OwnBridge
import Derived.WideKeyEntry
import Derived.DeepKeys4
import Derived.Lib.AppendZeros
import Derived.Test.YtnhnedifekejpaaProg
import Derived.Test.YtnhnedifekejpaaRows
import Derived.Lib.LaidTab
import Derived.Lib.ItoaNum
import Derived.Lib.TrailingZeros
import Derived.Stop.LaidErr
import Derived.WalkSmall
import Derived.LaidMore
import Derived.Shelf.Spec.TrailingZeros
import Derived.Laws.BitsAllLaws
import Derived.Laws.Bits64
import Derived.Deep.QuietTactic
import Derived.BigQuiet
import Derived.RegionTactic
import Derived.BigRegion
import Derived.Deep.RegionHeld3
import Derived.ChangeAlike
import Derived.RangeFuncNested
import Derived.RangeFuncBound
import Derived.RangeFuncCalls
import Derived.RangeFuncLeaves
import Derived.Shelf.Abstract
import Derived.Shelf.RegionOpen
import Derived.OwnWalkIn
import Derived.TacticsInMore
import Derived.LoopNIn
import Derived.LoopIn
import Derived.Laws.Bits128
import Derived.Deep.AppendLies
import Derived.Ground.Names2Prog
import Derived.Shelf.Slices.Clone
import Derived.Ground.SlgnProg
import Derived.Shelf.SlicesE.Clone
import Derived.Sort.Grow
import Derived.Maps.AppendAt
import Derived.Lib.OthersKept
import Derived.Laws.IdiomStrings
import Derived.StillTailTactics
import Derived.Deep.RegionLaw
import Derived.Deep.DeepCutAuto
import Derived.Deep.CutRange
import Derived.Deep.RegionWith
import Derived.Laws.Bits64b
import Derived.Deep.DrawnRows
import Derived.Lib.SliceRun
import Derived.Laws.OwnMore
import Derived.OwnWalk
import Derived.WalkSpells
import Derived.Lib.Join
import Derived.Lib.ItoaLen
import Derived.Lib.UnsafeStr
import Derived.Lib.AppendIntMem
import Derived.Test.YtnhnedifekejpaaPsA
import Derived.Test.YtnhnedifekejpaaPsB
import Derived.Test.YtnhnedifekejpaaPsC
set_option maxRecDepth 100000
set_option maxHeartbeats 4000000
set_option linter.unusedVariables false
set_option linter.unusedVariables false
set_option linter.unusedSimpArgs false
set_option linter.unusedSectionVars false
set_option linter.unnecessarySimpa false
namespace Go.Proofs.Ytnhnedifekejpaa
open Go Go.RowKit
theorem oneA_pair (t n u m : Int) (a1 a2 : Option Addr) (c1 c2 b off sc : Nat) (w : World) (hs1 : S3 w b off ⟨t, n, a1, 0, c1⟩) (hs2 : S3 w b (off + 3) ⟨u, m, a2, 0, c2⟩) (hp1 : plainB t n 0 = true) (hp2 : plainB u m 0 = true) :
  Calls Try.prog 111 #[.agg #[.int .i64 5, .int .i64 0, .slice (some ⟨b, off, none⟩) 2 sc]] w (WRet (.two t n u m) (.two (oneP t n) (oneP u m)) w) := by
 refine enterF (args := [.agg #[.int .i64 5, .int .i64 0, .slice (some ⟨b, off, none⟩) 2 sc]]) Try.func111 rfl Try.ntmps111 rfl ?_
 have hS := St.start w
 refine seqF (regF ?_)
 refine op_box (cs := [_, _, _]) hS rfl rfl rfl ?_
 clear hS; intro B1 W1 hS
 refine op_alloc (cs := [_, _, _, _, _, _]) hS Try.zeroValue54 rfl rfl ?_
 clear hS; intro B2 W2 hS
 refine endF (XF.thenN ?_)
 refine seqF (regF ?_)
 refine op_alloc (cs := [_, _, _, _, _, _]) hS Try.zeroValue54 rfl rfl ?_
 clear hS; intro B3 W3 hS
 refine endF (XF.thenN ?_)
 refine seqF ?_
 refine seqF (regF ?_)
 refine op_field (o' := 0) fa_25_0 rfl rfl rfl ?_
 refine op_load Try.isAgg22 rfl (cell_own (hS.at_ 2 rfl) rfl) rfl ?_
 refine endF (XF.thenN ?_)
 refine blockF ?_
 refine seqF (regF ?_)
 refine op_eql rfl rfl rfl ?_
 refine op_assign rfl rfl ?_
 refine endF (XF.thenN ?_)
 refine condF rfl (fun hc => absurd (of_decide_eq_true hc) (by omega)) (fun hc => ?_)
 have hc := of_decide_eq_false hc
 refine seqF (regF ?_)
 refine op_eql rfl rfl rfl ?_
 refine op_assign rfl rfl ?_
 refine endF (XF.thenN ?_)
 refine condF rfl (fun hc => absurd (of_decide_eq_true hc) (by omega)) (fun hc => ?_)
 have hc := of_decide_eq_false hc
 refine seqF (regF ?_)
 refine op_eql rfl rfl rfl ?_
 refine op_assign rfl rfl ?_
 refine endF (XF.thenN ?_)
 refine condF rfl (fun hc => ?_) (fun hc => absurd (of_decide_eq_false hc) (by omega))
 have hc := of_decide_eq_true hc
 have hsz := hS.below.size
 have k1 := CellsAt.agree hS.agree (Nat.zero_le _) hs1.cells
 have k2 := CellsAt.agree hS.agree (Nat.zero_le _) hs2.cells
 refine regBK followsM 11 hS rfl rfl (by kernel_rfl) (by kernel_rfl) (by kernel_rfl) (fun d hd => by cases hd) ?_
 refine bl_cons 1 rfl (isV _) (stab_isV _) (rgV (li := [(1, _)]) rfl (w_free rfl) ⟨g_fr (by kernel_rfl) rfl, trivial⟩ (fun w hw => rn_field (o' := 2) fa_25_2 rfl rfl) (at_top rfl)) ?_
 refine bl_cons 2 rfl (isV _) (stab_isV _) (rgV (li := [(26, _)]) rfl (w_free rfl) ⟨g_dep 0 (by kernel_rfl) (at_dep rfl rfl rfl), trivial⟩ (fun w hw => rn_load Try.isAgg23 rfl ((below_agree hw 0).cell (Nat.zero_le _) (cell_own (hS.at_ 2 rfl) rfl))) (at_top rfl)) ?_
 refine bl_cons 3 rfl (isV _) (stab_isV _) (rgV (li := [(27, _)]) rfl (w_free rfl) ⟨g_dep 1 (by kernel_rfl) (at_dep rfl rfl rfl), trivial⟩ (fun w hw => rn_indexA (j := 0) Try.underlying23 Try.sizeOf25 rfl rfl rfl (by omega) (Nat.add_zero _)) (at_top rfl)) ?_
 refine bl_cons 4 rfl (isV _) (stab_isV _) (rgV (li := [(28, _)]) rfl (w_free rfl) ⟨g_dep 2 (by kernel_rfl) (at_dep rfl rfl rfl), trivial⟩ (fun w hw => rn_loadA (vs := [_, _, _]) Try.isAgg25 Try.sizeOf25 rfl (CellsAt.agree (below_agree hw 0) (Nat.zero_le _) (by assumption))) (at_top rfl)) ?_
 refine bl_cons 5 rfl (isNew W3.heap.size (.one t n) (.one (oneP t n))) (stab_isNew) (rg_call [isV _] rfl goes_111 (w_free rfl) ⟨p_tmp (g_dep 3 (by kernel_rfl) (at_dep rfl rfl rfl)), trivial⟩ (fun vs w' hb hh => by have e := holds_isV (us := [_]) hh; subst e; exact wret_gives hb.size (oneA_plain _ _ _ _ _ hp1)) (at_top rfl)) ?_
 refine bl_cons 6 rfl (isV _) (stab_isV _) (rgV (li := [(1, _)]) rfl (w_free rfl) ⟨g_fr (by kernel_rfl) rfl, trivial⟩ (fun w hw => rn_field (o' := 2) fa_25_2 rfl rfl) (at_top rfl)) ?_
 refine bl_cons 7 rfl (isV _) (stab_isV _) (rgV (li := [(31, _)]) rfl (w_free rfl) ⟨g_dep 5 (by kernel_rfl) (at_dep rfl rfl rfl), trivial⟩ (fun w hw => rn_load Try.isAgg23 rfl ((below_agree hw 0).cell (Nat.zero_le _) (cell_own (hS.at_ 2 rfl) rfl))) (at_top rfl)) ?_
 refine bl_cons 8 rfl (isV _) (stab_isV _) (rgV (li := [(32, _)]) rfl (w_free rfl) ⟨g_dep 6 (by kernel_rfl) (at_dep rfl rfl rfl), trivial⟩ (fun w hw => rn_indexA (j := 1) Try.underlying23 Try.sizeOf25 rfl rfl rfl (by omega) rfl) (at_top rfl)) ?_
 refine bl_cons 9 rfl (isV _) (stab_isV _) (rgV (li := [(33, _)]) rfl (w_free rfl) ⟨g_dep 7 (by kernel_rfl) (at_dep rfl rfl rfl), trivial⟩ (fun w hw => rn_loadA (vs := [_, _, _]) Try.isAgg25 Try.sizeOf25 rfl (CellsAt.agree (below_agree hw 0) (Nat.zero_le _) (by assumption))) (at_top rfl)) ?_
 refine bl_cons 10 rfl (isNew W3.heap.size (.one u m) (.one (oneP u m))) (stab_isNew) (rg_call [isV _] rfl goes_111 (w_free rfl) ⟨p_tmp (g_dep 8 (by kernel_rfl) (at_dep rfl rfl rfl)), trivial⟩ (fun vs w' hb hh => by have e := holds_isV (us := [_]) hh; subst e; exact wret_gives hb.size (oneA_plain _ _ _ _ _ hp2)) (at_top rfl)) ?_
 refine bl_cons 11 rfl (isNew W3.heap.size (.two t n u m) (.two (oneP t n) (oneP u m))) (stab_isNew) (rg_call [isNew _ (.one t n) (.one (oneP t n)), isNew _ (.one u m) (.one (oneP u m))] rfl goes_109 (w_free rfl) ⟨p_tmp (g_dep 4 (by kernel_rfl) (at_dep rfl rfl rfl)), p_tmp (g_dep 9 (by kernel_rfl) (at_dep rfl rfl rfl)), trivial⟩ (fun vs w' hb hh => pair_gives hb.size hh) (at_top rfl)) ?_
 refine bl_nil ?_
 intro W4 hbR hS'
 clear hS; have hS := hS'; clear hS'
 refine fin_v ?_
 refine fin_v ?_
 refine fin_v ?_
 refine fin_v ?_
 refine fin_p ?_; rintro _ ⟨v1, rfl, hn1⟩
 refine fin_v ?_
 refine fin_v ?_
 refine fin_v ?_
 refine fin_v ?_
 refine fin_p ?_; rintro _ ⟨v2, rfl, hn2⟩
 refine fin_p ?_; rintro _ ⟨v3, rfl, hn3⟩
 refine fin_nil ?_
 refine op_storeA (i := 0) (vs := [_, _, _, _, _, _]) (cs' := [_, _, _, _, _, _]) (O' := [_, _, _]) hS Try.sizeOf54 rfl rfl rfl rfl rfl rfl rfl ?_
 clear hS; intro W5 hS
 refine endF ?_
 refine XF.blkN ?_
 refine XF.thenN ?_
 refine seqF (regF ?_)
 refine op_loadA (vs := [_, _, _, _, _, _]) Try.isAgg54 Try.sizeOf54 rfl (CellsAt.own (j := 0) (m := 6) (hS.at_ 0 rfl) rfl) rfl ?_
 refine op_storeA (i := 1) (vs := [_, _, _, _, _, _]) (cs' := [_, _, _, _, _, _]) (O' := [_, _, _]) hS Try.sizeOf54 rfl rfl rfl rfl rfl rfl rfl ?_
 clear hS; intro W6 hS
 refine endF (XF.thenN ?_)
 refine retF ?_
 refine XF.res (resC1 (vs := [_, _, _, _, _, _]) Try.results111 Try.isAgg54 Try.sizeOf54 rfl (CellsAt.own (j := 0) (m := 6) (hS.at_ 1 rfl) rfl)) ?_
 exact ⟨v3, rfl, (hn3.agree (hS.since 0 rfl)).mono hsz, hS.below⟩
theorem combA_pair (t n u m : Int) (a1 a2 : Option Addr) (c1 c2 b off sc : Nat) (w : World) (hs1 : S3 w b off ⟨t, n, a1, 0, c1⟩) (hs2 : S3 w b (off + 3) ⟨u, m, a2, 0, c2⟩) (hp1 : plainB t n 0 = true) (hp2 : plainB u m 0 = true)(fra fca : Option Addr) (frc fcc fpc fb fo : Nat) (f1 f2 : WF) (x1 x2 : PF) (hf6 : W6 w fb fo f1) (hf7 : W6 w fb (fo + 6) f2) (hx1 : PIs w t n f1 x1) (hx2 : PIs w u m f2 x2)(gra gca : Option Addr) (grc gcc gpc gb go : Nat) (g1 g2 : WF) (y1 y2 : PF) (hg6 : W6 w gb go g1) (hg7 : W6 w gb (go + 6) g2) (hy1 : PIs w t n g1 y1) (hy2 : PIs w u m g2 y2)(ht : Tabs w) :
  Calls Try.prog 118 #[.agg #[.int .i64 5, .int .i64 0, .slice (some ⟨b, off, none⟩) 2 sc], .agg #[.bool false, .int .i64 0, .int .u64 0, .slice fra 0 frc, .slice fca 0 fcc, .slice (some ⟨fb, fo, none⟩) 2 fpc], .agg #[.bool false, .int .i64 0, .int .u64 0, .slice gra 0 grc, .slice gca 0 gcc, .slice (some ⟨gb, go, none⟩) 2 gpc]] w (WRet (.two t n u m) (.two (combP t n x1 y1) (combP u m x2 y2)) w) := by
 refine enterF (args := [.agg #[.int .i64 5, .int .i64 0, .slice (some ⟨b, off, none⟩) 2 sc], .agg #[.bool false, .int .i64 0, .int .u64 0, .slice fra 0 frc, .slice fca 0 fcc, .slice (some ⟨fb, fo, none⟩) 2 fpc], .agg #[.bool false, .int .i64 0, .int .u64 0, .slice gra 0 grc, .slice gca 0 gcc, .slice (some ⟨gb, go, none⟩) 2 gpc]]) Try.func118 rfl Try.ntmps118 rfl ?_
 have hS := St.start w
 refine seqF (regF ?_)
 refine op_box (cs := [_, _, _]) hS rfl rfl rfl ?_
 clear hS; intro B1 W1 hS
 refine op_box (cs := [_, _, _, _, _, _]) hS rfl rfl rfl ?_
 clear hS; intro B2 W2 hS
 refine op_box (cs := [_, _, _, _, _, _]) hS rfl rfl rfl ?_
 clear hS; intro B3 W3 hS
 refine op_alloc (cs := [_, _, _, _, _, _]) hS Try.zeroValue54 rfl rfl ?_
 clear hS; intro B4 W4 hS
 refine endF (XF.thenN ?_)
 refine seqF ?_
 refine seqF (regF ?_)
 refine op_field (o' := 0) fa_54_0 rfl rfl rfl ?_
 refine op_load Try.isAgg4 rfl (cell_own (hS.at_ 2 rfl) rfl) rfl ?_
 refine endF (XF.thenN ?_)
 refine condF rfl (fun hc => absurd hc (by decide)) (fun hc => ?_)
 skip
 refine skipF ?_
 refine XF.thenN ?_
 refine seqF ?_
 refine seqF (regF ?_)
 refine op_field (o' := 0) fa_54_0 rfl rfl rfl ?_
 refine op_load Try.isAgg4 rfl (cell_own (hS.at_ 1 rfl) rfl) rfl ?_
 refine endF (XF.thenN ?_)
 refine condF rfl (fun hc => absurd hc (by decide)) (fun hc => ?_)
 skip
 refine skipF ?_
 refine XF.thenN ?_
 refine seqF (regF ?_)
 refine op_alloc (cs := [_, _, _, _, _, _]) hS Try.zeroValue54 rfl rfl ?_
 clear hS; intro B5 W5 hS
 refine endF (XF.thenN ?_)
 refine seqF ?_
 refine seqF (regF ?_)
 refine op_field (o' := 0) fa_25_0 rfl rfl rfl ?_
 refine op_load Try.isAgg22 rfl (cell_own (hS.at_ 4 rfl) rfl) rfl ?_
 refine endF (XF.thenN ?_)
 refine blockF ?_
 refine seqF (regF ?_)
 refine op_eql rfl rfl rfl ?_
 refine op_assign rfl rfl ?_
 refine endF (XF.thenN ?_)
 refine condF rfl (fun hc => absurd (of_decide_eq_true hc) (by omega)) (fun hc => ?_)
 have hc := of_decide_eq_false hc
 refine seqF (regF ?_)
 refine op_eql rfl rfl rfl ?_
 refine op_assign rfl rfl ?_
 refine endF (XF.thenN ?_)
 refine condF rfl (fun hc => absurd (of_decide_eq_true hc) (by omega)) (fun hc => ?_)
 have hc := of_decide_eq_false hc
 refine seqF (regF ?_)
 refine op_eql rfl rfl rfl ?_
 refine op_assign rfl rfl ?_
 refine endF (XF.thenN ?_)
 refine condF rfl (fun hc => absurd (of_decide_eq_true hc) (by omega)) (fun hc => ?_)
 have hc := of_decide_eq_false hc
 refine seqF (regF ?_)
 refine op_eql rfl rfl rfl ?_
 refine op_assign rfl rfl ?_
 refine endF (XF.thenN ?_)
 refine condF rfl (fun hc => ?_) (fun hc => absurd (of_decide_eq_false hc) (by omega))
 have hc := of_decide_eq_true hc
 have hsz := hS.below.size
 have k1 := CellsAt.agree hS.agree (Nat.zero_le _) hs1.cells
 have k2 := CellsAt.agree hS.agree (Nat.zero_le _) hs2.cells
 have kf1 := CellsAt.agree hS.agree (Nat.zero_le _) hf6.cells
 have kf2 := CellsAt.agree hS.agree (Nat.zero_le _) hf7.cells
 have kg1 := CellsAt.agree hS.agree (Nat.zero_le _) hg6.cells
 have kg2 := CellsAt.agree hS.agree (Nat.zero_le _) hg7.cells
 refine regBK followsM 27 hS rfl rfl (by kernel_rfl) (by kernel_rfl) (by kernel_rfl) (fun d hd => by cases hd) ?_
 refine bl_cons 1 rfl (isV _) (stab_isV _) (rgV (li := [(3, _)]) rfl (w_free rfl) ⟨g_fr (by kernel_rfl) rfl, trivial⟩ (fun w hw => rn_field (o' := 2) fa_25_2 rfl rfl) (at_top rfl)) ?_
 refine bl_cons 2 rfl (isV _) (stab_isV _) (rgV (li := [(60, _)]) rfl (w_free rfl) ⟨g_dep 0 (by kernel_rfl) (at_dep rfl rfl rfl), trivial⟩ (fun w hw => rn_load Try.isAgg23 rfl ((below_agree hw 0).cell (Nat.zero_le _) (cell_own (hS.at_ 4 rfl) rfl))) (at_top rfl)) ?_
 refine bl_cons 3 rfl (isV _) (stab_isV _) (rgV (li := [(61, _)]) rfl (w_free rfl) ⟨g_dep 1 (by kernel_rfl) (at_dep rfl rfl rfl), trivial⟩ (fun w hw => rn_indexA (j := 0) Try.underlying23 Try.sizeOf25 rfl rfl rfl (by omega) (Nat.add_zero _)) (at_top rfl)) ?_
 refine bl_cons 4 rfl (isV _) (stab_isV _) (rgV (li := [(62, _)]) rfl (w_free rfl) ⟨g_dep 2 (by kernel_rfl) (at_dep rfl rfl rfl), trivial⟩ (fun w hw => rn_loadA (vs := [_, _, _]) Try.isAgg25 Try.sizeOf25 rfl (CellsAt.agree (below_agree hw 0) (Nat.zero_le _) (by assumption))) (at_top rfl)) ?_
 refine bl_cons 5 rfl (isV _) (stab_isV _) (rgV (li := [(4, _)]) rfl (w_free rfl) ⟨g_fr (by kernel_rfl) rfl, trivial⟩ (fun w hw => rn_field (o' := 5) fa_54_4 rfl rfl) (at_top rfl)) ?_
 refine bl_cons 6 rfl (isV _) (stab_isV _) (rgV (li := [(64, _)]) rfl (w_free rfl) ⟨g_dep 4 (by kernel_rfl) (at_dep rfl rfl rfl), trivial⟩ (fun w hw => rn_load Try.isAgg52 rfl ((below_agree hw 0).cell (Nat.zero_le _) (cell_own (hS.at_ 3 rfl) rfl))) (at_top rfl)) ?_
 refine bl_cons 7 rfl (isV _) (stab_isV _) (rgV (li := [(65, _)]) rfl (w_free rfl) ⟨g_dep 5 (by kernel_rfl) (at_dep rfl rfl rfl), trivial⟩ (fun w hw => rn_indexA (j := 0) Try.underlying52 Try.sizeOf54 rfl rfl rfl (by omega) (Nat.add_zero _)) (at_top rfl)) ?_
 refine bl_cons 8 rfl (isV _) (stab_isV _) (rgV (li := [(66, _)]) rfl (w_free rfl) ⟨g_dep 6 (by kernel_rfl) (at_dep rfl rfl rfl), trivial⟩ (fun w hw => rn_loadA (vs := [_, _, _, _, _, _]) Try.isAgg54 Try.sizeOf54 rfl (CellsAt.agree (below_agree hw 0) (Nat.zero_le _) (by assumption))) (at_top rfl)) ?_
 refine bl_cons 9 rfl (isV _) (stab_isV _) (rgV (li := [(5, _)]) rfl (w_free rfl) ⟨g_fr (by kernel_rfl) rfl, trivial⟩ (fun w hw => rn_field (o' := 5) fa_54_4 rfl rfl) (at_top rfl)) ?_
 refine bl_cons 10 rfl (isV _) (stab_isV _) (rgV (li := [(68, _)]) rfl (w_free rfl) ⟨g_dep 8 (by kernel_rfl) (at_dep rfl rfl rfl), trivial⟩ (fun w hw => rn_load Try.isAgg52 rfl ((below_agree hw 0).cell (Nat.zero_le _) (cell_own (hS.at_ 2 rfl) rfl))) (at_top rfl)) ?_
 refine bl_cons 11 rfl (isV _) (stab_isV _) (rgV (li := [(69, _)]) rfl (w_free rfl) ⟨g_dep 9 (by kernel_rfl) (at_dep rfl rfl rfl), trivial⟩ (fun w hw => rn_indexA (j := 0) Try.underlying52 Try.sizeOf54 rfl rfl rfl (by omega) (Nat.add_zero _)) (at_top rfl)) ?_
 refine bl_cons 12 rfl (isV _) (stab_isV _) (rgV (li := [(70, _)]) rfl (w_free rfl) ⟨g_dep 10 (by kernel_rfl) (at_dep rfl rfl rfl), trivial⟩ (fun w hw => rn_loadA (vs := [_, _, _, _, _, _]) Try.isAgg54 Try.sizeOf54 rfl (CellsAt.agree (below_agree hw 0) (Nat.zero_le _) (by assumption))) (at_top rfl)) ?_
 refine bl_cons 13 rfl (isNew W5.heap.size (.one t n) (.one (combP t n x1 y1))) (stab_isNew) (rg_call [isV _, isV _, isV _] rfl goes_118 (w_free rfl) ⟨p_tmp (g_dep 3 (by kernel_rfl) (at_dep rfl rfl rfl)), p_tmp (g_dep 7 (by kernel_rfl) (at_dep rfl rfl rfl)), p_tmp (g_dep 11 (by kernel_rfl) (at_dep rfl rfl rfl)), trivial⟩ (fun vs w' hb hh => by have e := holds_isV (us := [_, _, _]) hh; subst e; exact wret_gives hb.size (combA_plain _ _ _ _ _ _ _ _ _ hp1 (hx1.below (hS.below.trans (hb.mono hS.below.size))) (hy1.below (hS.below.trans (hb.mono hS.below.size))) (ht.below (hS.below.trans (hb.mono hS.below.size))))) (at_top rfl)) ?_
 refine bl_cons 14 rfl (isV _) (stab_isV _) (rgV (li := [(3, _)]) rfl (w_free rfl) ⟨g_fr (by kernel_rfl) rfl, trivial⟩ (fun w hw => rn_field (o' := 2) fa_25_2 rfl rfl) (at_top rfl)) ?_
 refine bl_cons 15 rfl (isV _) (stab_isV _) (rgV (li := [(73, _)]) rfl (w_free rfl) ⟨g_dep 13 (by kernel_rfl) (at_dep rfl rfl rfl), trivial⟩ (fun w hw => rn_load Try.isAgg23 rfl ((below_agree hw 0).cell (Nat.zero_le _) (cell_own (hS.at_ 4 rfl) rfl))) (at_top rfl)) ?_
 refine bl_cons 16 rfl (isV _) (stab_isV _) (rgV (li := [(74, _)]) rfl (w_free rfl) ⟨g_dep 14 (by kernel_rfl) (at_dep rfl rfl rfl), trivial⟩ (fun w hw => rn_indexA (j := 1) Try.underlying23 Try.sizeOf25 rfl rfl rfl (by omega) rfl) (at_top rfl)) ?_
 refine bl_cons 17 rfl (isV _) (stab_isV _) (rgV (li := [(75, _)]) rfl (w_free rfl) ⟨g_dep 15 (by kernel_rfl) (at_dep rfl rfl rfl), trivial⟩ (fun w hw => rn_loadA (vs := [_, _, _]) Try.isAgg25 Try.sizeOf25 rfl (CellsAt.agree (below_agree hw 0) (Nat.zero_le _) (by assumption))) (at_top rfl)) ?_
 refine bl_cons 18 rfl (isV _) (stab_isV _) (rgV (li := [(4, _)]) rfl (w_free rfl) ⟨g_fr (by kernel_rfl) rfl, trivial⟩ (fun w hw => rn_field (o' := 5) fa_54_4 rfl rfl) (at_top rfl)) ?_
 refine bl_cons 19 rfl (isV _) (stab_isV _) (rgV (li := [(77, _)]) rfl (w_free rfl) ⟨g_dep 17 (by kernel_rfl) (at_dep rfl rfl rfl), trivial⟩ (fun w hw => rn_load Try.isAgg52 rfl ((below_agree hw 0).cell (Nat.zero_le _) (cell_own (hS.at_ 3 rfl) rfl))) (at_top rfl)) ?_
 refine bl_cons 20 rfl (isV _) (stab_isV _) (rgV (li := [(78, _)]) rfl (w_free rfl) ⟨g_dep 18 (by kernel_rfl) (at_dep rfl rfl rfl), trivial⟩ (fun w hw => rn_indexA (j := 1) Try.underlying52 Try.sizeOf54 rfl rfl rfl (by omega) rfl) (at_top rfl)) ?_
 refine bl_cons 21 rfl (isV _) (stab_isV _) (rgV (li := [(79, _)]) rfl (w_free rfl) ⟨g_dep 19 (by kernel_rfl) (at_dep rfl rfl rfl), trivial⟩ (fun w hw => rn_loadA (vs := [_, _, _, _, _, _]) Try.isAgg54 Try.sizeOf54 rfl (CellsAt.agree (below_agree hw 0) (Nat.zero_le _) (by assumption))) (at_top rfl)) ?_
 refine bl_cons 22 rfl (isV _) (stab_isV _) (rgV (li := [(5, _)]) rfl (w_free rfl) ⟨g_fr (by kernel_rfl) rfl, trivial⟩ (fun w hw => rn_field (o' := 5) fa_54_4 rfl rfl) (at_top rfl)) ?_
 refine bl_cons 23 rfl (isV _) (stab_isV _) (rgV (li := [(81, _)]) rfl (w_free rfl) ⟨g_dep 21 (by kernel_rfl) (at_dep rfl rfl rfl), trivial⟩ (fun w hw => rn_load Try.isAgg52 rfl ((below_agree hw 0).cell (Nat.zero_le _) (cell_own (hS.at_ 2 rfl) rfl))) (at_top rfl)) ?_
 refine bl_cons 24 rfl (isV _) (stab_isV _) (rgV (li := [(82, _)]) rfl (w_free rfl) ⟨g_dep 22 (by kernel_rfl) (at_dep rfl rfl rfl), trivial⟩ (fun w hw => rn_indexA (j := 1) Try.underlying52 Try.sizeOf54 rfl rfl rfl (by omega) rfl) (at_top rfl)) ?_
 refine bl_cons 25 rfl (isV _) (stab_isV _) (rgV (li := [(83, _)]) rfl (w_free rfl) ⟨g_dep 23 (by kernel_rfl) (at_dep rfl rfl rfl), trivial⟩ (fun w hw => rn_loadA (vs := [_, _, _, _, _, _]) Try.isAgg54 Try.sizeOf54 rfl (CellsAt.agree (below_agree hw 0) (Nat.zero_le _) (by assumption))) (at_top rfl)) ?_
 refine bl_cons 26 rfl (isNew W5.heap.size (.one u m) (.one (combP u m x2 y2))) (stab_isNew) (rg_call [isV _, isV _, isV _] rfl goes_118 (w_free rfl) ⟨p_tmp (g_dep 16 (by kernel_rfl) (at_dep rfl rfl rfl)), p_tmp (g_dep 20 (by kernel_rfl) (at_dep rfl rfl rfl)), p_tmp (g_dep 24 (by kernel_rfl) (at_dep rfl rfl rfl)), trivial⟩ (fun vs w' hb hh => by have e := holds_isV (us := [_, _, _]) hh; subst e; exact wret_gives hb.size (combA_plain _ _ _ _ _ _ _ _ _ hp2 (hx2.below (hS.below.trans (hb.mono hS.below.size))) (hy2.below (hS.below.trans (hb.mono hS.below.size))) (ht.below (hS.below.trans (hb.mono hS.below.size))))) (at_top rfl)) ?_
 refine bl_cons 27 rfl (isNew W5.heap.size (.two t n u m) (.two (combP t n x1 y1) (combP u m x2 y2))) (stab_isNew) (rg_call [isNew _ (.one t n) (.one (combP t n x1 y1)), isNew _ (.one u m) (.one (combP u m x2 y2))] rfl goes_109 (w_free rfl) ⟨p_tmp (g_dep 12 (by kernel_rfl) (at_dep rfl rfl rfl)), p_tmp (g_dep 25 (by kernel_rfl) (at_dep rfl rfl rfl)), trivial⟩ (fun vs w' hb hh => pair_gives hb.size hh) (at_top rfl)) ?_
 refine bl_nil ?_
 intro W6 hbR hS'
 clear hS; have hS := hS'; clear hS'
 refine fin_v ?_
 refine fin_v ?_
 refine fin_v ?_
 refine fin_v ?_
 refine fin_v ?_
 refine fin_v ?_
 refine fin_v ?_
 refine fin_v ?_
 refine fin_v ?_
 refine fin_v ?_
 refine fin_v ?_
 refine fin_v ?_
 refine fin_p ?_; rintro _ ⟨v1, rfl, hn1⟩
 refine fin_v ?_
 refine fin_v ?_
 refine fin_v ?_
 refine fin_v ?_
 refine fin_v ?_
 refine fin_v ?_
 refine fin_v ?_
 refine fin_v ?_
 refine fin_v ?_
 refine fin_v ?_
 refine fin_v ?_
 refine fin_v ?_
 refine fin_p ?_; rintro _ ⟨v2, rfl, hn2⟩
 refine fin_p ?_; rintro _ ⟨v3, rfl, hn3⟩
 refine fin_nil ?_
 refine op_storeA (i := 0) (vs := [_, _, _, _, _, _]) (cs' := [_, _, _, _, _, _]) (O' := [_, _, _, _, _]) hS Try.sizeOf54 rfl rfl rfl rfl rfl rfl rfl ?_
 clear hS; intro W7 hS
 refine endF ?_
 refine XF.blkN ?_
 refine XF.thenN ?_
 refine seqF (regF ?_)
 refine op_loadA (vs := [_, _, _, _, _, _]) Try.isAgg54 Try.sizeOf54 rfl (CellsAt.own (j := 0) (m := 6) (hS.at_ 0 rfl) rfl) rfl ?_
 refine op_storeA (i := 1) (vs := [_, _, _, _, _, _]) (cs' := [_, _, _, _, _, _]) (O' := [_, _, _, _, _]) hS Try.sizeOf54 rfl rfl rfl rfl rfl rfl rfl ?_
 clear hS; intro W8 hS
 refine endF (XF.thenN ?_)
 refine retF ?_
 refine XF.res (resC1 (vs := [_, _, _, _, _, _]) Try.results118 Try.isAgg54 Try.sizeOf54 rfl (CellsAt.own (j := 0) (m := 6) (hS.at_ 1 rfl) rfl)) ?_
 exact ⟨v3, rfl, (hn3.agree (hS.since 0 rfl)).mono hsz, hS.below⟩
end Go.Proofs.Ytnhnedifekejpaa
namespace Go.Proofs.Ytnhnedifekejpaa
open Go.RowKit
attribute [local go_sem ↓] Go.wp_at_zero Go.wp_at_succ
theorem zeroA_lit (t n : Int) (a : Option Addr) (l c0 : Nat) (ht : t ≠ 5) (w : World) :
  Calls Try.prog 94 #[.agg #[.int .i64 t, .int .i64 n, .slice a l c0]] w fun e w' => e = .returned (.agg #[.bool true, .int .i64 0, .int .u64 0, .slice none 0 0, .slice none 0 0, .slice none 0 0]) ∧ Below w.heap.size w w' := zeroA_plain t n a l c0 ht w
theorem pair_zero (w : World) :
  Calls Try.prog 109 #[.agg #[.bool true, .int .i64 0, .int .u64 0, .slice none 0 0, .slice none 0 0, .slice none 0 0], .agg #[.bool true, .int .i64 0, .int .u64 0, .slice none 0 0, .slice none 0 0, .slice none 0 0]] w fun e w' => ∃ blk, e = .returned (.agg #[.bool false, .int .i64 0, .int .u64 0, .slice none 0 0, .slice none 0 0, .slice (some ⟨blk, 0, none⟩) 2 2]) ∧ W6 w' blk 0 zeroF ∧ W6 w' blk 6 zeroF ∧ w.heap.size ≤ blk ∧ Below w.heap.size w w' := pair_is zeroF zeroF w
set_option maxHeartbeats 8000000 in
theorem zeroA_pair (d : Nat) (sa : Option Addr) (sc : Nat) (p q : SV) (w : World) (hsp : SIn w (d + 1) (.mk ⟨5, 0, sa, 2, sc⟩ [p, q])) (hp : p.pl = true) (hq : q.pl = true) :
  Calls Try.prog 94 #[.agg #[.int .i64 5, .int .i64 0, .slice sa 2 sc]] w (WRet (.two p.f.tag p.f.dim q.f.tag q.f.dim) (.two zeroP zeroP) w) := by
 obtain ⟨_, b, off, ha, hb, hp3, hq3, _, _⟩ := hsp.two
 obtain rfl : sa = some ⟨b, off, none⟩ := ha
 obtain ⟨⟨pt, pn, pa, pl, pc⟩, pps⟩ := p
 obtain ⟨⟨qt, qn, qa, ql, qc⟩, qps⟩ := q
 have hp5 := Lib.hid (pl_pair (show plainB pt pn pl = true from hp)); have hq5 := Lib.hid (pl_pair (show plainB qt qn ql = true from hq))
 obtain ⟨t0, t1⟩ := two_boxes2 w #[.int .i64 5, .int .i64 0, .slice (some ⟨b, off, none⟩) 2 sc] #[.bool false, .int .i64 0, .int .u64 0, .slice none 0 0, .slice none 0 0, .slice none 0 0] 25 54
 have T0 := Lib.hid t0; have T1 := Lib.hid t1
 have hB := Lib.hid (wbox w #[.int .i64 5, .int .i64 0, .slice (some ⟨b, off, none⟩) 2 sc] #[.bool false, .int .i64 0, .int .u64 0, .slice none 0 0, .slice none 0 0, .slice none 0 0] 25 54)
 have hsz : ((w.alloc (.cells #[.int .i64 5, .int .i64 0, .slice (some ⟨b, off, none⟩) 2 sc] 25)).alloc (.cells #[.bool false, .int .i64 0, .int .u64 0, .slice none 0 0, .slice none 0 0, .slice none 0 0] 54)).heap.size = w.heap.size + 1 + 1 := by simp
 have n1 : ¬ (w.heap.size + 1 = w.heap.size) := by omega
 have n2 : ¬ (w.heap.size + 1 = b) := by omega
 obtain ⟨W0, hW0⟩ : ∃ W, (w.alloc (.cells #[.int .i64 5, .int .i64 0, .slice (some ⟨b, off, none⟩) 2 sc] 25)).alloc (.cells #[.bool false, .int .i64 0, .int .u64 0, .slice none 0 0, .slice none 0 0, .slice none 0 0] 54) = W := ⟨_, rfl⟩
 rw [hW0] at hB T0 T1 hsz
 have HSZ := Lib.hid hsz
 have HP3 := Lib.hid (S3.below hp3 hB.out); have HQ3 := Lib.hid (S3.below hq3 hB.out)
 obtain ⟨x0, x1, x2⟩ := tri_cells T0.out
 obtain ⟨y0, y1, y2, y3, y4, y5⟩ := six_cells T1.out
 have EN : Hid (∀ W : World, Below W0.heap.size W0 W → W.cell? ⟨w.heap.size, 2, none⟩ = some (.slice (some ⟨b, off, none⟩) 2 sc) ∧ W.cell? ⟨b, off, none⟩ = some (.int .i64 pt) ∧ W.cell? ⟨b, off + 1, none⟩ = some (.int .i64 pn) ∧ W.cell? ⟨b, off + 2, none⟩ = some (.slice pa pl pc) ∧ W.cell? ⟨b, off + 3, none⟩ = some (.int .i64 qt) ∧ W.cell? ⟨b, off + 4, none⟩ = some (.int .i64 qn) ∧ W.cell? ⟨b, off + 5, none⟩ = some (.slice qa ql qc)) := fun W h => by
  obtain ⟨a0, a1, a2⟩ := tri_cells (heap_old T0.out h)
  obtain ⟨d0, d1, d2⟩ := HP3.out.below h; obtain ⟨e0, e1, e2⟩ := HQ3.out.below h
  exact ⟨a2, d0, d1, d2, e0, e1, e2⟩
 obtain ⟨m0, m1, m2, m3, m4, m5, m6⟩ := EN.out _ (Below.refl _ _)
 clear hsp hp hq hp3 hq3 t0 t1 hsz hb
 have D0 : Hid (Below W0.heap.size W0 W0.drew) := (Below.refl _ _).drew
 go_enter Try.func94, Try.ntmps94
 go_wp2_with fail
 go_region_held3 (fun w' => w'.cell? ⟨w.heap.size, 2, none⟩ = some (.slice (some ⟨b, off, none⟩) 2 sc) ∧ w'.cell? ⟨b, off, none⟩ = some (.int .i64 pt) ∧ w'.cell? ⟨b, off + 1, none⟩ = some (.int .i64 pn) ∧ w'.cell? ⟨b, off + 2, none⟩ = some (.slice pa pl pc) ∧ w'.cell? ⟨b, off + 3, none⟩ = some (.int .i64 qt) ∧ w'.cell? ⟨b, off + 4, none⟩ = some (.int .i64 qn) ∧ w'.cell? ⟨b, off + 5, none⟩ = some (.slice qa ql qc))
  (first | (simp only [World.cell?_setCell_far, ne_eq, n1, n2, not_false_eq_true]; with_reducible exact EN.out _ D3.out) | with_reducible exact EN.out _ D0.out | with_reducible exact EN.out _ D1.out | with_reducible exact EN.out _ D2.out | with_reducible exact EN.out _ D3.out | with_reducible exact EN.out _ (Below.refl _ _) | fail)
  (first | (go_at_call 94; with_reducible refine (zeroA_lit pt pn pa pl pc hp5.out W0.drew).mono ?_; rintro e z1 ⟨rfl, hz1⟩; have D1 := Lib.hid (D0.out.trans (hz1.mono D0.out.size))) | (go_at_call 94; with_reducible refine (zeroA_lit qt qn qa ql qc hq5.out z1).mono ?_; rintro e z2 ⟨rfl, hz2⟩; have D2 := Lib.hid (D1.out.trans (hz2.mono D1.out.size))) | (go_at_call 109; with_reducible refine (pair_zero z2).mono ?_; rintro e z3 ⟨blk, rfl, hx6, hy6, hge, hz3⟩; have D3 := Lib.hid (D2.out.trans (hz3.mono D2.out.size)); have XO := Lib.hid (heap_old T1.out D3.out); obtain ⟨o0, o1, o2, o3, o4, o5⟩ := six_cells XO.out; have f0 := six_frozen XO.out 0; have f1 := six_frozen XO.out 1; have f2 := six_frozen XO.out 2; have f3 := six_frozen XO.out 3; have f4 := six_frozen XO.out 4; have f5 := six_frozen XO.out 5) | fail)
 all_goals
  have NS := Lib.hid (six_set (v0 := .bool false) (v1 := .int .i64 0) (v2 := .int .u64 0) (v3 := .slice none 0 0) (v4 := .slice none 0 0) (v5 := .slice (some ⟨blk, 0, none⟩) 2 2) XO.out)
  obtain ⟨s0, s1, s2, s3, s4, s5⟩ := six_cells NS.out
  have hle := D2.out.size
  have hge2 : w.heap.size + 1 + 1 ≤ blk := by have := HSZ.out; omega
  have HX6 := Lib.hid hx6; have HY6 := Lib.hid hy6
  have HB3 := Lib.hid (hB.out.trans (D3.out.mono hB.out.size))
  clear hx6 hy6 f0 f1 f2 f3 f4 f5 o0 o1 o2 o3 o4 o5
  go_wp2_with fail
  refine bodyPost_ret (v := .agg #[.bool false, .int .i64 0, .int .u64 0, .slice none 0 0, .slice none 0 0, .slice (some ⟨blk, 0, none⟩) 2 2]) ?_ rfl ⟨pairF blk, rfl, ?_, ?_⟩
  rotate_left
  ·exact (pair_new (HX6.out.above (n := w.heap.size + 1 + 1) hge2 (put6_above _ _ _ _ _ _ (Above.refl _ _) (by omega))) (HY6.out.above (n := w.heap.size + 1 + 1) hge2 (put6_above _ _ _ _ _ _ (Above.refl _ _) (by omega))) hge2 (zero_new _ _ _ _) (zero_new _ _ _ _)).mono (by omega)
  ·exact put6_below _ _ _ _ _ _ HB3.out (by omega)
  ·simp [results, Try.results94, go_sem, s0, s1, s2, s3, s4, s5]
end Go.Proofs.Ytnhnedifekejpaa
namespace Go.Proofs.Ytnhnedifekejpaa
open Go Go.RowKit
theorem PIs.pw {w : World} {t n : Int} {f : WF} {x : PF} (h : PIs w t n f x) : pwOk t n f = true := by
 obtain ⟨ez, ec, eg, er, ex⟩ := pf_inj h.pf
 have hrl := h.at_.rl; have hcl := h.at_.cl; have hpl := h.pl
 rw [er] at hrl; rw [ex] at hcl
 unfold pwOk bareB onlyB
 rw [ez, ec, eg, er, ex, hpl, ← hrl, ← hcl]
 cases h.ok with
 | zero => simp [zeroP]
 | bool ht => rw [ht]; simp [pC]
 | cost c ht h0 h1 => rw [ht]; simp [pC, h0, h1]
 | facts m g rows ht hn hg => rw [ht, hn]; simp [pF, good_check hg]
 | cells m cs ht hn hv => rw [ht, hn]; simp [pX, hv.chk]
theorem PIs.rl100 {w : World} {t n : Int} {f : WF} {x : PF} (h : PIs w t n f x) : f.rl ≤ 100 := by have := h.rows64 (l := 0); omega
theorem SIs.sin {w : World} {S : PS} {f : SF} (h : SIs w S f) (hok : S.ok) : ∃ s : SV, s.f = f ∧ SIn w 2 s ∧ spaceE s = 0 := by
 cases S with
 | one t n =>
  obtain ⟨a, c, rfl⟩ := h
  exact ⟨.mk ⟨t, n, a, 0, c⟩ [], rfl, ⟨rfl, .inl rfl, by simp⟩, by
   show (if plainB t n 0 = true then (0 : Int) else _) = 0
   rw [if_pos (show plainB t n 0 = true from hok)]⟩
 | two t n u m =>
  obtain ⟨b, off, c, a1, c1, a2, c2, rfl, h1, h2⟩ := h
  refine ⟨.mk ⟨5, 0, some ⟨b, off, none⟩, 2, c⟩ [.mk ⟨t, n, a1, 0, c1⟩ [], .mk ⟨u, m, a2, 0, c2⟩ []], rfl, ⟨rfl, .inr ⟨b, off, rfl, fun i p hi => ?_⟩, ?_⟩, ?_⟩
  ·match i, hi with
   | 0, hi => simp at hi; subst hi; simpa [SV.f] using h1
   | 1, hi => simp at hi; subst hi; simpa [SV.f] using h2
  ·intro p hp
   simp at hp
   rcases hp with rfl | rfl <;> exact ⟨rfl, .inl rfl, by simp⟩
  ·have e1 : SV.pl (.mk ⟨t, n, a1, 0, c1⟩ []) = true := hok.1
   have e2 : SV.pl (.mk ⟨u, m, a2, 0, c2⟩ []) = true := hok.2
   simp only [spaceE]
   rw [if_neg (by simp [plainB]), if_pos ⟨trivial, trivial, rfl, by simp [e1, e2]⟩]
theorem XIs.two {w : World} {t n u m : Int} {f : WF} {a b : PF} (h : XIs w (.two t n u m) f (.two a b)) : ∃ (ra ca : Option Addr) (rc cc pc fb fo : Nat) (f1 f2 : WF), f = ⟨false, 0, 0, ra, 0, rc, [], ca, 0, cc, [], some ⟨fb, fo, none⟩, 2, pc⟩ ∧ W6 w fb fo f1 ∧ W6 w fb (fo + 6) f2 ∧ PIs w t n f1 a ∧ PIs w u m f2 b := by
 obtain ⟨h1, h2, h3, h4, blk, off, g, k, h5, h6, h7, h8, h9⟩ := h
 obtain ⟨z, c, gg, ra, rl, rc, rows, ca, cl, cc, cells, pa, pl, pc⟩ := f
 simp only [WF.pf, pC, PF.mk.injEq] at h1
 obtain ⟨rfl, rfl, rfl, rfl, rfl⟩ := h1
 dsimp only at h2 h3 h4 h5
 subst h2; subst h3; subst h4; subst h5
 exact ⟨ra, ca, rc, cc, pc, blk, off, g, k, rfl, h6, h7, h8, h9⟩
theorem two_win {w : World} {t n u m : Int} {ra ca : Option Addr} {rc cc pc fb fo : Nat} {f1 f2 : WF} {a b : PF} (h6 : W6 w fb fo f1) (h7 : W6 w fb (fo + 6) f2) (h8 : PIs w t n f1 a) (h9 : PIs w u m f2 b) :
  WIn w 2 (.mk ⟨false, 0, 0, ra, 0, rc, [], ca, 0, cc, [], some ⟨fb, fo, none⟩, 2, pc⟩ [.mk f1 [], .mk f2 []]) := by
 refine ⟨⟨.inl rfl, rfl, (by show (0 : Nat) < _; decide), (fun r hr => by cases hr), .inl rfl, rfl, (fun c hc => by cases hc), (by show (0 : Nat) ≤ _; decide)⟩, rfl, .inr ⟨fb, fo, rfl, fun i p hi => ?_⟩, fun p hp => ?_⟩
 ·match i, hi with
  | 0, hi => simp at hi; subst hi; simpa [WV.f] using h6
  | 1, hi => simp at hi; subst hi; simpa [WV.f] using h7
 ·simp at hp
  rcases hp with rfl | rfl
  ·exact ⟨h8.at_, h8.pl.symm, .inl rfl, by simp⟩
  ·exact ⟨h9.at_, h9.pl.symm, .inl rfl, by simp⟩
theorem two_pairOk {w : World} {t n u m : Int} {ra ca : Option Addr} {a1 a2 : Option Addr} {c1 c2 rc cc pc fb fo : Nat} {f1 f2 : WF} {a b : PF} (h8 : PIs w t n f1 a) (h9 : PIs w u m f2 b) :
  pairOk (.mk ⟨t, n, a1, 0, c1⟩ []) (.mk ⟨u, m, a2, 0, c2⟩ []) ⟨false, 0, 0, ra, 0, rc, [], ca, 0, cc, [], some ⟨fb, fo, none⟩, 2, pc⟩ [.mk f1 [], .mk f2 []] = true := by
 have e1 : pwOk t n f1 = true := h8.pw
 have e2 : pwOk u m f2 = true := h9.pw
 simp [pairOk, bareB, onlyB, pwAt, SV.f, WV.f, e1, e2]
section
variable {w : World} {S : PS} {sf : SF} {f g : WF} {x y : PX}
theorem sin_two {t n u m : Int} {b off sc : Nat} {a1 a2 : Option Addr} {c1 c2 : Nat} (h1 : S3 w b off ⟨t, n, a1, 0, c1⟩) (h2 : S3 w b (off + 3) ⟨u, m, a2, 0, c2⟩) : SIn w 2 (.mk ⟨5, 0, some ⟨b, off, none⟩, 2, sc⟩ [.mk ⟨t, n, a1, 0, c1⟩ [], .mk ⟨u, m, a2, 0, c2⟩ []]) := by
 refine ⟨rfl, .inr ⟨b, off, rfl, fun i p hi => ?_⟩, ?_⟩
 ·match i, hi with
  | 0, hi => simp at hi; subst hi; simpa [SV.f] using h1
  | 1, hi => simp at hi; subst hi; simpa [SV.f] using h2
 ·intro p hp
  simp at hp
  rcases hp with rfl | rfl <;> exact ⟨rfl, .inl rfl, by simp⟩
theorem isA_ok (hs : SIs w S sf) (hok : S.ok) (hx : XIs w S f x) : Calls Try.prog 108 #[sf.val, f.val] w fun e w' => e = .returned (.bool true) ∧ Below w.heap.size w w' := by
 cases S <;> cases x <;> first | exact hx.elim | skip
 ·obtain ⟨a, c, rfl⟩ := hs
  exact isA_plain _ _ _ _ _ _ hok (PIs.rl100 hx) w (PIs.at_ hx) true (PIs.pw hx)
 ·obtain ⟨b, off, c, a1, c1, a2, c2, rfl, h1, h2⟩ := hs
  obtain ⟨ra, ca, rc, cc, pc, fb, fo, f1, f2, rfl, h6, h7, h8, h9⟩ := hx.two
  exact isA_pair 1 _ _ _ _ _ _ w (sin_two h1 h2) hok.1 hok.2 1 (two_win h6 h7 h8 h9) (by intro p hp; simp at hp; rcases hp with rfl | rfl <;> first | exact h8.rl100 | exact h9.rl100) true (two_pairOk h8 h9)
theorem spaceA_ok (hs : SIs w S sf) (hok : S.ok) : Calls Try.prog 67 #[sf.val] w fun e w' => e = .returned (.int .i64 0) ∧ Below w.heap.size w w' := by
 obtain ⟨s, rfl, h1, h2⟩ := hs.sin hok
 exact spaceA_is 2 s 0 w h1 h2
theorem oneA_ok (hs : SIs w S sf) (hok : S.ok) : Calls Try.prog 111 #[sf.val] w (WRet S (oneX S) w) := by
 cases S with
 | one t n =>
  obtain ⟨a, c, rfl⟩ := hs
  exact oneA_plain _ _ _ _ _ hok
 | two t n u m =>
  obtain ⟨b, off, c, a1, c1, a2, c2, rfl, h1, h2⟩ := hs
  exact oneA_pair _ _ _ _ _ _ _ _ _ _ _ _ h1 h2 hok.1 hok.2
theorem zeroA_ok (hs : SIs w S sf) (hok : S.ok) : Calls Try.prog 94 #[sf.val] w (WRet S (zeroX S) w) := by
 cases S with
 | one t n =>
  obtain ⟨a, c, rfl⟩ := hs
  refine (zeroA_plain t n a 0 c (pl_pair hok) w).mono ?_
  rintro e w' ⟨rfl, hb⟩
  exact ⟨zeroF, rfl, zero_new _ _ _ _, hb⟩
 | two t n u m =>
  obtain ⟨b, off, c, a1, c1, a2, c2, rfl, h1, h2⟩ := hs
  exact zeroA_pair 1 _ _ _ _ w (sin_two h1 h2) hok.1 hok.2
end
end Go.Proofs.Ytnhnedifekejpaa
namespace Go.Proofs.Ytnhnedifekejpaa
open Go Go.RowKit
section
variable {w : World} {S : PS} {sf : SF} {f g : WF} {x y : PX}
theorem wComb_is (hs : SIs w S sf) (hok : S.ok) (hx : XIs w S f x) (hy : XIs w S g y) (ht : Tabs w) : Calls Try.prog 118 #[sf.val, f.val, g.val] w (WRet S (combX S x y) w) := by
 cases S <;> cases x <;> cases y <;> first | exact hx.elim | exact hy.elim | skip
 ·obtain ⟨a, c, rfl⟩ := hs
  exact combA_plain _ _ _ _ _ _ _ _ _ hok hx hy ht
 ·obtain ⟨b, off, c, a1, c1, a2, c2, rfl, h1, h2⟩ := hs
  obtain ⟨ra, ca, rc, cc, pc, fb, fo, f1, f2, rfl, h6, h7, h8, h9⟩ := hx.two
  obtain ⟨ra', ca', rc', cc', pc', gb, go, g1, g2, rfl, h6', h7', h8', h9'⟩ := hy.two
  exact combA_pair _ _ _ _ _ _ _ _ _ _ _ _ h1 h2 hok.1 hok.2 _ _ _ _ _ _ _ _ _ _ _ h6 h7 h8 h9 _ _ _ _ _ _ _ _ _ _ _ h6' h7' h8' h9' ht
end
def FRow (w : World) (a : Option Addr) (fs : List WF) : Prop := fs = [] ∨ ∃ b off, a = some ⟨b, off, none⟩ ∧ ∀ (i : Nat) f, fs[i]? = some f → W6 w b (off + i * 6) f
theorem FRow.at_ {w : World} {a : Option Addr} {fs : List WF} (h : FRow w a fs) {i : Nat} {f : WF} (hi : fs[i]? = some f) : ∃ b off, a = some ⟨b, off, none⟩ ∧ W6 w b (off + i * 6) f := by
 rcases h with rfl | ⟨b, off, ha, hc⟩
 ·simp at hi
 ·exact ⟨b, off, ha, hc i f hi⟩
def XL (w : World) (S : PS) (fs : List WF) (xs : List PX) : Prop := fs.length = xs.length ∧ ∀ (i : Nat) f x, fs[i]? = some f → xs[i]? = some x → XIs w S f x
theorem XL.at_ {w : World} {S : PS} {fs : List WF} {xs : List PX} (h : XL w S fs xs) {k : Nat} (hk : k < fs.length) : ∃ f x, fs[k]? = some f ∧ xs[k]? = some x ∧ XIs w S f x :=
 ⟨fs[k], xs[k]'(by have := h.1; omega), by simp [hk], by have := h.1; simp [show k < xs.length by omega], h.2 k _ _ (by simp [hk]) (by have := h.1; simp [show k < xs.length by omega])⟩
def WRet2 (S : PS) (x : PX) (e0 : Int) (w : World) (e : Ending) (w' : World) : Prop := ∃ f : WF, e = .returned (.tuple #[f.val, .int .i64 e0]) ∧ XNew w.heap.size w' S f x ∧ Below w.heap.size w w'
theorem take_fold {α β : Type} {f : β → α → β} {b : β} {xs : List α} {k : Nat} {x : α} (h : xs[k]? = some x) : (xs.take (k + 1)).foldl f b = f ((xs.take k).foldl f b) x := by
 rw [List.take_add_one, h]; simp [List.foldl_append]
theorem FRow.below {w w' : World} {a : Option Addr} {fs : List WF} (h : FRow w a fs) (hb : Below w.heap.size w w') : FRow w' a fs := by
 rcases h with h | ⟨b, off, rfl, hc⟩
 ·exact .inl h
 ·exact .inr ⟨b, off, rfl, fun i f hi => (hc i f hi).below hb⟩
theorem XL.below {w w' : World} {S : PS} {fs : List WF} {xs : List PX} (h : XL w S fs xs) (hb : Below w.heap.size w w') : XL w' S fs xs := ⟨h.1, fun i f x hf hx => (h.2 i f x hf hx).below hb⟩
theorem checkAllW_ok (S : PS) (sf : SF) (w : World) (hs : SIs w S sf) (hok : S.ok) (a : Option Addr) (c m : Nat) (fs : List WF) (xs : List PX) (hr : FRow w a fs) (hx : XL w S fs xs) (hm : fs.length = m) (hmx : m ≤ 9223372036854775807) :
  Calls Try.prog 93 #[sf.val, .slice a m c] w (fun e w' => e = .returned (.int .i64 0) ∧ Below w.heap.size w w') := by
 refine enterF (args := [sf.val, .slice a m c]) Try.func93 rfl Try.ntmps93 rfl ?_
 have hS := St.start w
 refine seqF (regF ?_)
 refine op_box (cs := [_, _, _]) hS rfl rfl rfl ?_
 clear hS; intro B1 W1 hS
 refine op_assign rfl rfl ?_
 refine endF (XF.thenN ?_)
 refine seqF ?_
 refine seqF (regF ?_)
 refine op_loadA (vs := [_, _, _]) Try.isAgg25 Try.sizeOf25 rfl (CellsAt.own (j := 0) (m := 3) (hS.at_ 0 rfl) rfl) rfl ?_
 refine op_call (vs := [_]) hS goes_67 rfl (spaceA_ok (hs.below hS.below) hok) rfl ?_
 rintro e W2 ⟨rfl, hb⟩
 refine ⟨_, rfl, hb, fun hS' => ?_⟩
 clear hS; have hS := hS'; clear hS' hb
 refine op_assign rfl rfl ?_
 refine endF (XF.thenN ?_)
 refine seqF (regF ?_)
 refine op_move rfl rfl ?_
 refine op_neq rfl rfl rfl ?_
 refine endF (XF.thenN ?_)
 refine condF rfl (fun hc => absurd (of_decide_eq_true hc) (by omega)) (fun hc => ?_)
 have hc := of_decide_eq_false hc
 refine skipF ?_
 refine XF.thenN ?_
 refine seqF ?_
 refine seqF (regF ?_)
 refine op_move rfl rfl ?_
 refine op_len Try.underlying52 rfl rfl ?_
 refine op_move rfl rfl ?_
 refine endF (XF.thenN ?_)
 refine blockF ?_
 refine loopF (fun q l W => ∃ k : Nat, k ≤ m ∧ q = m - k ∧ l = [(2, .pointer (some ⟨B1, 0, none⟩)), (13, .slice a m c), (14, .int .i64 (m : Int)), (15, .int .i64 (k : Int))] ∧ St w [(B1, [.int .i64 sf.tag, .int .i64 sf.dim, .slice sf.a sf.len sf.cap], 25)] [] [] W) (m - 0) ([(2, _), (13, _), (14, _), (15, _)]) ⟨rfl, rfl, rfl, rfl, trivial⟩ (⟨0, Nat.zero_le _, rfl, rfl, hS.clear⟩) ?_
 clear hS
 rintro q l W ⟨k, hkm, rfl, rfl, hS⟩
 refine seqF (regF ?_)
 refine op_lss rfl rfl rfl ?_
 refine endF (XF.thenN ?_)
 refine seqF ?_
 refine condF rfl (fun hc => ?_) (fun hc => ?_)
 ·have hc16 := of_decide_eq_true hc; clear hc
  have hk : k < m := by omega
  obtain ⟨f, x, hf, hxk, hxx⟩ := hx.at_ (k := k) (by omega)
  obtain ⟨b, off, rfl, h6⟩ := hr.at_ hf
  have k1 := CellsAt.agree hS.agree (Nat.zero_le _) h6.cells
  refine skipF ?_
  refine XF.thenN ?_
  refine seqF ?_
  refine blockF ?_
  refine seqF (regF ?_)
  refine op_indexA  Try.underlying52 Try.sizeOf54 rfl rfl rfl (by omega) rfl rfl ?_
  refine op_loadA (vs := [_, _, _, _, _, _]) Try.isAgg54 Try.sizeOf54 rfl (by assumption) rfl ?_
  refine op_alloc (cs := [_, _, _, _, _, _]) hS Try.zeroValue54 rfl rfl ?_
  clear hS; intro B3 W3 hS
  refine op_storeA (i := 0) (vs := [_, _, _, _, _, _]) (cs' := [_, _, _, _, _, _]) (O' := [_, _]) hS Try.sizeOf54 rfl rfl rfl rfl rfl rfl rfl ?_
  clear hS; intro W4 hS
  refine endF (XF.thenN ?_)
  refine seqF (regF ?_)
  refine op_loadA (vs := [_, _, _]) Try.isAgg25 Try.sizeOf25 rfl (CellsAt.own (j := 0) (m := 3) (hS.at_ 1 rfl) rfl) rfl ?_
  refine op_loadA (vs := [_, _, _, _, _, _]) Try.isAgg54 Try.sizeOf54 rfl (CellsAt.own (j := 0) (m := 6) (hS.at_ 0 rfl) rfl) rfl ?_
  refine op_call (vs := [_, _]) hS goes_108 rfl (isA_ok (hs.below hS.below) hok (hxx.below hS.below)) rfl ?_
  rintro e W5 ⟨rfl, hb⟩
  refine ⟨_, rfl, hb, fun hS' => ?_⟩
  clear hS; have hS := hS'; clear hS' hb
  refine op_not rfl rfl ?_
  refine endF (XF.thenN ?_)
  refine condN rfl ?_
  refine skipF ?_
  refine XF.blkN ?_
  refine XF.thenN ?_
  refine regF ?_
  refine op_add rfl rfl (IntWalk.i64_in _ (by omega)) rfl ?_
  refine op_move rfl rfl ?_
  refine endF ?_
  exact XF.round (m - (k + 1)) [(2, _), (13, _), (14, _), (15, _)] (by omega) ⟨rfl, rfl, rfl, rfl, trivial⟩ ⟨k + 1, by omega, rfl, rfl, hS.tail.clear⟩
 ·have hc16 := of_decide_eq_false hc; clear hc
  refine exitF ?_
  refine XF.thenX ?_
  refine XF.thenX ?_
  refine XF.blkX ?_
  refine XF.thenN ?_
  refine seqF (regF ?_)
  refine op_assign rfl rfl ?_
  refine endF (XF.thenN ?_)
  refine retF ?_
  refine XF.res (res1 Try.results93 rfl) ?_
  exact ⟨rfl, hS.below⟩
theorem CombineW_ok (S : PS) (sf : SF) (w : World) (hs : SIs w S sf) (hok : S.ok) (a : Option Addr) (c m : Nat) (fs : List WF) (xs : List PX) (hr : FRow w a fs) (hx : XL w S fs xs) (hm : fs.length = m) (hmx : m ≤ 9223372036854775807) (ht : Tabs w) :
  Calls Try.prog 110 #[sf.val, .slice a m c] w (WRet2 S (xs.foldl (combX S) (zeroX S)) 0 w) := by
 refine enterF (args := [sf.val, .slice a m c]) Try.func110 rfl Try.ntmps110 rfl ?_
 have hS := St.start w
 refine seqF (regF ?_)
 refine op_box (cs := [_, _, _]) hS rfl rfl rfl ?_
 clear hS; intro B1 W1 hS
 refine op_alloc (cs := [_, _, _, _, _, _]) hS Try.zeroValue54 rfl rfl ?_
 clear hS; intro B2 W2 hS
 refine op_assign rfl rfl ?_
 refine endF (XF.thenN ?_)
 refine seqF ?_
 refine seqF (regF ?_)
 refine op_loadA (vs := [_, _, _]) Try.isAgg25 Try.sizeOf25 rfl (CellsAt.own (j := 0) (m := 3) (hS.at_ 1 rfl) rfl) rfl ?_
 refine op_move rfl rfl ?_
 refine op_call (vs := [_, _]) hS goes_93 rfl (checkAllW_ok S sf _ (hs.below hS.below) hok a c m fs xs (hr.below hS.below) (hx.below hS.below) hm hmx) rfl ?_
 rintro e W3 ⟨rfl, hb⟩
 refine ⟨_, rfl, hb, fun hS' => ?_⟩
 clear hS; have hS := hS'; clear hS' hb
 refine op_assign rfl rfl ?_
 refine endF (XF.thenN ?_)
 refine seqF (regF ?_)
 refine op_move rfl rfl ?_
 refine op_neq rfl rfl rfl ?_
 refine endF (XF.thenN ?_)
 refine condF rfl (fun hc => absurd (of_decide_eq_true hc) (by omega)) (fun hc => ?_)
 have hc := of_decide_eq_false hc
 refine skipF ?_
 refine XF.thenN ?_
 refine seqF (regF ?_)
 refine op_loadA (vs := [_, _, _]) Try.isAgg25 Try.sizeOf25 rfl (CellsAt.own (j := 0) (m := 3) (hS.at_ 1 rfl) rfl) rfl ?_
 have hsz := hS.below.size
 refine op_call (vs := [_]) hS goes_94 rfl (zeroA_ok (hs.below hS.below) hok) rfl ?_
 rintro e W4 ⟨f0, rfl, hn, hb⟩
 refine ⟨_, rfl, hb, fun hS' => ?_⟩
 clear hS; have hS := hS'; clear hS'
 refine op_alloc (cs := [_, _, _, _, _, _]) hS Try.zeroValue54 rfl rfl ?_
 clear hS; intro B5 W5 hS
 refine op_storeA (i := 0) (vs := [_, _, _, _, _, _]) (cs' := [_, _, _, _, _, _]) (O' := [_, _, _]) hS Try.sizeOf54 rfl rfl rfl rfl rfl rfl rfl ?_
 clear hS; intro W6 hS
 refine endF (XF.thenN ?_)
 refine seqF ?_
 refine seqF (regF ?_)
 refine op_move rfl rfl ?_
 refine op_len Try.underlying52 rfl rfl ?_
 refine op_move rfl rfl ?_
 refine endF (XF.thenN ?_)
 refine blockF ?_
 refine loopF (fun q l W => ∃ (k : Nat) (f0 : WF) (lo : Nat) (A : World), k ≤ m ∧ q = m - k ∧ l = [(2, .pointer (some ⟨B1, 0, none⟩)), (4, .pointer (some ⟨B2, 0, none⟩)), (7, .pointer (some ⟨B5, 0, none⟩)), (19, .slice a m c), (20, .int .i64 (m : Int)), (21, .int .i64 (k : Int))] ∧ w.heap.size ≤ lo ∧ XNew lo A S f0 ((xs.take k).foldl (combX S) (zeroX S)) ∧ St w [(B5, f0.six, 54), (B2, [.bool false, .int .i64 0, .int .u64 0, .slice none 0 0, .slice none 0 0, .slice none 0 0], 54), (B1, [.int .i64 sf.tag, .int .i64 sf.dim, .slice sf.a sf.len sf.cap], 25)] [] [(lo, A)] W) (m - 0) ([(2, _), (4, _), (7, _), (19, _), (20, _), (21, _)]) ⟨rfl, rfl, rfl, rfl, rfl, rfl, trivial⟩ (⟨0, f0, _, _, Nat.zero_le _, rfl, rfl, hsz, hn, hS.keep [_] (fun q hq => by simp at hq; subst hq; exact List.mem_cons_self)⟩) ?_
 clear hS
 rintro q l W ⟨k, f0, lo, A, hkm, rfl, rfl, hlo, hn0, hS⟩
 refine seqF (regF ?_)
 refine op_lss rfl rfl rfl ?_
 refine endF (XF.thenN ?_)
 refine seqF ?_
 refine condF rfl (fun hc => ?_) (fun hc => ?_)
 ·have hc22 := of_decide_eq_true hc; clear hc
  have hk : k < m := by omega
  obtain ⟨f, x, hf, hxk, hxx⟩ := hx.at_ (k := k) (by omega)
  obtain ⟨b, off, rfl, h6⟩ := hr.at_ hf
  have k1 := CellsAt.agree hS.agree (Nat.zero_le _) h6.cells
  refine skipF ?_
  refine XF.thenN ?_
  refine seqF ?_
  refine blockF ?_
  refine seqF (regF ?_)
  refine op_indexA  Try.underlying52 Try.sizeOf54 rfl rfl rfl (by omega) rfl rfl ?_
  refine op_loadA (vs := [_, _, _, _, _, _]) Try.isAgg54 Try.sizeOf54 rfl (by assumption) rfl ?_
  refine op_alloc (cs := [_, _, _, _, _, _]) hS Try.zeroValue54 rfl rfl ?_
  clear hS; intro B7 W7 hS
  refine op_storeA (i := 0) (vs := [_, _, _, _, _, _]) (cs' := [_, _, _, _, _, _]) (O' := [_, _, _, _]) hS Try.sizeOf54 rfl rfl rfl rfl rfl rfl rfl ?_
  clear hS; intro W8 hS
  refine endF (XF.thenN ?_)
  refine regF ?_
  refine op_loadA (vs := [_, _, _]) Try.isAgg25 Try.sizeOf25 rfl (CellsAt.own (j := 0) (m := 3) (hS.at_ 3 rfl) rfl) rfl ?_
  refine op_loadA (vs := [_, _, _, _, _, _]) Try.isAgg54 Try.sizeOf54 rfl (CellsAt.own (j := 0) (m := 6) (hS.at_ 1 rfl) rfl) rfl ?_
  refine op_loadA (vs := [_, _, _, _, _, _]) Try.isAgg54 Try.sizeOf54 rfl (CellsAt.own (j := 0) (m := 6) (hS.at_ 0 rfl) rfl) rfl ?_
  have hsz2 := hS.below.size
  have hb0 := hS.below
  refine op_call (vs := [_, _, _]) hS goes_118 rfl (wComb_is (hs.below hS.below) hok ((hn0.agree (hS.since 0 rfl)).is) (hxx.below hS.below) (ht.below hS.below)) rfl ?_
  rintro e W9 ⟨f2, rfl, hn2, hb⟩
  refine ⟨_, rfl, hb, fun hS' => ?_⟩
  clear hS; have hS := hS'; clear hS'
  refine op_storeA (i := 1) (vs := [_, _, _, _, _, _]) (cs' := [_, _, _, _, _, _]) (O' := [_, _, _, _]) hS Try.sizeOf54 rfl rfl rfl rfl rfl rfl rfl ?_
  clear hS; intro W10 hS
  refine endF ?_
  refine XF.blkN ?_
  refine XF.thenN ?_
  refine regF ?_
  refine op_add rfl rfl (IntWalk.i64_in _ (by omega)) rfl ?_
  refine op_move rfl rfl ?_
  refine endF ?_
  exact XF.round (m - (k + 1)) [(2, _), (4, _), (7, _), (19, _), (20, _), (21, _)] (by omega) ⟨rfl, rfl, rfl, rfl, rfl, rfl, trivial⟩ ⟨k + 1, f2, _, _, by omega, rfl, rfl, hsz2, by rw [take_fold hxk]; exact hn2, hS.tail.keep [_] (fun q hq => by simp at hq; subst hq; exact List.mem_cons_self)⟩
 ·have hc22 := of_decide_eq_false hc; clear hc
  refine exitF ?_
  refine XF.thenX ?_
  refine XF.thenX ?_
  refine XF.blkX ?_
  refine XF.thenN ?_
  refine seqF (regF ?_)
  refine op_loadA (vs := [_, _, _, _, _, _]) Try.isAgg54 Try.sizeOf54 rfl (CellsAt.own (j := 0) (m := 6) (hS.at_ 0 rfl) rfl) rfl ?_
  refine op_storeA (i := 1) (vs := [_, _, _, _, _, _]) (cs' := [_, _, _, _, _, _]) (O' := [_, _, _]) hS Try.sizeOf54 rfl rfl rfl rfl rfl rfl rfl ?_
  clear hS; intro W11 hS
  refine op_assign rfl rfl ?_
  refine endF (XF.thenN ?_)
  refine retF ?_
  refine XF.res (resCT (vs := [_, _, _, _, _, _]) Try.results110 Try.isAgg54 Try.sizeOf54 rfl (CellsAt.own (j := 0) (m := 6) (hS.at_ 1 rfl) rfl) rfl) ?_
  have e1 : xs.take k = xs := List.take_of_length_le (by have := hx.1; omega)
  rw [e1] at hn0
  exact ⟨f0, rfl, (hn0.agree (hS.since 0 rfl)).mono hlo, hS.below⟩
end Go.Proofs.Ytnhnedifekejpaa
namespace Go.Proofs.Ytnhnedifekejpaa
open Go Go.RowKit
theorem OneW_ok (S : PS) (sf : SF) (w : World) (hs : SIs w S sf) (hok : S.ok) :
  Calls Try.prog 96 #[sf.val] w (WRet2 S (oneX S) 0 w) := by
 refine enterF (args := [sf.val]) Try.func96 rfl Try.ntmps96 rfl ?_
 have hS := St.start w
 refine seqF (regF ?_)
 refine op_box (cs := [_, _, _]) hS rfl rfl rfl ?_
 clear hS; intro B1 W1 hS
 refine op_alloc (cs := [_, _, _, _, _, _]) hS Try.zeroValue54 rfl rfl ?_
 clear hS; intro B2 W2 hS
 refine op_assign rfl rfl ?_
 refine endF (XF.thenN ?_)
 refine seqF ?_
 refine seqF (regF ?_)
 refine op_loadA (vs := [_, _, _]) Try.isAgg25 Try.sizeOf25 rfl (CellsAt.own (j := 0) (m := 3) (hS.at_ 1 rfl) rfl) rfl ?_
 refine op_call (vs := [_]) hS goes_67 rfl (spaceA_ok (hs.below hS.below) hok) rfl ?_
 rintro e W3 ⟨rfl, hb⟩
 refine ⟨_, rfl, hb, fun hS' => ?_⟩
 clear hS; have hS := hS'; clear hS' hb
 refine op_assign rfl rfl ?_
 refine endF (XF.thenN ?_)
 refine seqF (regF ?_)
 refine op_move rfl rfl ?_
 refine op_neq rfl rfl rfl ?_
 refine endF (XF.thenN ?_)
 refine condF rfl (fun hc => absurd (of_decide_eq_true hc) (by omega)) (fun hc => ?_)
 have hc := of_decide_eq_false hc
 refine skipF ?_
 refine XF.thenN ?_
 refine seqF (regF ?_)
 refine op_loadA (vs := [_, _, _]) Try.isAgg25 Try.sizeOf25 rfl (CellsAt.own (j := 0) (m := 3) (hS.at_ 1 rfl) rfl) rfl ?_
 have hsz := hS.below.size
 refine op_call (vs := [_]) hS goes_111 rfl (oneA_ok (hs.below hS.below) hok) rfl ?_
 rintro e W4 ⟨f, rfl, hn, hb⟩
 refine ⟨_, rfl, hb, fun hS' => ?_⟩
 clear hS; have hS := hS'; clear hS'
 refine op_storeA (i := 0) (vs := [_, _, _, _, _, _]) (cs' := [_, _, _, _, _, _]) (O' := [_, _]) hS Try.sizeOf54 rfl rfl rfl rfl rfl rfl rfl ?_
 clear hS; intro W5 hS
 refine op_assign rfl rfl ?_
 refine endF (XF.thenN ?_)
 refine retF ?_
 refine XF.res (resCT (vs := [_, _, _, _, _, _]) Try.results96 Try.isAgg54 Try.sizeOf54 rfl (CellsAt.own (j := 0) (m := 6) (hS.at_ 0 rfl) rfl) rfl) ?_
 exact ⟨f, rfl, (hn.agree (hS.since 0 rfl)).mono hsz, hS.below⟩
theorem ZeroW_ok (S : PS) (sf : SF) (w : World) (hs : SIs w S sf) (hok : S.ok) :
  Calls Try.prog 72 #[sf.val] w (WRet2 S (zeroX S) 0 w) := by
 refine enterF (args := [sf.val]) Try.func72 rfl Try.ntmps72 rfl ?_
 have hS := St.start w
 refine seqF (regF ?_)
 refine op_box (cs := [_, _, _]) hS rfl rfl rfl ?_
 clear hS; intro B1 W1 hS
 refine op_alloc (cs := [_, _, _, _, _, _]) hS Try.zeroValue54 rfl rfl ?_
 clear hS; intro B2 W2 hS
 refine op_assign rfl rfl ?_
 refine endF (XF.thenN ?_)
 refine seqF ?_
 refine seqF (regF ?_)
 refine op_loadA (vs := [_, _, _]) Try.isAgg25 Try.sizeOf25 rfl (CellsAt.own (j := 0) (m := 3) (hS.at_ 1 rfl) rfl) rfl ?_
 refine op_call (vs := [_]) hS goes_67 rfl (spaceA_ok (hs.below hS.below) hok) rfl ?_
 rintro e W3 ⟨rfl, hb⟩
 refine ⟨_, rfl, hb, fun hS' => ?_⟩
 clear hS; have hS := hS'; clear hS' hb
 refine op_assign rfl rfl ?_
 refine endF (XF.thenN ?_)
 refine seqF (regF ?_)
 refine op_move rfl rfl ?_
 refine op_neq rfl rfl rfl ?_
 refine endF (XF.thenN ?_)
 refine condF rfl (fun hc => absurd (of_decide_eq_true hc) (by omega)) (fun hc => ?_)
 have hc := of_decide_eq_false hc
 refine skipF ?_
 refine XF.thenN ?_
 refine seqF (regF ?_)
 refine op_loadA (vs := [_, _, _]) Try.isAgg25 Try.sizeOf25 rfl (CellsAt.own (j := 0) (m := 3) (hS.at_ 1 rfl) rfl) rfl ?_
 have hsz := hS.below.size
 refine op_call (vs := [_]) hS goes_94 rfl (zeroA_ok (hs.below hS.below) hok) rfl ?_
 rintro e W4 ⟨f, rfl, hn, hb⟩
 refine ⟨_, rfl, hb, fun hS' => ?_⟩
 clear hS; have hS := hS'; clear hS'
 refine op_storeA (i := 0) (vs := [_, _, _, _, _, _]) (cs' := [_, _, _, _, _, _]) (O' := [_, _]) hS Try.sizeOf54 rfl rfl rfl rfl rfl rfl rfl ?_
 clear hS; intro W5 hS
 refine op_assign rfl rfl ?_
 refine endF (XF.thenN ?_)
 refine retF ?_
 refine XF.res (resCT (vs := [_, _, _, _, _, _]) Try.results72 Try.isAgg54 Try.sizeOf54 rfl (CellsAt.own (j := 0) (m := 6) (hS.at_ 0 rfl) rfl) rfl) ?_
 exact ⟨f, rfl, (hn.agree (hS.since 0 rfl)).mono hsz, hS.below⟩
end Go.Proofs.Ytnhnedifekejpaa
namespace Go.Proofs.Ytnhnedifekejpaa
open Go Go.RowKit
def smS : Nat → SV → Bool
 | 0, _ => false
 | k + 1, .mk f ps => decide (f.len ≤ 3) && ps.all (smS k)
theorem all_false_at {α : Type} {l : List α} {q : α → Bool} {i : Nat} {x : α} (h : l[i]? = some x) (hq : q x = false) : l.all q = false := by
 rw [List.all_eq_false]; exact ⟨x, List.mem_of_getElem? h, by rw [hq]; decide⟩
theorem all_take_at {α : Type} {l : List α} {q : α → Bool} {i : Nat} {x : α} (h : l[i]? = some x) (ha : (l.take i).all q = true) (hq : q x = true) : (l.take (i + 1)).all q = true := by
 rw [List.take_add_one, h]; simp [ha, hq]
def okW (s : SV) (x : WV) : Bool := if plainB s.f.tag s.f.dim s.f.len = true then pwOk s.f.tag s.f.dim x.f else match s.ps with | [p, q] => pairOk p q x.f x.ps | _ => false
def chkW (s : SV) (x : WV) : Int := if spaceE s = 0 then (if okW s x = true then 0 else 51) else spaceE s
end Go.Proofs.Ytnhnedifekejpaa
namespace Go.Proofs.Ytnhnedifekejpaa
open Go Go.RowKit
theorem r_false {r : Bool} {C : Prop} (hr : r = true ↔ C) (h : ¬ C) : false = r := by
 cases r
 ·rfl
 ·exact absurd (hr.1 rfl) h
theorem r_true {r : Bool} {C : Prop} (hr : r = true ↔ C) (h : C) : true = r := (hr.2 h).symm
theorem sameW_one (az : Bool) (ac : Int) (ag : Nat) (ara : Option Addr) (arl arc : Nat) (arows : List Nat) (aca : Option Addr) (acl acc : Nat) (acells : List Cl) (apa : Option Addr) (apc : Nat)(bz : Bool) (bc : Int) (bg : Nat) (bra : Option Addr) (brl brc : Nat) (brows : List Nat) (bca : Option Addr) (bcl bcc : Nat) (bcells : List Cl) (bpa : Option Addr) (bpc : Nat)(w : World) (hra : VRow w ara (u64s arows)) (hla : arows.length = arl) (hma : arl ≤ 100) (hca : CRow w aca acells) (hka : acells.length = acl) (hna : acl ≤ 100)(hrb : VRow w bra (u64s brows)) (hlb : brows.length = brl) (hmb : brl ≤ 100) (hcb : CRow w bca bcells) (hkb : bcells.length = bcl) (hnb : bcl ≤ 100)(r : Bool) (hr : r = true ↔ (az = bz ∧ ac = bc ∧ ag = bg ∧ arows = brows ∧ acells = bcells)) :
  Calls Try.prog 20 #[.agg #[.bool az, .int .i64 ac, .int .u64 (ag : Int), .slice ara arl arc, .slice aca acl acc, .slice apa 0 apc], .agg #[.bool bz, .int .i64 bc, .int .u64 (bg : Int), .slice bra brl brc, .slice bca bcl bcc, .slice bpa 0 bpc]] w (fun e w' => e = .returned (.bool r) ∧ Below w.heap.size w w') := by
 refine enterF (args := [.agg #[.bool az, .int .i64 ac, .int .u64 (ag : Int), .slice ara arl arc, .slice aca acl acc, .slice apa 0 apc], .agg #[.bool bz, .int .i64 bc, .int .u64 (bg : Int), .slice bra brl brc, .slice bca bcl bcc, .slice bpa 0 bpc]]) Try.func20 rfl Try.ntmps20 rfl ?_
 have hS := St.start w
 refine seqF (regF ?_)
 refine op_box (cs := [_, _, _, _, _, _]) hS rfl rfl rfl ?_
 clear hS; intro B1 W1 hS
 refine op_box (cs := [_, _, _, _, _, _]) hS rfl rfl rfl ?_
 clear hS; intro B2 W2 hS
 refine op_assign rfl rfl ?_
 refine endF (XF.thenN ?_)
 refine seqF ?_
 refine seqF (regF ?_)
 refine op_field (o' := 0) fa_54_0 rfl rfl rfl ?_
 refine op_load Try.isAgg4 rfl (cell_own (hS.at_ 1 rfl) rfl) rfl ?_
 refine op_field (o' := 0) fa_54_0 rfl rfl rfl ?_
 refine op_load Try.isAgg4 rfl (cell_own (hS.at_ 0 rfl) rfl) rfl ?_
 refine op_neqB Try.underlying4 rfl rfl rfl ?_
 refine op_move rfl rfl ?_
 refine op_cases (d := 12) rfl (fun hc => ?_) (fun hc => ?_)
 ·have hg12 := hc; clear hc
  refine op_notF (d := 12) rfl rfl rfl rfl ?_
  refine op_notF (d := 12) rfl rfl rfl rfl ?_
  refine op_notF (d := 12) rfl rfl rfl rfl ?_
  refine op_notF (d := 12) rfl rfl rfl rfl ?_
  refine op_notF (d := 12) rfl rfl rfl rfl ?_
  refine op_pickT rfl rfl rfl ?_
  refine op_move rfl rfl ?_
  refine op_notF (d := 19) rfl rfl rfl rfl ?_
  refine op_notF (d := 19) rfl rfl rfl rfl ?_
  refine op_notF (d := 19) rfl rfl rfl rfl ?_
  refine op_notF (d := 19) rfl rfl rfl rfl ?_
  refine op_notF (d := 19) rfl rfl rfl rfl ?_
  refine op_notF (d := 19) rfl rfl rfl rfl ?_
  refine op_pickT rfl rfl rfl ?_
  refine op_move rfl rfl ?_
  refine op_notF (d := 27) rfl rfl rfl rfl ?_
  refine op_notF (d := 27) rfl rfl rfl rfl ?_
  refine op_notF (d := 27) rfl rfl rfl rfl ?_
  refine op_notF (d := 27) rfl rfl rfl rfl ?_
  refine op_notF (d := 27) rfl rfl rfl rfl ?_
  refine op_notF (d := 27) rfl rfl rfl rfl ?_
  refine op_notF (d := 27) rfl rfl rfl rfl ?_
  refine op_pickT rfl rfl rfl ?_
  refine op_move rfl rfl ?_
  refine op_notF (d := 36) rfl rfl rfl rfl ?_
  refine op_notF (d := 36) rfl rfl rfl rfl ?_
  refine op_notF (d := 36) rfl rfl rfl rfl ?_
  refine op_notF (d := 36) rfl rfl rfl rfl ?_
  refine op_notF (d := 36) rfl rfl rfl rfl ?_
  refine op_notF (d := 36) rfl rfl rfl rfl ?_
  refine op_notF (d := 36) rfl rfl rfl rfl ?_
  refine op_pickT rfl rfl rfl ?_
  refine endF (XF.thenN ?_)
  refine condT rfl ?_
  refine seqF (regF ?_)
  refine op_assign rfl rfl ?_
  refine endF (XF.thenN ?_)
  refine retF ?_
  refine XF.thenR ?_
  refine XF.res (res1 Try.results20 rfl) ?_
  exact ⟨rbool (r_false hr (fun h => by have h1 := h.1; subst h1; simp at hg12)), hS.below⟩
 ·have hg12 := hc; clear hc
  refine op_wantedF (d := 12) rfl rfl ?_
  refine op_field (o' := 1) fa_54_1 rfl rfl rfl ?_
  refine op_wantedF (d := 12) rfl rfl ?_
  refine op_load Try.isAgg3 rfl (cell_own (hS.at_ 1 rfl) rfl) rfl ?_
  refine op_wantedF (d := 12) rfl rfl ?_
  refine op_field (o' := 1) fa_54_1 rfl rfl rfl ?_
  refine op_wantedF (d := 12) rfl rfl ?_
  refine op_load Try.isAgg3 rfl (cell_own (hS.at_ 0 rfl) rfl) rfl ?_
  refine op_wantedF (d := 12) rfl rfl ?_
  refine op_neq rfl rfl rfl ?_
  refine op_pickF rfl rfl rfl ?_
  refine op_move rfl rfl ?_
  refine op_cases (d := 19) rfl (fun hc => ?_) (fun hc => ?_)
  ·have hg19 := of_decide_eq_true hc; clear hc
   refine op_notF (d := 19) rfl rfl rfl rfl ?_
   refine op_notF (d := 19) rfl rfl rfl rfl ?_
   refine op_notF (d := 19) rfl rfl rfl rfl ?_
   refine op_notF (d := 19) rfl rfl rfl rfl ?_
   refine op_notF (d := 19) rfl rfl rfl rfl ?_
   refine op_notF (d := 19) rfl rfl rfl rfl ?_
   refine op_pickT rfl rfl rfl ?_
   refine op_move rfl rfl ?_
   refine op_notF (d := 27) rfl rfl rfl rfl ?_
   refine op_notF (d := 27) rfl rfl rfl rfl ?_
   refine op_notF (d := 27) rfl rfl rfl rfl ?_
   refine op_notF (d := 27) rfl rfl rfl rfl ?_
   refine op_notF (d := 27) rfl rfl rfl rfl ?_
   refine op_notF (d := 27) rfl rfl rfl rfl ?_
   refine op_notF (d := 27) rfl rfl rfl rfl ?_
   refine op_pickT rfl rfl rfl ?_
   refine op_move rfl rfl ?_
   refine op_notF (d := 36) rfl rfl rfl rfl ?_
   refine op_notF (d := 36) rfl rfl rfl rfl ?_
   refine op_notF (d := 36) rfl rfl rfl rfl ?_
   refine op_notF (d := 36) rfl rfl rfl rfl ?_
   refine op_notF (d := 36) rfl rfl rfl rfl ?_
   refine op_notF (d := 36) rfl rfl rfl rfl ?_
   refine op_notF (d := 36) rfl rfl rfl rfl ?_
   refine op_pickT rfl rfl rfl ?_
   refine endF (XF.thenN ?_)
   refine condT rfl ?_
   refine seqF (regF ?_)
   refine op_assign rfl rfl ?_
   refine endF (XF.thenN ?_)
   refine retF ?_
   refine XF.thenR ?_
   refine XF.res (res1 Try.results20 rfl) ?_
   exact ⟨rbool (r_false hr (fun h => hg19 h.2.1)), hS.below⟩
  ·have hg19 := of_decide_eq_false hc; clear hc
   refine op_wantedF (d := 19) rfl rfl ?_
   refine op_field (o' := 2) fa_54_2 rfl rfl rfl ?_
   refine op_wantedF (d := 19) rfl rfl ?_
   refine op_loadA (vs := [_, _]) Try.isAgg50 Try.sizeOf50 rfl (CellsAt.own (j := 2) (m := 2) (hS.at_ 1 rfl) rfl) rfl ?_
   refine op_wantedF (d := 19) rfl rfl ?_
   refine op_field (o' := 2) fa_54_2 rfl rfl rfl ?_
   refine op_wantedF (d := 19) rfl rfl ?_
   refine op_loadA (vs := [_, _]) Try.isAgg50 Try.sizeOf50 rfl (CellsAt.own (j := 2) (m := 2) (hS.at_ 0 rfl) rfl) rfl ?_
   refine op_wantedF (d := 19) rfl rfl ?_
   refine op_call (vs := [_, _]) hS goes_50 rfl (sameR_is _ _ _ _ _ _ _ _ _ (by omega) (by omega) (VRow.below hra hS.below) (VRow.below hrb hS.below) _ rfl _ _ hla hlb) rfl ?_
   rintro e W3 ⟨rfl, hb⟩
   refine ⟨_, rfl, hb, fun hS' => ?_⟩
   clear hS; have hS := hS'; clear hS' hb
   refine op_wantedF (d := 19) rfl rfl ?_
   refine op_not rfl rfl ?_
   refine op_pickF rfl rfl rfl ?_
   refine op_move rfl rfl ?_
   refine op_cases (d := 27) rfl (fun hc => ?_) (fun hc => ?_)
   ·have hg27 := hc; clear hc
    refine op_notF (d := 27) rfl rfl rfl rfl ?_
    refine op_notF (d := 27) rfl rfl rfl rfl ?_
    refine op_notF (d := 27) rfl rfl rfl rfl ?_
    refine op_notF (d := 27) rfl rfl rfl rfl ?_
    refine op_notF (d := 27) rfl rfl rfl rfl ?_
    refine op_notF (d := 27) rfl rfl rfl rfl ?_
    refine op_notF (d := 27) rfl rfl rfl rfl ?_
    refine op_pickT rfl rfl rfl ?_
    refine op_move rfl rfl ?_
    refine op_notF (d := 36) rfl rfl rfl rfl ?_
    refine op_notF (d := 36) rfl rfl rfl rfl ?_
    refine op_notF (d := 36) rfl rfl rfl rfl ?_
    refine op_notF (d := 36) rfl rfl rfl rfl ?_
    refine op_notF (d := 36) rfl rfl rfl rfl ?_
    refine op_notF (d := 36) rfl rfl rfl rfl ?_
    refine op_notF (d := 36) rfl rfl rfl rfl ?_
    refine op_pickT rfl rfl rfl ?_
    refine endF (XF.thenN ?_)
    refine condT rfl ?_
    refine seqF (regF ?_)
    refine op_assign rfl rfl ?_
    refine endF (XF.thenN ?_)
    refine retF ?_
    refine XF.thenR ?_
    refine XF.res (res1 Try.results20 rfl) ?_
    exact ⟨rbool (r_false hr (fun h => by obtain ⟨_, _, h3, h4, _⟩ := h; subst h3; subst h4; rw [same_self] at hg27; cases hg27)), hS.below⟩
   ·have hg27 := hc; clear hc
    refine op_wantedF (d := 27) rfl rfl ?_
    refine op_field (o' := 4) fa_54_3 rfl rfl rfl ?_
    refine op_wantedF (d := 27) rfl rfl ?_
    refine op_load Try.isAgg51 rfl (cell_own (hS.at_ 1 rfl) rfl) rfl ?_
    refine op_wantedF (d := 27) rfl rfl ?_
    refine op_len Try.underlying51 rfl rfl ?_
    refine op_wantedF (d := 27) rfl rfl ?_
    refine op_field (o' := 4) fa_54_3 rfl rfl rfl ?_
    refine op_wantedF (d := 27) rfl rfl ?_
    refine op_load Try.isAgg51 rfl (cell_own (hS.at_ 0 rfl) rfl) rfl ?_
    refine op_wantedF (d := 27) rfl rfl ?_
    refine op_len Try.underlying51 rfl rfl ?_
    refine op_wantedF (d := 27) rfl rfl ?_
    refine op_neq rfl rfl rfl ?_
    refine op_pickF rfl rfl rfl ?_
    refine op_move rfl rfl ?_
    refine op_cases (d := 36) rfl (fun hc => ?_) (fun hc => ?_)
    ·have hg36 := of_decide_eq_true hc; clear hc
     refine op_notF (d := 36) rfl rfl rfl rfl ?_
     refine op_notF (d := 36) rfl rfl rfl rfl ?_
     refine op_notF (d := 36) rfl rfl rfl rfl ?_
     refine op_notF (d := 36) rfl rfl rfl rfl ?_
     refine op_notF (d := 36) rfl rfl rfl rfl ?_
     refine op_notF (d := 36) rfl rfl rfl rfl ?_
     refine op_notF (d := 36) rfl rfl rfl rfl ?_
     refine op_pickT rfl rfl rfl ?_
     refine endF (XF.thenN ?_)
     refine condT rfl ?_
     refine seqF (regF ?_)
     refine op_assign rfl rfl ?_
     refine endF (XF.thenN ?_)
     refine retF ?_
     refine XF.thenR ?_
     refine XF.res (res1 Try.results20 rfl) ?_
     exact ⟨rbool (r_false hr (fun h => by have h5 := h.2.2.2.2; subst h5; omega)), hS.below⟩
    ·have hg36 := of_decide_eq_false hc; clear hc
     have hz : az = bz := by simpa using hg12
     have hcc : ac = bc := by omega
     have hff : ag = bg ∧ arows = brows := by simpa [sameB] using hg27
     have hcl : acl = bcl := by omega
     refine op_wantedF (d := 36) rfl rfl ?_
     refine op_field (o' := 5) fa_54_4 rfl rfl rfl ?_
     refine op_wantedF (d := 36) rfl rfl ?_
     refine op_load Try.isAgg52 rfl (cell_own (hS.at_ 1 rfl) rfl) rfl ?_
     refine op_wantedF (d := 36) rfl rfl ?_
     refine op_len Try.underlying52 rfl rfl ?_
     refine op_wantedF (d := 36) rfl rfl ?_
     refine op_field (o' := 5) fa_54_4 rfl rfl rfl ?_
     refine op_wantedF (d := 36) rfl rfl ?_
     refine op_load Try.isAgg52 rfl (cell_own (hS.at_ 0 rfl) rfl) rfl ?_
     refine op_wantedF (d := 36) rfl rfl ?_
     refine op_len Try.underlying52 rfl rfl ?_
     refine op_wantedF (d := 36) rfl rfl ?_
     refine op_neq rfl rfl rfl ?_
     refine op_pickF rfl rfl rfl ?_
     refine endF (XF.thenN ?_)
     refine condF rfl (fun hc => absurd (of_decide_eq_true hc) (by omega)) (fun hc => ?_)
     have hc := of_decide_eq_false hc
     refine skipF ?_
     refine XF.thenN ?_
     refine seqF ?_
     refine seqF (regF ?_)
     refine op_assign rfl rfl ?_
     refine endF (XF.thenN ?_)
     refine blockF ?_
     refine loopF (fun q l W => ∃ i : Nat, i ≤ acl ∧ q = acl - i ∧ l = [(2, .pointer (some ⟨B1, 0, none⟩)), (3, .pointer (some ⟨B2, 0, none⟩)), (5, .int .i64 (i : Int))] ∧ acells.take i = bcells.take i ∧ St w [(B2, [.bool bz, .int .i64 bc, .int .u64 (bg : Int), .slice bra brl brc, .slice bca bcl bcc, .slice bpa 0 bpc], 54), (B1, [.bool az, .int .i64 ac, .int .u64 (ag : Int), .slice ara arl arc, .slice aca acl acc, .slice apa 0 apc], 54)] [] [] W) (acl - 0) ([(2, _), (3, _), (5, _)]) ⟨rfl, rfl, rfl, trivial⟩ (⟨0, Nat.zero_le _, rfl, rfl, rfl, hS.clear⟩) ?_
     clear hS
     rintro q l W ⟨i, hi, rfl, rfl, hall, hS⟩
     refine seqF ?_
     refine seqF (regF ?_)
     refine op_move rfl rfl ?_
     refine op_field (o' := 4) fa_54_3 rfl rfl rfl ?_
     refine op_load Try.isAgg51 rfl (cell_own (hS.at_ 1 rfl) rfl) rfl ?_
     refine op_len Try.underlying51 rfl rfl ?_
     refine op_lss rfl rfl rfl ?_
     refine endF (XF.thenN ?_)
     refine condF rfl (fun hc => ?_) (fun hc => ?_)
     ·have hc49 := of_decide_eq_true hc; clear hc
      have hk : i < acl := by omega
      obtain ⟨b1, o1, x, hx1, hx2, _, x0, x1, x2⟩ := hca.at_ (k := i) (by omega)
      obtain ⟨b2, o2, y, hy1, hy2, _, y0, y1, y2⟩ := hcb.at_ (k := i) (by omega)
      subst hx1; subst hy1
      have k1 : CellsAt W b1 (o1 + i * 3) [.int .u64 (x.f : Int), .int .i64 x.k, .int .i64 x.v] := CellsAt.agree hS.agree (Nat.zero_le _) ⟨x0, x1, x2, trivial⟩
      have k2 : CellsAt W b2 (o2 + i * 3) [.int .u64 (y.f : Int), .int .i64 y.k, .int .i64 y.v] := CellsAt.agree hS.agree (Nat.zero_le _) ⟨y0, y1, y2, trivial⟩
      refine skipF ?_
      refine XF.thenN ?_
      refine seqF ?_
      refine blockF ?_
      refine seqF ?_
      refine regB (m := 11) followsM hS (by kernel_rfl) (by kernel_rfl) rfl ?_
      refine bl_cons 1 rfl (isV _) (stab_isV _) (rgV (li := [(2, _)]) rfl (w_free rfl) ⟨g_fr (by kernel_rfl) rfl, trivial⟩ (fun w hw => rn_field (o' := 4) fa_54_3 rfl rfl) (at_top rfl)) ?_
      refine bl_cons 2 rfl (isV _) (stab_isV _) (rgV (li := [(52, _)]) rfl (w_free rfl) ⟨g_dep 0 (by kernel_rfl) (at_dep rfl rfl rfl), trivial⟩ (fun w hw => rn_load Try.isAgg51 rfl ((below_agree hw 0).cell (Nat.zero_le _) (cell_own (hS.at_ 1 rfl) rfl))) (at_top rfl)) ?_
      refine bl_cons 3 rfl (isV _) (stab_isV _) (rgV (li := [(5, _)]) rfl (w_free rfl) ⟨g_fr (by kernel_rfl) rfl, trivial⟩ (fun w hw => rn_move rfl) (at_top rfl)) ?_
      refine bl_cons 4 rfl (isV _) (stab_isV _) (rgV (li := [(53, _), (54, _)]) rfl (w_free rfl) ⟨g_dep 1 (by kernel_rfl) (at_dep rfl rfl rfl), g_dep 2 (by kernel_rfl) (at_dep rfl rfl rfl), trivial⟩ (fun w hw => rn_indexA  Try.underlying51 Try.sizeOf112 rfl rfl rfl (by omega) rfl) (at_top rfl)) ?_
      refine bl_cons 5 rfl (isV _) (stab_isV _) (rgV (li := [(55, _)]) rfl (w_free rfl) ⟨g_dep 3 (by kernel_rfl) (at_dep rfl rfl rfl), trivial⟩ (fun w hw => rn_loadA (vs := [_, _, _]) Try.isAgg112 Try.sizeOf112 rfl (CellsAt.agree (below_agree hw 0) (Nat.zero_le _) (by assumption))) (at_top rfl)) ?_
      refine bl_cons 6 rfl (isV _) (stab_isV _) (rgV (li := [(3, _)]) rfl (w_free rfl) ⟨g_fr (by kernel_rfl) rfl, trivial⟩ (fun w hw => rn_field (o' := 4) fa_54_3 rfl rfl) (at_top rfl)) ?_
      refine bl_cons 7 rfl (isV _) (stab_isV _) (rgV (li := [(57, _)]) rfl (w_free rfl) ⟨g_dep 5 (by kernel_rfl) (at_dep rfl rfl rfl), trivial⟩ (fun w hw => rn_load Try.isAgg51 rfl ((below_agree hw 0).cell (Nat.zero_le _) (cell_own (hS.at_ 0 rfl) rfl))) (at_top rfl)) ?_
      refine bl_cons 8 rfl (isV _) (stab_isV _) (rgV (li := [(5, _)]) rfl (w_free rfl) ⟨g_fr (by kernel_rfl) rfl, trivial⟩ (fun w hw => rn_move rfl) (at_top rfl)) ?_
      refine bl_cons 9 rfl (isV _) (stab_isV _) (rgV (li := [(58, _), (59, _)]) rfl (w_free rfl) ⟨g_dep 6 (by kernel_rfl) (at_dep rfl rfl rfl), g_dep 7 (by kernel_rfl) (at_dep rfl rfl rfl), trivial⟩ (fun w hw => rn_indexA  Try.underlying51 Try.sizeOf112 rfl rfl rfl (by omega) rfl) (at_top rfl)) ?_
      refine bl_cons 10 rfl (isV _) (stab_isV _) (rgV (li := [(60, _)]) rfl (w_free rfl) ⟨g_dep 8 (by kernel_rfl) (at_dep rfl rfl rfl), trivial⟩ (fun w hw => rn_loadA (vs := [_, _, _]) Try.isAgg112 Try.sizeOf112 rfl (CellsAt.agree (below_agree hw 0) (Nat.zero_le _) (by assumption))) (at_top rfl)) ?_
      refine bl_cons 11 rfl (isV _) (stab_isV _) (rgV (li := [(56, _), (61, _)]) rfl (w_free rfl) ⟨g_dep 4 (by kernel_rfl) (at_dep rfl rfl rfl), g_dep 9 (by kernel_rfl) (at_dep rfl rfl rfl), trivial⟩ (fun w hw => rn_binG rfl rfl (run_eqGuard_agg _ _ _ _ _ _ _ (by kernel_rfl)) (neq_is x y _ rfl w)) (at_top rfl)) ?_
      refine bl_nil ?_
      intro W4 hbR hS'
      clear hS; have hS := hS'; clear hS'
      refine fin_v ?_
      refine fin_v ?_
      refine fin_v ?_
      refine fin_v ?_
      refine fin_v ?_
      refine fin_v ?_
      refine fin_v ?_
      refine fin_v ?_
      refine fin_v ?_
      refine fin_v ?_
      refine fin_v ?_
      refine fin_nil ?_
      refine XF.thenN ?_
      refine condF rfl (fun hc => ?_) (fun hc => ?_)
      ·have hc62 := hc; clear hc
       refine seqF (regF ?_)
       refine op_assign rfl rfl ?_
       refine endF (XF.thenN ?_)
       refine retF ?_
       refine XF.blkR ?_
       refine XF.thenR ?_
       refine XF.thenR ?_
       refine XF.blkR ?_
       refine XF.thenR ?_
       refine XF.res (res1 Try.results20 rfl) ?_
       exact ⟨rbool (r_false hr (fun h => by have h5 := h.2.2.2.2; subst h5; rw [hx2] at hy2; cases hy2; simp [sameCl] at hc62)), hS.below⟩
      ·have hc62 := hc; clear hc
       have hxy : x = y := by
        obtain ⟨xf, xk, xv⟩ := x
        obtain ⟨yf, yk, yv⟩ := y
        simp [sameCl] at hc62
        simp [hc62]
       subst hxy
       refine skipF ?_
       refine XF.blkN ?_
       refine XF.thenN ?_
       refine regF ?_
       refine op_move rfl rfl ?_
       refine op_add rfl rfl (IntWalk.i64_in _ (by omega)) rfl ?_
       refine op_assign rfl rfl ?_
       refine endF ?_
       exact XF.round (acl - (i + 1)) [(2, _), (3, _), (5, _)] (by omega) ⟨rfl, rfl, rfl, trivial⟩ ⟨i + 1, by omega, rfl, rfl, by rw [List.take_add_one, List.take_add_one, hx2, hy2, hall], hS.clear⟩
     ·have hc49 := of_decide_eq_false hc; clear hc
      have hce : acells = bcells := by
       rw [List.take_of_length_le (by omega), List.take_of_length_le (by omega)] at hall
       exact hall
      refine exitF ?_
      refine XF.thenX ?_
      refine XF.thenX ?_
      refine XF.blkX ?_
      refine XF.thenN ?_
      refine seqF ?_
      refine seqF (regF ?_)
      refine op_assign rfl rfl ?_
      refine endF (XF.thenN ?_)
      refine blockF ?_
      refine loopF (fun q l W => l = [(2, .pointer (some ⟨B1, 0, none⟩)), (3, .pointer (some ⟨B2, 0, none⟩)), (6, .int .i64 0)] ∧ St w [(B2, [.bool bz, .int .i64 bc, .int .u64 (bg : Int), .slice bra brl brc, .slice bca bcl bcc, .slice bpa 0 bpc], 54), (B1, [.bool az, .int .i64 ac, .int .u64 (ag : Int), .slice ara arl arc, .slice aca acl acc, .slice apa 0 apc], 54)] [] [] W) (0) ([(2, _), (3, _), (6, _)]) ⟨rfl, rfl, rfl, trivial⟩ (⟨rfl, hS⟩) ?_
      clear hS
      rintro q l W ⟨rfl, hS⟩
      refine seqF ?_
      refine seqF (regF ?_)
      refine op_move rfl rfl ?_
      refine op_field (o' := 5) fa_54_4 rfl rfl rfl ?_
      refine op_load Try.isAgg52 rfl (cell_own (hS.at_ 1 rfl) rfl) rfl ?_
      refine op_len Try.underlying52 rfl rfl ?_
      refine op_lss rfl rfl rfl ?_
      refine endF (XF.thenN ?_)
      refine condF rfl (fun hc => absurd (of_decide_eq_true hc) (by omega)) (fun hc => ?_)
      have hc := of_decide_eq_false hc
      refine exitF ?_
      refine XF.thenX ?_
      refine XF.thenX ?_
      refine XF.blkX ?_
      refine XF.thenN ?_
      refine seqF (regF ?_)
      refine op_assign rfl rfl ?_
      refine endF (XF.thenN ?_)
      refine retF ?_
      refine XF.res (res1 Try.results20 rfl) ?_
      exact ⟨rbool (r_true hr ⟨hz, hcc, hff.1, hff.2, hce⟩), hS.below⟩
theorem sameW_plain {w : World} {t n : Int} {f g : WF} {x y : PF} (hx : PIs w t n f x) (hy : PIs w t n g y) (r : Bool) (hr : r = true ↔ x = y) : Calls Try.prog 20 #[f.val, g.val] w fun e w' => e = .returned (.bool r) ∧ Below w.heap.size w w' := by
 have h1 := hx.rows64 (l := 0); have h2 := hy.rows64 (l := 0)
 have e1 := hx.pl; have e2 := hy.pl
 have a1 := hx.at_; have a2 := hy.at_
 obtain rfl := hx.pf
 obtain rfl := hy.pf
 obtain ⟨az, ac, ag, ara, arl, arc, arows, aca, acl, acc, acells, apa, apl, apc⟩ := f
 obtain ⟨bz, bc, bg, bra, brl, brc, brows, bca, bcl, bcc, bcells, bpa, bpl, bpc⟩ := g
 dsimp only at e1 e2 h1 h2
 subst e1; subst e2
 refine sameW_one _ _ _ _ _ _ _ _ _ _ _ _ _ _ _ _ _ _ _ _ _ _ _ _ _ _ w a1.rows a1.rl (by dsimp only; omega) a1.cells a1.cl (by dsimp only; omega) a2.rows a2.rl (by dsimp only; omega) a2.cells a2.cl (by dsimp only; omega) r ?_
 rw [hr]
 simp [WF.pf]
theorem sameW_two (t n u m : Int) (fra fca : Option Addr) (frc fcc fpc fb fo : Nat) (f1 f2 : WF)(gra gca : Option Addr) (grc gcc gpc gb go : Nat) (g1 g2 : WF)(x1 x2 y1 y2 : PF) (w : World) (hf6 : W6 w fb fo f1) (hf7 : W6 w fb (fo + 6) f2) (hg6 : W6 w gb go g1) (hg7 : W6 w gb (go + 6) g2) (hx1 : PIs w t n f1 x1) (hx2 : PIs w u m f2 x2) (hy1 : PIs w t n g1 y1) (hy2 : PIs w u m g2 y2) (r r1 r2 : Bool) (hr : r = true ↔ (x1 = y1 ∧ x2 = y2)) (hr1 : r1 = true ↔ x1 = y1) (hr2 : r2 = true ↔ x2 = y2) :
  Calls Try.prog 20 #[.agg #[.bool false, .int .i64 0, .int .u64 0, .slice fra 0 frc, .slice fca 0 fcc, .slice (some ⟨fb, fo, none⟩) 2 fpc], .agg #[.bool false, .int .i64 0, .int .u64 0, .slice gra 0 grc, .slice gca 0 gcc, .slice (some ⟨gb, go, none⟩) 2 gpc]] w (fun e w' => e = .returned (.bool r) ∧ Below w.heap.size w w') := by
 refine enterF (args := [.agg #[.bool false, .int .i64 0, .int .u64 0, .slice fra 0 frc, .slice fca 0 fcc, .slice (some ⟨fb, fo, none⟩) 2 fpc], .agg #[.bool false, .int .i64 0, .int .u64 0, .slice gra 0 grc, .slice gca 0 gcc, .slice (some ⟨gb, go, none⟩) 2 gpc]]) Try.func20 rfl Try.ntmps20 rfl ?_
 have hS := St.start w
 refine seqF (regF ?_)
 refine op_box (cs := [_, _, _, _, _, _]) hS rfl rfl rfl ?_
 clear hS; intro B1 W1 hS
 refine op_box (cs := [_, _, _, _, _, _]) hS rfl rfl rfl ?_
 clear hS; intro B2 W2 hS
 refine op_assign rfl rfl ?_
 refine endF (XF.thenN ?_)
 refine seqF ?_
 refine seqF (regF ?_)
 refine op_field (o' := 0) fa_54_0 rfl rfl rfl ?_
 refine op_load Try.isAgg4 rfl (cell_own (hS.at_ 1 rfl) rfl) rfl ?_
 refine op_field (o' := 0) fa_54_0 rfl rfl rfl ?_
 refine op_load Try.isAgg4 rfl (cell_own (hS.at_ 0 rfl) rfl) rfl ?_
 refine op_neqB Try.underlying4 rfl rfl rfl ?_
 refine op_move rfl rfl ?_
 refine op_cases (d := 12) rfl (fun hc => absurd hc (by decide)) (fun hc => ?_)
 skip
 refine op_wantedF (d := 12) rfl rfl ?_
 refine op_field (o' := 1) fa_54_1 rfl rfl rfl ?_
 refine op_wantedF (d := 12) rfl rfl ?_
 refine op_load Try.isAgg3 rfl (cell_own (hS.at_ 1 rfl) rfl) rfl ?_
 refine op_wantedF (d := 12) rfl rfl ?_
 refine op_field (o' := 1) fa_54_1 rfl rfl rfl ?_
 refine op_wantedF (d := 12) rfl rfl ?_
 refine op_load Try.isAgg3 rfl (cell_own (hS.at_ 0 rfl) rfl) rfl ?_
 refine op_wantedF (d := 12) rfl rfl ?_
 refine op_neq rfl rfl rfl ?_
 refine op_pickF rfl rfl rfl ?_
 refine op_move rfl rfl ?_
 refine op_cases (d := 19) rfl (fun hc => absurd (of_decide_eq_true hc) (by omega)) (fun hc => ?_)
 have hc := of_decide_eq_false hc
 refine op_wantedF (d := 19) rfl rfl ?_
 refine op_field (o' := 2) fa_54_2 rfl rfl rfl ?_
 refine op_wantedF (d := 19) rfl rfl ?_
 refine op_loadA (vs := [_, _]) Try.isAgg50 Try.sizeOf50 rfl (CellsAt.own (j := 2) (m := 2) (hS.at_ 1 rfl) rfl) rfl ?_
 refine op_wantedF (d := 19) rfl rfl ?_
 refine op_field (o' := 2) fa_54_2 rfl rfl rfl ?_
 refine op_wantedF (d := 19) rfl rfl ?_
 refine op_loadA (vs := [_, _]) Try.isAgg50 Try.sizeOf50 rfl (CellsAt.own (j := 2) (m := 2) (hS.at_ 0 rfl) rfl) rfl ?_
 refine op_wantedF (d := 19) rfl rfl ?_
 refine op_call (vs := [_, _]) hS goes_50 rfl (sameR_is _ _ _ _ 0 0 [] [] _ (by simp) (by simp) (.inl rfl) (.inl rfl) true rfl _ _ rfl rfl) rfl ?_
 rintro e W3 ⟨rfl, hb⟩
 refine ⟨_, rfl, hb, fun hS' => ?_⟩
 clear hS; have hS := hS'; clear hS' hb
 refine op_wantedF (d := 19) rfl rfl ?_
 refine op_not rfl rfl ?_
 refine op_pickF rfl rfl rfl ?_
 refine op_move rfl rfl ?_
 refine op_cases (d := 27) rfl (fun hc => absurd hc (by decide)) (fun hc => ?_)
 skip
 refine op_wantedF (d := 27) rfl rfl ?_
 refine op_field (o' := 4) fa_54_3 rfl rfl rfl ?_
 refine op_wantedF (d := 27) rfl rfl ?_
 refine op_load Try.isAgg51 rfl (cell_own (hS.at_ 1 rfl) rfl) rfl ?_
 refine op_wantedF (d := 27) rfl rfl ?_
 refine op_len Try.underlying51 rfl rfl ?_
 refine op_wantedF (d := 27) rfl rfl ?_
 refine op_field (o' := 4) fa_54_3 rfl rfl rfl ?_
 refine op_wantedF (d := 27) rfl rfl ?_
 refine op_load Try.isAgg51 rfl (cell_own (hS.at_ 0 rfl) rfl) rfl ?_
 refine op_wantedF (d := 27) rfl rfl ?_
 refine op_len Try.underlying51 rfl rfl ?_
 refine op_wantedF (d := 27) rfl rfl ?_
 refine op_neq rfl rfl rfl ?_
 refine op_pickF rfl rfl rfl ?_
 refine op_move rfl rfl ?_
 refine op_cases (d := 36) rfl (fun hc => absurd (of_decide_eq_true hc) (by omega)) (fun hc => ?_)
 have hc := of_decide_eq_false hc
 refine op_wantedF (d := 36) rfl rfl ?_
 refine op_field (o' := 5) fa_54_4 rfl rfl rfl ?_
 refine op_wantedF (d := 36) rfl rfl ?_
 refine op_load Try.isAgg52 rfl (cell_own (hS.at_ 1 rfl) rfl) rfl ?_
 refine op_wantedF (d := 36) rfl rfl ?_
 refine op_len Try.underlying52 rfl rfl ?_
 refine op_wantedF (d := 36) rfl rfl ?_
 refine op_field (o' := 5) fa_54_4 rfl rfl rfl ?_
 refine op_wantedF (d := 36) rfl rfl ?_
 refine op_load Try.isAgg52 rfl (cell_own (hS.at_ 0 rfl) rfl) rfl ?_
 refine op_wantedF (d := 36) rfl rfl ?_
 refine op_len Try.underlying52 rfl rfl ?_
 refine op_wantedF (d := 36) rfl rfl ?_
 refine op_neq rfl rfl rfl ?_
 refine op_pickF rfl rfl rfl ?_
 refine endF (XF.thenN ?_)
 refine condF rfl (fun hc => absurd (of_decide_eq_true hc) (by omega)) (fun hc => ?_)
 have hc := of_decide_eq_false hc
 refine skipF ?_
 refine XF.thenN ?_
 refine seqF ?_
 refine seqF (regF ?_)
 refine op_assign rfl rfl ?_
 refine endF (XF.thenN ?_)
 refine blockF ?_
 refine loopF (fun q l W => l = [(2, .pointer (some ⟨B1, 0, none⟩)), (3, .pointer (some ⟨B2, 0, none⟩)), (5, .int .i64 0)] ∧ St w [(B2, [.bool false, .int .i64 0, .int .u64 0, .slice gra 0 grc, .slice gca 0 gcc, .slice (some ⟨gb, go, none⟩) 2 gpc], 54), (B1, [.bool false, .int .i64 0, .int .u64 0, .slice fra 0 frc, .slice fca 0 fcc, .slice (some ⟨fb, fo, none⟩) 2 fpc], 54)] [] [] W) (0) ([(2, _), (3, _), (5, _)]) ⟨rfl, rfl, rfl, trivial⟩ (⟨rfl, hS.clear⟩) ?_
 clear hS
 rintro q l W ⟨rfl, hS⟩
 refine seqF ?_
 refine seqF (regF ?_)
 refine op_move rfl rfl ?_
 refine op_field (o' := 4) fa_54_3 rfl rfl rfl ?_
 refine op_load Try.isAgg51 rfl (cell_own (hS.at_ 1 rfl) rfl) rfl ?_
 refine op_len Try.underlying51 rfl rfl ?_
 refine op_lss rfl rfl rfl ?_
 refine endF (XF.thenN ?_)
 refine condF rfl (fun hc => absurd (of_decide_eq_true hc) (by omega)) (fun hc => ?_)
 have hc := of_decide_eq_false hc
 refine exitF ?_
 refine XF.thenX ?_
 refine XF.thenX ?_
 refine XF.blkX ?_
 refine XF.thenN ?_
 refine seqF ?_
 refine seqF (regF ?_)
 refine op_assign rfl rfl ?_
 refine endF (XF.thenN ?_)
 refine blockF ?_
 refine loopF (fun q l W => (q = 2 ∧ l = [(2, .pointer (some ⟨B1, 0, none⟩)), (3, .pointer (some ⟨B2, 0, none⟩)), (6, .int .i64 0)] ∧ St w [(B2, [.bool false, .int .i64 0, .int .u64 0, .slice gra 0 grc, .slice gca 0 gcc, .slice (some ⟨gb, go, none⟩) 2 gpc], 54), (B1, [.bool false, .int .i64 0, .int .u64 0, .slice fra 0 frc, .slice fca 0 fcc, .slice (some ⟨fb, fo, none⟩) 2 fpc], 54)] [] [] W) ∨ (q = 1 ∧ l = [(2, .pointer (some ⟨B1, 0, none⟩)), (3, .pointer (some ⟨B2, 0, none⟩)), (6, .int .i64 1)] ∧ r1 = true ∧ St w [(B2, [.bool false, .int .i64 0, .int .u64 0, .slice gra 0 grc, .slice gca 0 gcc, .slice (some ⟨gb, go, none⟩) 2 gpc], 54), (B1, [.bool false, .int .i64 0, .int .u64 0, .slice fra 0 frc, .slice fca 0 fcc, .slice (some ⟨fb, fo, none⟩) 2 fpc], 54)] [] [] W) ∨ (q = 0 ∧ l = [(2, .pointer (some ⟨B1, 0, none⟩)), (3, .pointer (some ⟨B2, 0, none⟩)), (6, .int .i64 2)] ∧ r1 = true ∧ r2 = true ∧ St w [(B2, [.bool false, .int .i64 0, .int .u64 0, .slice gra 0 grc, .slice gca 0 gcc, .slice (some ⟨gb, go, none⟩) 2 gpc], 54), (B1, [.bool false, .int .i64 0, .int .u64 0, .slice fra 0 frc, .slice fca 0 fcc, .slice (some ⟨fb, fo, none⟩) 2 fpc], 54)] [] [] W)) (2) ([(2, _), (3, _), (6, _)]) ⟨rfl, rfl, rfl, trivial⟩ (.inl ⟨rfl, rfl, hS⟩) ?_
 clear hS
 rintro q l W (⟨rfl, rfl, hS⟩ | ⟨rfl, rfl, hq1, hS⟩ | ⟨rfl, rfl, hq1, hq2, hS⟩)
 ·have k1 := CellsAt.agree hS.agree (Nat.zero_le _) hf6.cells
  have k2 := CellsAt.agree hS.agree (Nat.zero_le _) hg6.cells
  refine seqF ?_
  refine seqF (regF ?_)
  refine op_move rfl rfl ?_
  refine op_field (o' := 5) fa_54_4 rfl rfl rfl ?_
  refine op_load Try.isAgg52 rfl (cell_own (hS.at_ 1 rfl) rfl) rfl ?_
  refine op_len Try.underlying52 rfl rfl ?_
  refine op_lss rfl rfl rfl ?_
  refine endF (XF.thenN ?_)
  refine condF rfl (fun hc => ?_) (fun hc => absurd (of_decide_eq_false hc) (by omega))
  have hc := of_decide_eq_true hc
  refine skipF ?_
  refine XF.thenN ?_
  refine seqF ?_
  refine blockF ?_
  refine seqF ?_
  refine regB (m := 12) followsM hS (by kernel_rfl) (by kernel_rfl) rfl ?_
  refine bl_cons 1 rfl (isV _) (stab_isV _) (rgV (li := [(2, _)]) rfl (w_free rfl) ⟨g_fr (by kernel_rfl) rfl, trivial⟩ (fun w hw => rn_field (o' := 5) fa_54_4 rfl rfl) (at_top rfl)) ?_
  refine bl_cons 2 rfl (isV _) (stab_isV _) (rgV (li := [(70, _)]) rfl (w_free rfl) ⟨g_dep 0 (by kernel_rfl) (at_dep rfl rfl rfl), trivial⟩ (fun w hw => rn_load Try.isAgg52 rfl ((below_agree hw 0).cell (Nat.zero_le _) (cell_own (hS.at_ 1 rfl) rfl))) (at_top rfl)) ?_
  refine bl_cons 3 rfl (isV _) (stab_isV _) (rgV (li := [(6, _)]) rfl (w_free rfl) ⟨g_fr (by kernel_rfl) rfl, trivial⟩ (fun w hw => rn_move rfl) (at_top rfl)) ?_
  refine bl_cons 4 rfl (isV _) (stab_isV _) (rgV (li := [(71, _), (72, _)]) rfl (w_free rfl) ⟨g_dep 1 (by kernel_rfl) (at_dep rfl rfl rfl), g_dep 2 (by kernel_rfl) (at_dep rfl rfl rfl), trivial⟩ (fun w hw => rn_indexA (j := 0) Try.underlying52 Try.sizeOf54 rfl rfl rfl (by omega) (Nat.add_zero _)) (at_top rfl)) ?_
  refine bl_cons 5 rfl (isV _) (stab_isV _) (rgV (li := [(73, _)]) rfl (w_free rfl) ⟨g_dep 3 (by kernel_rfl) (at_dep rfl rfl rfl), trivial⟩ (fun w hw => rn_loadA (vs := [_, _, _, _, _, _]) Try.isAgg54 Try.sizeOf54 rfl (CellsAt.agree (below_agree hw 0) (Nat.zero_le _) (by assumption))) (at_top rfl)) ?_
  refine bl_cons 6 rfl (isV _) (stab_isV _) (rgV (li := [(3, _)]) rfl (w_free rfl) ⟨g_fr (by kernel_rfl) rfl, trivial⟩ (fun w hw => rn_field (o' := 5) fa_54_4 rfl rfl) (at_top rfl)) ?_
  refine bl_cons 7 rfl (isV _) (stab_isV _) (rgV (li := [(75, _)]) rfl (w_free rfl) ⟨g_dep 5 (by kernel_rfl) (at_dep rfl rfl rfl), trivial⟩ (fun w hw => rn_load Try.isAgg52 rfl ((below_agree hw 0).cell (Nat.zero_le _) (cell_own (hS.at_ 0 rfl) rfl))) (at_top rfl)) ?_
  refine bl_cons 8 rfl (isV _) (stab_isV _) (rgV (li := [(6, _)]) rfl (w_free rfl) ⟨g_fr (by kernel_rfl) rfl, trivial⟩ (fun w hw => rn_move rfl) (at_top rfl)) ?_
  refine bl_cons 9 rfl (isV _) (stab_isV _) (rgV (li := [(76, _), (77, _)]) rfl (w_free rfl) ⟨g_dep 6 (by kernel_rfl) (at_dep rfl rfl rfl), g_dep 7 (by kernel_rfl) (at_dep rfl rfl rfl), trivial⟩ (fun w hw => rn_indexA (j := 0) Try.underlying52 Try.sizeOf54 rfl rfl rfl (by omega) (Nat.add_zero _)) (at_top rfl)) ?_
  refine bl_cons 10 rfl (isV _) (stab_isV _) (rgV (li := [(78, _)]) rfl (w_free rfl) ⟨g_dep 8 (by kernel_rfl) (at_dep rfl rfl rfl), trivial⟩ (fun w hw => rn_loadA (vs := [_, _, _, _, _, _]) Try.isAgg54 Try.sizeOf54 rfl (CellsAt.agree (below_agree hw 0) (Nat.zero_le _) (by assumption))) (at_top rfl)) ?_
  refine bl_cons 11 rfl (isV (.bool r1)) (stab_isV _) (rg_call [isV _, isV _] rfl goes_20 (w_free rfl) ⟨p_tmp (g_dep 4 (by kernel_rfl) (at_dep rfl rfl rfl)), p_tmp (g_dep 9 (by kernel_rfl) (at_dep rfl rfl rfl)), trivial⟩ (fun vs w' hb hh => by have e := holds_isV (us := [_, _]) hh; subst e; exact (sameW_plain (hx1.below (hS.below.trans (hb.mono hS.below.size))) (hy1.below (hS.below.trans (hb.mono hS.below.size))) r1 hr1).mono fun e w2 h => ⟨.bool r1, h.1, rfl, h.2⟩) (at_top rfl)) ?_
  refine bl_cons 12 rfl (isV _) (stab_isV _) (rgV (li := [(80, _)]) rfl (w_free rfl) ⟨g_dep 10 (by kernel_rfl) (at_dep rfl rfl rfl), trivial⟩ (fun w hw => rn_not rfl) (at_top rfl)) ?_
  refine bl_nil ?_
  intro W4 hbR hS'
  clear hS; have hS := hS'; clear hS'
  refine fin_v ?_
  refine fin_v ?_
  refine fin_v ?_
  refine fin_v ?_
  refine fin_v ?_
  refine fin_v ?_
  refine fin_v ?_
  refine fin_v ?_
  refine fin_v ?_
  refine fin_v ?_
  refine fin_v ?_
  refine fin_v ?_
  refine fin_nil ?_
  refine XF.thenN ?_
  refine condF rfl (fun hc => ?_) (fun hc => ?_)
  ·have hc81 := hc; clear hc
   refine seqF (regF ?_)
   refine op_assign rfl rfl ?_
   refine endF (XF.thenN ?_)
   refine retF ?_
   refine XF.blkR ?_
   refine XF.thenR ?_
   refine XF.thenR ?_
   refine XF.blkR ?_
   refine XF.thenR ?_
   refine XF.res (res1 Try.results20 rfl) ?_
   exact ⟨rbool (r_false hr (fun h => by rw [hr1.2 h.1] at hc81; cases hc81)), hS.below⟩
  ·have hc81 := hc; clear hc
   refine skipF ?_
   refine XF.blkN ?_
   refine XF.thenN ?_
   refine regF ?_
   refine op_move rfl rfl ?_
   refine op_add rfl rfl (IntWalk.i64_in _ (by omega)) rfl ?_
   refine op_assign rfl rfl ?_
   refine endF ?_
   exact XF.round 1 [(2, _), (3, _), (6, _)] (by omega) ⟨rfl, rfl, rfl, trivial⟩ (.inr (.inl ⟨rfl, rfl, by simpa using hc81, hS.clear⟩))
 ·have k1 := CellsAt.agree hS.agree (Nat.zero_le _) hf7.cells
  have k2 := CellsAt.agree hS.agree (Nat.zero_le _) hg7.cells
  refine seqF ?_
  refine seqF (regF ?_)
  refine op_move rfl rfl ?_
  refine op_field (o' := 5) fa_54_4 rfl rfl rfl ?_
  refine op_load Try.isAgg52 rfl (cell_own (hS.at_ 1 rfl) rfl) rfl ?_
  refine op_len Try.underlying52 rfl rfl ?_
  refine op_lss rfl rfl rfl ?_
  refine endF (XF.thenN ?_)
  refine condF rfl (fun hc => ?_) (fun hc => absurd (of_decide_eq_false hc) (by omega))
  have hc := of_decide_eq_true hc
  refine skipF ?_
  refine XF.thenN ?_
  refine seqF ?_
  refine blockF ?_
  refine seqF ?_
  refine regB (m := 12) followsM hS (by kernel_rfl) (by kernel_rfl) rfl ?_
  refine bl_cons 1 rfl (isV _) (stab_isV _) (rgV (li := [(2, _)]) rfl (w_free rfl) ⟨g_fr (by kernel_rfl) rfl, trivial⟩ (fun w hw => rn_field (o' := 5) fa_54_4 rfl rfl) (at_top rfl)) ?_
  refine bl_cons 2 rfl (isV _) (stab_isV _) (rgV (li := [(70, _)]) rfl (w_free rfl) ⟨g_dep 0 (by kernel_rfl) (at_dep rfl rfl rfl), trivial⟩ (fun w hw => rn_load Try.isAgg52 rfl ((below_agree hw 0).cell (Nat.zero_le _) (cell_own (hS.at_ 1 rfl) rfl))) (at_top rfl)) ?_
  refine bl_cons 3 rfl (isV _) (stab_isV _) (rgV (li := [(6, _)]) rfl (w_free rfl) ⟨g_fr (by kernel_rfl) rfl, trivial⟩ (fun w hw => rn_move rfl) (at_top rfl)) ?_
  refine bl_cons 4 rfl (isV _) (stab_isV _) (rgV (li := [(71, _), (72, _)]) rfl (w_free rfl) ⟨g_dep 1 (by kernel_rfl) (at_dep rfl rfl rfl), g_dep 2 (by kernel_rfl) (at_dep rfl rfl rfl), trivial⟩ (fun w hw => rn_indexA (j := 1) Try.underlying52 Try.sizeOf54 rfl rfl rfl (by omega) rfl) (at_top rfl)) ?_
  refine bl_cons 5 rfl (isV _) (stab_isV _) (rgV (li := [(73, _)]) rfl (w_free rfl) ⟨g_dep 3 (by kernel_rfl) (at_dep rfl rfl rfl), trivial⟩ (fun w hw => rn_loadA (vs := [_, _, _, _, _, _]) Try.isAgg54 Try.sizeOf54 rfl (CellsAt.agree (below_agree hw 0) (Nat.zero_le _) (by assumption))) (at_top rfl)) ?_
  refine bl_cons 6 rfl (isV _) (stab_isV _) (rgV (li := [(3, _)]) rfl (w_free rfl) ⟨g_fr (by kernel_rfl) rfl, trivial⟩ (fun w hw => rn_field (o' := 5) fa_54_4 rfl rfl) (at_top rfl)) ?_
  refine bl_cons 7 rfl (isV _) (stab_isV _) (rgV (li := [(75, _)]) rfl (w_free rfl) ⟨g_dep 5 (by kernel_rfl) (at_dep rfl rfl rfl), trivial⟩ (fun w hw => rn_load Try.isAgg52 rfl ((below_agree hw 0).cell (Nat.zero_le _) (cell_own (hS.at_ 0 rfl) rfl))) (at_top rfl)) ?_
  refine bl_cons 8 rfl (isV _) (stab_isV _) (rgV (li := [(6, _)]) rfl (w_free rfl) ⟨g_fr (by kernel_rfl) rfl, trivial⟩ (fun w hw => rn_move rfl) (at_top rfl)) ?_
  refine bl_cons 9 rfl (isV _) (stab_isV _) (rgV (li := [(76, _), (77, _)]) rfl (w_free rfl) ⟨g_dep 6 (by kernel_rfl) (at_dep rfl rfl rfl), g_dep 7 (by kernel_rfl) (at_dep rfl rfl rfl), trivial⟩ (fun w hw => rn_indexA (j := 1) Try.underlying52 Try.sizeOf54 rfl rfl rfl (by omega) rfl) (at_top rfl)) ?_
  refine bl_cons 10 rfl (isV _) (stab_isV _) (rgV (li := [(78, _)]) rfl (w_free rfl) ⟨g_dep 8 (by kernel_rfl) (at_dep rfl rfl rfl), trivial⟩ (fun w hw => rn_loadA (vs := [_, _, _, _, _, _]) Try.isAgg54 Try.sizeOf54 rfl (CellsAt.agree (below_agree hw 0) (Nat.zero_le _) (by assumption))) (at_top rfl)) ?_
  refine bl_cons 11 rfl (isV (.bool r2)) (stab_isV _) (rg_call [isV _, isV _] rfl goes_20 (w_free rfl) ⟨p_tmp (g_dep 4 (by kernel_rfl) (at_dep rfl rfl rfl)), p_tmp (g_dep 9 (by kernel_rfl) (at_dep rfl rfl rfl)), trivial⟩ (fun vs w' hb hh => by have e := holds_isV (us := [_, _]) hh; subst e; exact (sameW_plain (hx2.below (hS.below.trans (hb.mono hS.below.size))) (hy2.below (hS.below.trans (hb.mono hS.below.size))) r2 hr2).mono fun e w2 h => ⟨.bool r2, h.1, rfl, h.2⟩) (at_top rfl)) ?_
  refine bl_cons 12 rfl (isV _) (stab_isV _) (rgV (li := [(80, _)]) rfl (w_free rfl) ⟨g_dep 10 (by kernel_rfl) (at_dep rfl rfl rfl), trivial⟩ (fun w hw => rn_not rfl) (at_top rfl)) ?_
  refine bl_nil ?_
  intro W5 hbR hS'
  clear hS; have hS := hS'; clear hS'
  refine fin_v ?_
  refine fin_v ?_
  refine fin_v ?_
  refine fin_v ?_
  refine fin_v ?_
  refine fin_v ?_
  refine fin_v ?_
  refine fin_v ?_
  refine fin_v ?_
  refine fin_v ?_
  refine fin_v ?_
  refine fin_v ?_
  refine fin_nil ?_
  refine XF.thenN ?_
  refine condF rfl (fun hc => ?_) (fun hc => ?_)
  ·have hc81 := hc; clear hc
   refine seqF (regF ?_)
   refine op_assign rfl rfl ?_
   refine endF (XF.thenN ?_)
   refine retF ?_
   refine XF.blkR ?_
   refine XF.thenR ?_
   refine XF.thenR ?_
   refine XF.blkR ?_
   refine XF.thenR ?_
   refine XF.res (res1 Try.results20 rfl) ?_
   exact ⟨rbool (r_false hr (fun h => by rw [hr2.2 h.2] at hc81; cases hc81)), hS.below⟩
  ·have hc81 := hc; clear hc
   refine skipF ?_
   refine XF.blkN ?_
   refine XF.thenN ?_
   refine regF ?_
   refine op_move rfl rfl ?_
   refine op_add rfl rfl (IntWalk.i64_in _ (by omega)) rfl ?_
   refine op_assign rfl rfl ?_
   refine endF ?_
   exact XF.round 0 [(2, _), (3, _), (6, _)] (by omega) ⟨rfl, rfl, rfl, trivial⟩ (.inr (.inr ⟨rfl, rfl, hq1, by simpa using hc81, hS.clear⟩))
 ·skip
  refine seqF ?_
  refine seqF (regF ?_)
  refine op_move rfl rfl ?_
  refine op_field (o' := 5) fa_54_4 rfl rfl rfl ?_
  refine op_load Try.isAgg52 rfl (cell_own (hS.at_ 1 rfl) rfl) rfl ?_
  refine op_len Try.underlying52 rfl rfl ?_
  refine op_lss rfl rfl rfl ?_
  refine endF (XF.thenN ?_)
  refine condF rfl (fun hc => absurd (of_decide_eq_true hc) (by omega)) (fun hc => ?_)
  have hc := of_decide_eq_false hc
  refine exitF ?_
  refine XF.thenX ?_
  refine XF.thenX ?_
  refine XF.blkX ?_
  refine XF.thenN ?_
  refine seqF (regF ?_)
  refine op_assign rfl rfl ?_
  refine endF (XF.thenN ?_)
  refine retF ?_
  refine XF.res (res1 Try.results20 rfl) ?_
  exact ⟨rbool (r_true hr ⟨hr1.1 hq1, hr2.1 hq2⟩), hS.below⟩
theorem sameW_is {w : World} {S : PS} {f g : WF} {x y : PX} (hx : XIs w S f x) (hy : XIs w S g y) (r : Bool) (hr : r = true ↔ x = y) : Calls Try.prog 20 #[f.val, g.val] w fun e w' => e = .returned (.bool r) ∧ Below w.heap.size w w' := by
 classical
 cases S <;> cases x <;> cases y <;> first | exact hx.elim | exact hy.elim | skip
 ·exact sameW_plain hx hy r (by rw [hr]; simp)
 ·obtain ⟨ra, ca, rc, cc, pc, fb, fo, f1, f2, rfl, h6, h7, h8, h9⟩ := hx.two
  obtain ⟨ra', ca', rc', cc', pc', gb, go, g1, g2, rfl, h6', h7', h8', h9'⟩ := hy.two
  exact sameW_two _ _ _ _ _ _ _ _ _ _ _ _ _ _ _ _ _ _ _ _ _ _ _ _ _ _ w h6 h7 h6' h7' h8 h9 h8' h9' r (decide _) (decide _) (by rw [hr]; simp) decide_eq_true_iff decide_eq_true_iff
end Go.Proofs.Ytnhnedifekejpaa
namespace Go.Proofs.Ytnhnedifekejpaa
open Go Go.RowKit
theorem frow2 {W : World} {B : Nat} {T : TypeId} {f g : WF} (h : W.heap[B]? = some (.cells (List.toArray (f.six ++ g.six)) T (0, 0))) : FRow W (some ⟨B, 0, none⟩) [f, g] :=
 .inr ⟨B, 0, rfl, fun i k hi => by
  match i, hi with
  | 0, hi => simp at hi; subst hi; exact W6.of_cells (CellsAt.own (j := 0) (m := 6) h rfl)
  | 1, hi => simp at hi; subst hi; exact W6.of_cells (CellsAt.own (j := 6) (m := 6) h rfl)⟩
end Go.Proofs.Ytnhnedifekejpaa
namespace Go.Proofs.Ytnhnedifekejpaa
open Go.RowKit
set_option linter.unusedSimpArgs false
def pc : Nat → Nat → Nat
 | 0, _ => 0
 | n + 1, f => pc n f + (if f.testBit n then 1 else 0)
end Go.Proofs.Ytnhnedifekejpaa
namespace Go.Proofs.Ytnhnedifekejpaa
open Go Go.RowKit
def eqS : Nat → SV → SV → Bool
 | 0, _, _ => false
 | k + 1, .mk f ps, .mk g qs => decide (f.tag = g.tag) && (decide (f.dim = g.dim) && (decide (ps.length = qs.length) && (ps.zip qs).all fun x => eqS k x.1 x.2))
theorem smS_succ {j : Nat} {f : SF} {ps : List SV} (h : smS (j + 1) (.mk f ps) = true) : f.len ≤ 3 ∧ ∀ p ∈ ps, smS j p = true := by
 simp only [smS, Bool.and_eq_true, decide_eq_true_eq, List.all_eq_true] at h
 exact h
theorem sameSpaceR_step (k j : Nat) (t n u m : Int) (pa qa : Option Addr) (pl ql pc qc : Nat) (ps qs : List SV) (w : World) (hps : ps.length = pl) (hqs : qs.length = ql) (hrow : SRow w pa ps) (hrow2 : SRow w qa qs) (hin : ∀ p ∈ ps, SIn w k p) (hin2 : ∀ p ∈ qs, SIn w k p) (hpl : pl ≤ 9223372036854775807) (hsm : ∀ p ∈ ps, smS j p = true) (ih : ∀ (p q : SV) (W : World), SIn W k p → SIn W k q → smS j p = true → Calls Try.prog 54 #[p.f.val, q.f.val] W fun e w' => e = .returned (.bool (eqS k p q)) ∧ Below W.heap.size W w') :
  Calls Try.prog 54 #[.agg #[.int .i64 t, .int .i64 n, .slice pa pl pc], .agg #[.int .i64 u, .int .i64 m, .slice qa ql qc]] w (fun e w' => e = .returned (.bool (eqS (k + 1) (.mk ⟨t, n, pa, pl, pc⟩ ps) (.mk ⟨u, m, qa, ql, qc⟩ qs))) ∧ Below w.heap.size w w') := by
 refine enterF (args := [.agg #[.int .i64 t, .int .i64 n, .slice pa pl pc], .agg #[.int .i64 u, .int .i64 m, .slice qa ql qc]]) Try.func54 rfl Try.ntmps54 rfl ?_
 have hS := St.start w
 refine seqF (regF ?_)
 refine op_box (cs := [_, _, _]) hS rfl rfl rfl ?_
 clear hS; intro B1 W1 hS
 refine op_box (cs := [_, _, _]) hS rfl rfl rfl ?_
 clear hS; intro B2 W2 hS
 refine op_assign rfl rfl ?_
 refine endF (XF.thenN ?_)
 refine seqF ?_
 refine seqF (regF ?_)
 refine op_field (o' := 0) fa_25_0 rfl rfl rfl ?_
 refine op_load Try.isAgg22 rfl (cell_own (hS.at_ 1 rfl) rfl) rfl ?_
 refine op_field (o' := 0) fa_25_0 rfl rfl rfl ?_
 refine op_load Try.isAgg22 rfl (cell_own (hS.at_ 0 rfl) rfl) rfl ?_
 refine op_neq rfl rfl rfl ?_
 refine op_move rfl rfl ?_
 refine op_cases (d := 11) rfl (fun hc => ?_) (fun hc => ?_)
 ·have hg11 := of_decide_eq_true hc; clear hc
  refine op_notF (d := 11) rfl rfl rfl rfl ?_
  refine op_notF (d := 11) rfl rfl rfl rfl ?_
  refine op_notF (d := 11) rfl rfl rfl rfl ?_
  refine op_notF (d := 11) rfl rfl rfl rfl ?_
  refine op_notF (d := 11) rfl rfl rfl rfl ?_
  refine op_pickT rfl rfl rfl ?_
  refine op_move rfl rfl ?_
  refine op_notF (d := 18) rfl rfl rfl rfl ?_
  refine op_notF (d := 18) rfl rfl rfl rfl ?_
  refine op_notF (d := 18) rfl rfl rfl rfl ?_
  refine op_notF (d := 18) rfl rfl rfl rfl ?_
  refine op_notF (d := 18) rfl rfl rfl rfl ?_
  refine op_notF (d := 18) rfl rfl rfl rfl ?_
  refine op_notF (d := 18) rfl rfl rfl rfl ?_
  refine op_pickT rfl rfl rfl ?_
  refine endF (XF.thenN ?_)
  refine condT rfl ?_
  refine seqF (regF ?_)
  refine op_assign rfl rfl ?_
  refine endF (XF.thenN ?_)
  refine retF ?_
  refine XF.thenR ?_
  refine XF.res (res1 Try.results54 rfl) ?_
  exact ⟨rbool (by simp only [eqS]; rw [decide_eq_false (show ¬ t = u by omega)]; rfl), hS.below⟩
 ·have hg11 := of_decide_eq_false hc; clear hc
  refine op_wantedF (d := 11) rfl rfl ?_
  refine op_field (o' := 1) fa_25_1 rfl rfl rfl ?_
  refine op_wantedF (d := 11) rfl rfl ?_
  refine op_load Try.isAgg3 rfl (cell_own (hS.at_ 1 rfl) rfl) rfl ?_
  refine op_wantedF (d := 11) rfl rfl ?_
  refine op_field (o' := 1) fa_25_1 rfl rfl rfl ?_
  refine op_wantedF (d := 11) rfl rfl ?_
  refine op_load Try.isAgg3 rfl (cell_own (hS.at_ 0 rfl) rfl) rfl ?_
  refine op_wantedF (d := 11) rfl rfl ?_
  refine op_neq rfl rfl rfl ?_
  refine op_pickF rfl rfl rfl ?_
  refine op_move rfl rfl ?_
  refine op_cases (d := 18) rfl (fun hc => ?_) (fun hc => ?_)
  ·have hg18 := of_decide_eq_true hc; clear hc
   refine op_notF (d := 18) rfl rfl rfl rfl ?_
   refine op_notF (d := 18) rfl rfl rfl rfl ?_
   refine op_notF (d := 18) rfl rfl rfl rfl ?_
   refine op_notF (d := 18) rfl rfl rfl rfl ?_
   refine op_notF (d := 18) rfl rfl rfl rfl ?_
   refine op_notF (d := 18) rfl rfl rfl rfl ?_
   refine op_notF (d := 18) rfl rfl rfl rfl ?_
   refine op_pickT rfl rfl rfl ?_
   refine endF (XF.thenN ?_)
   refine condT rfl ?_
   refine seqF (regF ?_)
   refine op_assign rfl rfl ?_
   refine endF (XF.thenN ?_)
   refine retF ?_
   refine XF.thenR ?_
   refine XF.res (res1 Try.results54 rfl) ?_
   exact ⟨rbool (by simp only [eqS]; rw [decide_eq_false (show ¬ n = m by omega)]; simp), hS.below⟩
  ·have hg18 := of_decide_eq_false hc; clear hc
   refine op_wantedF (d := 18) rfl rfl ?_
   refine op_field (o' := 2) fa_25_2 rfl rfl rfl ?_
   refine op_wantedF (d := 18) rfl rfl ?_
   refine op_load Try.isAgg23 rfl (cell_own (hS.at_ 1 rfl) rfl) rfl ?_
   refine op_wantedF (d := 18) rfl rfl ?_
   refine op_len Try.underlying23 rfl rfl ?_
   refine op_wantedF (d := 18) rfl rfl ?_
   refine op_field (o' := 2) fa_25_2 rfl rfl rfl ?_
   refine op_wantedF (d := 18) rfl rfl ?_
   refine op_load Try.isAgg23 rfl (cell_own (hS.at_ 0 rfl) rfl) rfl ?_
   refine op_wantedF (d := 18) rfl rfl ?_
   refine op_len Try.underlying23 rfl rfl ?_
   refine op_wantedF (d := 18) rfl rfl ?_
   refine op_neq rfl rfl rfl ?_
   refine op_pickF rfl rfl rfl ?_
   refine endF (XF.thenN ?_)
   refine condF rfl (fun hc => ?_) (fun hc => ?_)
   ·have hc26 := of_decide_eq_true hc; clear hc
    refine seqF (regF ?_)
    refine op_assign rfl rfl ?_
    refine endF (XF.thenN ?_)
    refine retF ?_
    refine XF.thenR ?_
    refine XF.res (res1 Try.results54 rfl) ?_
    exact ⟨rbool (by simp only [eqS]; rw [decide_eq_false (show ¬ ps.length = qs.length by omega)]; simp), hS.below⟩
   ·have hc26 := of_decide_eq_false hc; clear hc
    refine skipF ?_
    refine XF.thenN ?_
    refine seqF ?_
    refine seqF (regF ?_)
    refine op_assign rfl rfl ?_
    refine endF (XF.thenN ?_)
    refine blockF ?_
    refine loopF (fun q l W => ∃ i : Nat, i ≤ pl ∧ q = pl - i ∧ l = [(2, .pointer (some ⟨B1, 0, none⟩)), (3, .pointer (some ⟨B2, 0, none⟩)), (5, .int .i64 (i : Int))] ∧ ((ps.zip qs).take i).all (fun x => eqS k x.1 x.2) = true ∧ St w [(B2, [.int .i64 u, .int .i64 m, .slice qa ql qc], 25), (B1, [.int .i64 t, .int .i64 n, .slice pa pl pc], 25)] [] [] W) (pl - 0) ([(2, _), (3, _), (5, _)]) ⟨rfl, rfl, rfl, trivial⟩ (⟨0, Nat.zero_le _, rfl, rfl, rfl, hS.clear⟩) ?_
    clear hS
    rintro q l W ⟨i, hi, rfl, rfl, hall, hS⟩
    refine seqF ?_
    refine seqF (regF ?_)
    refine op_move rfl rfl ?_
    refine op_field (o' := 2) fa_25_2 rfl rfl rfl ?_
    refine op_load Try.isAgg23 rfl (cell_own (hS.at_ 1 rfl) rfl) rfl ?_
    refine op_len Try.underlying23 rfl rfl ?_
    refine op_lss rfl rfl rfl ?_
    refine endF (XF.thenN ?_)
    refine condF rfl (fun hc => ?_) (fun hc => ?_)
    ·have hc31 := of_decide_eq_true hc; clear hc
     have hk : i < pl := by omega
     obtain ⟨p, hp⟩ : ∃ p, ps[i]? = some p := ⟨ps[i]'(by omega), List.getElem?_eq_getElem _⟩
     obtain ⟨q, hq⟩ : ∃ q, qs[i]? = some q := ⟨qs[i]'(by omega), List.getElem?_eq_getElem _⟩
     have hz : (ps.zip qs)[i]? = some (p, q) := List.getElem?_zip_eq_some.2 ⟨hp, hq⟩
     obtain ⟨b, off, rfl, hb, h6⟩ := hrow.at_ hp
     obtain ⟨b2, off2, rfl, hb2, h7⟩ := hrow2.at_ hq
     have k1 := CellsAt.agree hS.agree (Nat.zero_le _) h6.cells
     have k2 := CellsAt.agree hS.agree (Nat.zero_le _) h7.cells
     refine skipF ?_
     refine XF.thenN ?_
     refine seqF ?_
     refine blockF ?_
     refine seqF ?_
     refine regB (m := 12) followsM hS (by kernel_rfl) (by kernel_rfl) rfl ?_
     refine bl_cons 1 rfl (isV _) (stab_isV _) (rgV (li := [(2, _)]) rfl (w_free rfl) ⟨g_fr (by kernel_rfl) rfl, trivial⟩ (fun w hw => rn_field (o' := 2) fa_25_2 rfl rfl) (at_top rfl)) ?_
     refine bl_cons 2 rfl (isV _) (stab_isV _) (rgV (li := [(34, _)]) rfl (w_free rfl) ⟨g_dep 0 (by kernel_rfl) (at_dep rfl rfl rfl), trivial⟩ (fun w hw => rn_load Try.isAgg23 rfl ((below_agree hw 0).cell (Nat.zero_le _) (cell_own (hS.at_ 1 rfl) rfl))) (at_top rfl)) ?_
     refine bl_cons 3 rfl (isV _) (stab_isV _) (rgV (li := [(5, _)]) rfl (w_free rfl) ⟨g_fr (by kernel_rfl) rfl, trivial⟩ (fun w hw => rn_move rfl) (at_top rfl)) ?_
     refine bl_cons 4 rfl (isV _) (stab_isV _) (rgV (li := [(35, _), (36, _)]) rfl (w_free rfl) ⟨g_dep 1 (by kernel_rfl) (at_dep rfl rfl rfl), g_dep 2 (by kernel_rfl) (at_dep rfl rfl rfl), trivial⟩ (fun w hw => rn_indexA  Try.underlying23 Try.sizeOf25 rfl rfl rfl (by omega) rfl) (at_top rfl)) ?_
     refine bl_cons 5 rfl (isV _) (stab_isV _) (rgV (li := [(37, _)]) rfl (w_free rfl) ⟨g_dep 3 (by kernel_rfl) (at_dep rfl rfl rfl), trivial⟩ (fun w hw => rn_loadA (vs := [_, _, _]) Try.isAgg25 Try.sizeOf25 rfl (CellsAt.agree (below_agree hw 0) (Nat.zero_le _) (by assumption))) (at_top rfl)) ?_
     refine bl_cons 6 rfl (isV _) (stab_isV _) (rgV (li := [(3, _)]) rfl (w_free rfl) ⟨g_fr (by kernel_rfl) rfl, trivial⟩ (fun w hw => rn_field (o' := 2) fa_25_2 rfl rfl) (at_top rfl)) ?_
     refine bl_cons 7 rfl (isV _) (stab_isV _) (rgV (li := [(39, _)]) rfl (w_free rfl) ⟨g_dep 5 (by kernel_rfl) (at_dep rfl rfl rfl), trivial⟩ (fun w hw => rn_load Try.isAgg23 rfl ((below_agree hw 0).cell (Nat.zero_le _) (cell_own (hS.at_ 0 rfl) rfl))) (at_top rfl)) ?_
     refine bl_cons 8 rfl (isV _) (stab_isV _) (rgV (li := [(5, _)]) rfl (w_free rfl) ⟨g_fr (by kernel_rfl) rfl, trivial⟩ (fun w hw => rn_move rfl) (at_top rfl)) ?_
     refine bl_cons 9 rfl (isV _) (stab_isV _) (rgV (li := [(40, _), (41, _)]) rfl (w_free rfl) ⟨g_dep 6 (by kernel_rfl) (at_dep rfl rfl rfl), g_dep 7 (by kernel_rfl) (at_dep rfl rfl rfl), trivial⟩ (fun w hw => rn_indexA  Try.underlying23 Try.sizeOf25 rfl rfl rfl (by omega) rfl) (at_top rfl)) ?_
     refine bl_cons 10 rfl (isV _) (stab_isV _) (rgV (li := [(42, _)]) rfl (w_free rfl) ⟨g_dep 8 (by kernel_rfl) (at_dep rfl rfl rfl), trivial⟩ (fun w hw => rn_loadA (vs := [_, _, _]) Try.isAgg25 Try.sizeOf25 rfl (CellsAt.agree (below_agree hw 0) (Nat.zero_le _) (by assumption))) (at_top rfl)) ?_
     refine bl_cons 11 rfl (isV (.bool (eqS k p q))) (stab_isV _) (rg_call [isV _, isV _] rfl goes_54 (w_free rfl) ⟨p_tmp (g_dep 4 (by kernel_rfl) (at_dep rfl rfl rfl)), p_tmp (g_dep 9 (by kernel_rfl) (at_dep rfl rfl rfl)), trivial⟩ (fun vs w' hb hh => by have e := holds_isV (us := [_, _]) hh; subst e; exact (ih p q _ (SIn.below (hS.below.trans (hb.mono hS.below.size)) (hin p (List.mem_of_getElem? hp))) (SIn.below (hS.below.trans (hb.mono hS.below.size)) (hin2 q (List.mem_of_getElem? hq))) (hsm p (List.mem_of_getElem? hp))).mono fun e w2 h => ⟨_, h.1, rfl, h.2⟩) (at_top rfl)) ?_
     refine bl_cons 12 rfl (isV _) (stab_isV _) (rgV (li := [(44, _)]) rfl (w_free rfl) ⟨g_dep 10 (by kernel_rfl) (at_dep rfl rfl rfl), trivial⟩ (fun w hw => rn_not rfl) (at_top rfl)) ?_
     refine bl_nil ?_
     intro W3 hbR hS'
     clear hS; have hS := hS'; clear hS'
     refine fin_v ?_
     refine fin_v ?_
     refine fin_v ?_
     refine fin_v ?_
     refine fin_v ?_
     refine fin_v ?_
     refine fin_v ?_
     refine fin_v ?_
     refine fin_v ?_
     refine fin_v ?_
     refine fin_v ?_
     refine fin_v ?_
     refine fin_nil ?_
     refine XF.thenN ?_
     refine condF rfl (fun hc => ?_) (fun hc => ?_)
     ·have hc45 := hc; clear hc
      refine seqF (regF ?_)
      refine op_assign rfl rfl ?_
      refine endF (XF.thenN ?_)
      refine retF ?_
      refine XF.blkR ?_
      refine XF.thenR ?_
      refine XF.thenR ?_
      refine XF.blkR ?_
      refine XF.thenR ?_
      refine XF.res (res1 Try.results54 rfl) ?_
      exact ⟨rbool (by simp only [eqS]; rw [all_false_at hz (by simpa using hc45)]; simp), hS.below⟩
     ·have hc45 := hc; clear hc
      refine skipF ?_
      refine XF.blkN ?_
      refine XF.thenN ?_
      refine regF ?_
      refine op_move rfl rfl ?_
      refine op_add rfl rfl (IntWalk.i64_in _ (by omega)) rfl ?_
      refine op_assign rfl rfl ?_
      refine endF ?_
      exact XF.round (pl - (i + 1)) [(2, _), (3, _), (5, _)] (by omega) ⟨rfl, rfl, rfl, trivial⟩ ⟨i + 1, by omega, rfl, rfl, all_take_at hz hall (by simpa using hc45), hS.clear⟩
    ·have hc31 := of_decide_eq_false hc; clear hc
     refine exitF ?_
     refine XF.thenX ?_
     refine XF.thenX ?_
     refine XF.blkX ?_
     refine XF.thenN ?_
     refine seqF (regF ?_)
     refine op_assign rfl rfl ?_
     refine endF (XF.thenN ?_)
     refine retF ?_
     refine XF.res (res1 Try.results54 rfl) ?_
     rw [List.take_of_length_le (by rw [List.length_zip]; omega)] at hall
     exact ⟨rbool (by simp only [eqS]; rw [hall, decide_eq_true (show t = u by omega), decide_eq_true (show n = m by omega), decide_eq_true (show ps.length = qs.length by omega)]; rfl), hS.below⟩
theorem sameSpaceR_is : ∀ (k j : Nat) (s t : SV) (w : World), SIn w k s → SIn w k t → smS j s = true → Calls Try.prog 54 #[s.f.val, t.f.val] w fun e w' => e = .returned (.bool (eqS k s t)) ∧ Below w.heap.size w w'
 | 0, _, s, t, w, hs, ht, _ => hs.elim
 | k + 1, 0, s, t, w, hs, ht, h => by simp [smS] at h
 | k + 1, j + 1, .mk ⟨t, n, pa, pl, pc⟩ ps, .mk ⟨u, m, qa, ql, qc⟩ qs, w, hs, ht, h => sameSpaceR_step k j t n u m pa qa pl ql pc qc ps qs w hs.1 ht.1 hs.2.1 ht.2.1 hs.2.2 ht.2.2 (by have : pl ≤ 3 := (smS_succ h).1; omega) (smS_succ h).2 (fun p q W hp hq hj => sameSpaceR_is k j p q W hp hq hj)
end Go.Proofs.Ytnhnedifekejpaa
namespace Go.Proofs.Ytnhnedifekejpaa
open Go Go.RowKit
theorem spaceR_ok {S : PS} {sf : SF} {w : World} (hs : SIs w S sf) (hok : S.ok) : Calls Try.prog 46 #[sf.val] w fun e w' => e = .returned (.int .i64 0) ∧ Below w.heap.size w w' := by
 obtain ⟨s, rfl, h, he⟩ := SIs.sin hs hok
 exact spaceR_is 2 s 0 w h he
end Go.Proofs.Ytnhnedifekejpaa
namespace Go.Proofs.Ytnhnedifekejpaa
open Go.RowKit
attribute [local go_sem ↓] Go.wp_at_zero Go.wp_at_succ
theorem isA_genY {w : World} {ds da : Nat} {s : SV} {x : WV} (hs : SIn w ds s) (hse : spaceE s = 0) (hx : WIn w da x) :
  Calls Try.prog 108 #[s.f.val, x.f.val] w fun e w' => e = .returned (.bool (okW s x)) ∧ Below w.heap.size w w' := by
 match ds, da, s, x, hs, hx with
 | ds + 1, da + 1, .mk f ps, .mk g qs, hs, hx =>
  by_cases hp : plainB f.tag f.dim f.len = true
  ·refine isA_plainY f.tag f.dim f.a f.len f.cap g hp (Nat.zero_le _) w hx.1 _ ?_
   unfold okW; exact (if_pos hp).symm
  ·have hse' : (if plainB f.tag f.dim f.len = true then (0 : Int) else if f.tag = 5 ∧ f.dim = 0 ∧ ps.length = 2 ∧ ps.all SV.pl = true then 0 else 50) = 0 := hse
   rw [if_neg hp] at hse'
   split at hse'
   ·rename_i hq
    obtain ⟨h5, h0, h2, hall⟩ := hq
    obtain ⟨t, n, a, l, c⟩ := f
    dsimp only at h5 h0 hp
    subst h5; subst h0
    obtain ⟨p, q, rfl⟩ := two_of h2
    have hl : 2 = l := hs.1
    subst hl
    simp only [List.all_cons, List.all_nil, Bool.and_true, Bool.and_eq_true] at hall
    refine isA_pairY ds a c p q g qs w hs hall.1 hall.2 da hx (fun _ _ => Nat.zero_le _) _ ?_
    unfold okW; exact (if_neg hp).symm
   ·cases hse'
theorem isR_genY {w : World} {ds da : Nat} {s : SV} {x : WV} (hs : SIn w ds s) (hse : spaceE s = 0) (hx : WIn w da x) :
  Calls Try.prog 79 #[s.f.val, x.f.val] w fun e w' => e = .returned (.bool (okW s x)) ∧ Below w.heap.size w w' := by
 match ds, da, s, x, hs, hx with
 | ds + 1, da + 1, .mk f ps, .mk g qs, hs, hx =>
  by_cases hp : plainB f.tag f.dim f.len = true
  ·refine isR_plainY f.tag f.dim f.a f.len f.cap g hp (Nat.zero_le _) w hx.1 _ ?_
   unfold okW; exact (if_pos hp).symm
  ·have hse' : (if plainB f.tag f.dim f.len = true then (0 : Int) else if f.tag = 5 ∧ f.dim = 0 ∧ ps.length = 2 ∧ ps.all SV.pl = true then 0 else 50) = 0 := hse
   rw [if_neg hp] at hse'
   split at hse'
   ·rename_i hq
    obtain ⟨h5, h0, h2, hall⟩ := hq
    obtain ⟨t, n, a, l, c⟩ := f
    dsimp only at h5 h0 hp
    subst h5; subst h0
    obtain ⟨p, q, rfl⟩ := two_of h2
    have hl : 2 = l := hs.1
    subst hl
    simp only [List.all_cons, List.all_nil, Bool.and_true, Bool.and_eq_true] at hall
    refine isR_pairY ds a c p q g qs w hs hall.1 hall.2 da hx (fun _ _ => Nat.zero_le _) _ ?_
    unfold okW; exact (if_neg hp).symm
   ·cases hse'
end Go.Proofs.Ytnhnedifekejpaa
namespace Go.Proofs.Ytnhnedifekejpaa
open Go Go.RowKit
structure RV where
 p : Int
 g : Int
 q : Int
 wa : Option Addr
 wl : Nat
 wc : Nat
 ws : List Int
 x : WV
abbrev RV.val (r : RV) : Value := .agg #[.int .i64 r.p, .int .i64 r.g, .int .i64 r.q, .slice r.wa r.wl r.wc, .bool r.x.f.z, .int .i64 r.x.f.c, .int .u64 (r.x.f.g : Int), .slice r.x.f.ra r.x.f.rl r.x.f.rc, .slice r.x.f.ca r.x.f.cl r.x.f.cc, .slice r.x.f.pa r.x.f.pl r.x.f.pc]
abbrev RV.ten (r : RV) : List Value := [.int .i64 r.p, .int .i64 r.g, .int .i64 r.q, .slice r.wa r.wl r.wc, .bool r.x.f.z, .int .i64 r.x.f.c, .int .u64 (r.x.f.g : Int), .slice r.x.f.ra r.x.f.rl r.x.f.rc, .slice r.x.f.ca r.x.f.cl r.x.f.cc, .slice r.x.f.pa r.x.f.pl r.x.f.pc]
structure RIn (w : World) (d : Nat) (r : RV) : Prop where
 row : Row w r.wa r.ws
 len : r.ws.length = r.wl
 x : WIn w d r.x
def RRow (w : World) (a : Option Addr) (rs : List RV) : Prop :=
 rs = [] ∨ ∃ b off, a = some ⟨b, off, none⟩ ∧ ∀ (i : Nat) r, rs[i]? = some r → CellsAt w b (off + i * 10) r.ten
structure PV where
 s : SV
 st : Int
 sy : Int
 ra : Option Addr
 rl : Nat
 rc : Nat
 rs : List RV
abbrev PV.val (p : PV) : Value := .agg #[.int .i64 p.s.f.tag, .int .i64 p.s.f.dim, .slice p.s.f.a p.s.f.len p.s.f.cap, .int .i64 p.st, .int .i64 p.sy, .slice p.ra p.rl p.rc]
abbrev PV.six (p : PV) : List Value := [.int .i64 p.s.f.tag, .int .i64 p.s.f.dim, .slice p.s.f.a p.s.f.len p.s.f.cap, .int .i64 p.st, .int .i64 p.sy, .slice p.ra p.rl p.rc]
structure PvIn (w : World) (ds d : Nat) (p : PV) : Prop where
 s : SIn w ds p.s
 row : RRow w p.ra p.rs
 len : p.rs.length = p.rl
 rin : ∀ r ∈ p.rs, RIn w d r
theorem RIn.below {w w' : World} {d : Nat} {r : RV} (h : RIn w d r) (hb : Below w.heap.size w w') : RIn w' d r := ⟨h.row.below hb, h.len, WIn.below hb h.x⟩
theorem RRow.at_ {w : World} {a : Option Addr} {rs : List RV} (h : RRow w a rs) {i : Nat} {r : RV} (hi : rs[i]? = some r) : ∃ b off, a = some ⟨b, off, none⟩ ∧ CellsAt w b (off + i * 10) r.ten := by
 rcases h with rfl | ⟨b, off, ha, hc⟩
 ·simp at hi
 ·exact ⟨b, off, ha, hc i r hi⟩
theorem RRow.below {w w' : World} {a : Option Addr} {rs : List RV} (h : RRow w a rs) (hb : Below w.heap.size w w') : RRow w' a rs := by
 rcases h with h | ⟨b, off, rfl, hc⟩
 ·exact .inl h
 ·exact .inr ⟨b, off, rfl, fun i r hi => CellsAt.agree (below_agree hb 0) (Nat.zero_le _) (hc i r hi)⟩
theorem PvIn.below {w w' : World} {ds d : Nat} {p : PV} (h : PvIn w ds d p) (hb : Below w.heap.size w w') : PvIn w' ds d p := ⟨SIn.below hb h.s, h.row.below hb, h.len, fun r hr => (h.rin r hr).below hb⟩
theorem Row.at1 {w : World} {a : Option Addr} {zs : List Int} (h : Row w a zs) {i : Nat} (hi : i < zs.length) : ∃ b off y, a = some ⟨b, off, none⟩ ∧ zs[i]? = some y ∧ w.cell? ⟨b, off + i * 1, none⟩ = some (.int .i64 y) := by
 rcases h with rfl | ⟨b, off, ha, hc⟩
 ·simp at hi
 ·refine ⟨b, off, zs[i], ha, by simp [hi], ?_⟩
  rw [Nat.mul_one]
  have := hc i hi
  rw [this]; simp [List.getD, List.getElem?_eq_getElem hi]
def inQ (x n : Int) : Bool := decide (0 ≤ x) && decide (x < n)
def ruleB (st sy : Int) (r : RV) : Bool := inQ r.p st && (inQ r.q st && (inQ r.g sy && (decide (r.wl ≤ 4096) && r.ws.all (fun y => inQ y sy))))
def wtE (s : SV) : List RV → Int
 | [] => 0
 | r :: rs => if chkW s r.x = 0 then wtE s rs else chkW s r.x
theorem wtE_at {s : SV} : ∀ {rs : List RV} {i : Nat} {r : RV}, rs[i]? = some r → (rs.take i).all (fun r => decide (chkW s r.x = 0)) = true → chkW s r.x ≠ 0 → wtE s rs = chkW s r.x
 | [], _, _, h, _, _ => by simp at h
 | a :: rs, 0, r, h, _, hn => by
  simp at h; subst h
  unfold wtE; rw [if_neg hn]
 | a :: rs, i + 1, r, h, ha, hn => by
  simp only [List.take_succ_cons, List.all_cons, Bool.and_eq_true, decide_eq_true_eq] at ha
  unfold wtE; rw [if_pos ha.1]
  exact wtE_at (by simpa using h) ha.2 hn
theorem wtE_all {s : SV} : ∀ {rs : List RV}, rs.all (fun r => decide (chkW s r.x = 0)) = true → wtE s rs = 0
 | [], _ => rfl
 | a :: rs, h => by
  simp only [List.all_cons, Bool.and_eq_true, decide_eq_true_eq] at h
  unfold wtE; rw [if_pos h.1]
  exact wtE_all h.2
def pdsE (p : PV) : Int :=
 if spaceE p.s ≠ 0 then spaceE p.s else if 16384 < p.rl then 3 else if p.st < 0 ∨ 4096 < p.st ∨ p.sy < 0 ∨ 4096 < p.sy then 110 else if p.rs.all (ruleB p.st p.sy) then wtE p.s p.rs else 110
end Go.Proofs.Ytnhnedifekejpaa
namespace Go.Proofs.Ytnhnedifekejpaa
open Go Go.RowKit
theorem checkAllW_oneY (ds da : Nat) (s : SV) (x : WV) (w : World) (hs : SIn w ds s) (hx : WIn w da x) (b : Nat) (hb0 : CellsAt w b 0 x.f.six) :
  Calls Try.prog 93 #[s.f.val, .slice (some ⟨b, 0, none⟩) 1 1] w (fun e w' => e = .returned (.int .i64 (chkW s x)) ∧ Below w.heap.size w w') := by
 refine enterF (args := [s.f.val, .slice (some ⟨b, 0, none⟩) 1 1]) Try.func93 rfl Try.ntmps93 rfl ?_
 have hS := St.start w
 refine seqF (regF ?_)
 refine op_box (cs := [_, _, _]) hS rfl rfl rfl ?_
 clear hS; intro B1 W1 hS
 refine op_assign rfl rfl ?_
 refine endF (XF.thenN ?_)
 refine seqF ?_
 refine seqF (regF ?_)
 refine op_loadA (vs := [_, _, _]) Try.isAgg25 Try.sizeOf25 rfl (CellsAt.own (j := 0) (m := 3) (hS.at_ 0 rfl) rfl) rfl ?_
 refine op_call (vs := [_]) hS goes_67 rfl (spaceA_is ds s _ _ (SIn.below hS.below hs) rfl) rfl ?_
 rintro e W2 ⟨rfl, hb⟩
 refine ⟨_, rfl, hb, fun hS' => ?_⟩
 clear hS; have hS := hS'; clear hS' hb
 refine op_assign rfl rfl ?_
 refine endF (XF.thenN ?_)
 refine seqF (regF ?_)
 refine op_move rfl rfl ?_
 refine op_neq rfl rfl rfl ?_
 refine endF (XF.thenN ?_)
 refine condF rfl (fun hc => ?_) (fun hc => ?_)
 ·have hc11 := of_decide_eq_true hc; clear hc
  refine seqF (regF ?_)
  refine op_move rfl rfl ?_
  refine op_assign rfl rfl ?_
  refine endF (XF.thenN ?_)
  refine retF ?_
  refine XF.thenR ?_
  refine XF.res (res1 Try.results93 rfl) ?_
  exact ⟨rint (by unfold chkW; rw [if_neg hc11]), hS.below⟩
 ·have hc11 := of_decide_eq_false hc; clear hc
  have hse : spaceE s = 0 := by omega
  refine skipF ?_
  refine XF.thenN ?_
  refine seqF ?_
  refine seqF (regF ?_)
  refine op_move rfl rfl ?_
  refine op_len Try.underlying52 rfl rfl ?_
  refine op_move rfl rfl ?_
  refine endF (XF.thenN ?_)
  refine blockF ?_
  refine loopF (fun q l W => ∃ k : Nat, k ≤ 1 ∧ q = 1 - k ∧ l = [(2, .pointer (some ⟨B1, 0, none⟩)), (13, .slice (some ⟨b, 0, none⟩) 1 1), (14, .int .i64 1), (15, .int .i64 (k : Int))] ∧ (1 ≤ k → okW s x = true) ∧ St w [(B1, [.int .i64 s.f.tag, .int .i64 s.f.dim, .slice s.f.a s.f.len s.f.cap], 25)] [] [] W) (1 - 0) ([(2, _), (13, _), (14, _), (15, _)]) ⟨rfl, rfl, rfl, rfl, trivial⟩ (⟨0, Nat.zero_le _, rfl, rfl, fun h => by omega, hS.clear⟩) ?_
  clear hS
  rintro q l W ⟨k, hk1, rfl, rfl, hok, hS⟩
  refine seqF (regF ?_)
  refine op_lss rfl rfl rfl ?_
  refine endF (XF.thenN ?_)
  refine seqF ?_
  refine condF rfl (fun hc => ?_) (fun hc => ?_)
  ·have hc16 := of_decide_eq_true hc; clear hc
   obtain rfl : k = 0 := by omega
   have k1 := CellsAt.agree hS.agree (Nat.zero_le _) hb0
   refine skipF ?_
   refine XF.thenN ?_
   refine seqF ?_
   refine blockF ?_
   refine seqF (regF ?_)
   refine op_indexA  Try.underlying52 Try.sizeOf54 rfl rfl rfl (by omega) rfl rfl ?_
   refine op_loadA (vs := [_, _, _, _, _, _]) Try.isAgg54 Try.sizeOf54 rfl (by assumption) rfl ?_
   refine op_alloc (cs := [_, _, _, _, _, _]) hS Try.zeroValue54 rfl rfl ?_
   clear hS; intro B3 W3 hS
   refine op_storeA (i := 0) (vs := [_, _, _, _, _, _]) (cs' := [_, _, _, _, _, _]) (O' := [_, _]) hS Try.sizeOf54 rfl rfl rfl rfl rfl rfl rfl ?_
   clear hS; intro W4 hS
   refine endF (XF.thenN ?_)
   refine seqF (regF ?_)
   refine op_loadA (vs := [_, _, _]) Try.isAgg25 Try.sizeOf25 rfl (CellsAt.own (j := 0) (m := 3) (hS.at_ 1 rfl) rfl) rfl ?_
   refine op_loadA (vs := [_, _, _, _, _, _]) Try.isAgg54 Try.sizeOf54 rfl (CellsAt.own (j := 0) (m := 6) (hS.at_ 0 rfl) rfl) rfl ?_
   refine op_call (vs := [_, _]) hS goes_108 rfl (isA_genY (SIn.below hS.below hs) hse (WIn.below hS.below hx)) rfl ?_
   rintro e W5 ⟨rfl, hb⟩
   refine ⟨_, rfl, hb, fun hS' => ?_⟩
   clear hS; have hS := hS'; clear hS' hb
   refine op_not rfl rfl ?_
   refine endF (XF.thenN ?_)
   refine condF rfl (fun hc => ?_) (fun hc => ?_)
   ·have hc22 := hc; clear hc
    refine seqF (regF ?_)
    refine op_assign rfl rfl ?_
    refine endF (XF.thenN ?_)
    refine retF ?_
    refine XF.blkR ?_
    refine XF.thenR ?_
    refine XF.thenR ?_
    refine XF.blkR ?_
    refine XF.thenR ?_
    refine XF.res (res1 Try.results93 rfl) ?_
    exact ⟨rint (by unfold chkW; rw [if_pos hse, if_neg (by simpa using hc22)]), hS.below⟩
   ·have hc22 := hc; clear hc
    refine skipF ?_
    refine XF.blkN ?_
    refine XF.thenN ?_
    refine regF ?_
    refine op_add rfl rfl (IntWalk.i64_in _ (by omega)) rfl ?_
    refine op_move rfl rfl ?_
    refine endF ?_
    exact XF.round (1 - 1) [(2, _), (13, _), (14, _), (15, _)] (by omega) ⟨rfl, rfl, rfl, rfl, trivial⟩ ⟨1, by omega, rfl, rfl, fun _ => by simpa using hc22, hS.tail.clear⟩
  ·have hc16 := of_decide_eq_false hc; clear hc
   refine exitF ?_
   refine XF.thenX ?_
   refine XF.thenX ?_
   refine XF.blkX ?_
   refine XF.thenN ?_
   refine seqF (regF ?_)
   refine op_assign rfl rfl ?_
   refine endF (XF.thenN ?_)
   refine retF ?_
   refine XF.res (res1 Try.results93 rfl) ?_
   exact ⟨rint (by unfold chkW; rw [if_pos hse, if_pos (hok (by omega))]), hS.below⟩
theorem checkA_genY (ds da : Nat) (s : SV) (x : WV) (w : World) (hs : SIn w ds s) (hx : WIn w da x) :
  Calls Try.prog 69 #[s.f.val, x.f.val] w (fun e w' => e = .returned (.int .i64 (chkW s x)) ∧ Below w.heap.size w w') := by
 refine enterF (args := [s.f.val, x.f.val]) Try.func69 rfl Try.ntmps69 rfl ?_
 have hS := St.start w
 refine seqF (regF ?_)
 refine op_box (cs := [_, _, _]) hS rfl rfl rfl ?_
 clear hS; intro B1 W1 hS
 refine op_box (cs := [_, _, _, _, _, _]) hS rfl rfl rfl ?_
 clear hS; intro B2 W2 hS
 refine op_assign rfl rfl ?_
 refine endF (XF.thenN ?_)
 refine seqF (regF ?_)
 refine op_loadA (vs := [_, _, _]) Try.isAgg25 Try.sizeOf25 rfl (CellsAt.own (j := 0) (m := 3) (hS.at_ 1 rfl) rfl) rfl ?_
 refine op_loadA (vs := [_, _, _, _, _, _]) Try.isAgg54 Try.sizeOf54 rfl (CellsAt.own (j := 0) (m := 6) (hS.at_ 0 rfl) rfl) rfl ?_
 refine op_buildSlice (us := [(0, .agg (List.toArray [_, _, _, _, _, _]))]) hS Try.underlying52 Try.sizeOf54 Try.zeroValue54 rfl rfl rfl (bs_52_1 _ _ _ _ _ _) rfl ?_
 clear hS; intro B3 W3 hS
 refine op_call (vs := [_, _]) hS goes_93 rfl (checkAllW_oneY ds da s x _ (SIn.below hS.below hs) (WIn.below hS.below hx) _ (CellsAt.own (j := 0) (m := 6) (hS.at_ 0 rfl) rfl)) rfl ?_
 rintro e W4 ⟨rfl, hb⟩
 refine ⟨_, rfl, hb, fun hS' => ?_⟩
 clear hS; have hS := hS'; clear hS' hb
 refine op_assign rfl rfl ?_
 refine endF (XF.thenN ?_)
 refine retF ?_
 refine XF.res (res1 Try.results69 rfl) ?_
 exact ⟨rfl, hS.below⟩
theorem checkR_genY (ds da : Nat) (s : SV) (x : WV) (w : World) (hs : SIn w ds s) (hx : WIn w da x) :
  Calls Try.prog 71 #[s.f.val, x.f.val] w (fun e w' => e = .returned (.int .i64 (chkW s x)) ∧ Below w.heap.size w w') := by
 refine enterF (args := [s.f.val, x.f.val]) Try.func71 rfl Try.ntmps71 rfl ?_
 have hS := St.start w
 refine seqF (regF ?_)
 refine op_box (cs := [_, _, _]) hS rfl rfl rfl ?_
 clear hS; intro B1 W1 hS
 refine op_box (cs := [_, _, _, _, _, _]) hS rfl rfl rfl ?_
 clear hS; intro B2 W2 hS
 refine op_assign rfl rfl ?_
 refine endF (XF.thenN ?_)
 refine seqF (regF ?_)
 refine op_loadA (vs := [_, _, _]) Try.isAgg25 Try.sizeOf25 rfl (CellsAt.own (j := 0) (m := 3) (hS.at_ 1 rfl) rfl) rfl ?_
 refine op_call (vs := [_]) hS goes_46 rfl (spaceR_is ds s _ _ (SIn.below hS.below hs) rfl) rfl ?_
 rintro e W3 ⟨rfl, hb⟩
 refine ⟨_, rfl, hb, fun hS' => ?_⟩
 clear hS; have hS := hS'; clear hS' hb
 refine op_assign rfl rfl ?_
 refine endF (XF.thenN ?_)
 refine seqF ?_
 refine seqF (regF ?_)
 refine op_move rfl rfl ?_
 refine op_neq rfl rfl rfl ?_
 refine endF (XF.thenN ?_)
 refine condF rfl (fun hc => ?_) (fun hc => ?_)
 ·have hc9 := of_decide_eq_true hc; clear hc
  refine seqF (regF ?_)
  refine op_move rfl rfl ?_
  refine op_assign rfl rfl ?_
  refine endF (XF.thenN ?_)
  refine retF ?_
  refine XF.thenR ?_
  refine XF.res (res1 Try.results71 rfl) ?_
  exact ⟨rint (by unfold chkW; rw [if_neg hc9]), hS.below⟩
 ·have hc9 := of_decide_eq_false hc; clear hc
  have hse : spaceE s = 0 := by omega
  refine skipF ?_
  refine XF.thenN ?_
  refine seqF ?_
  refine seqF (regF ?_)
  refine op_loadA (vs := [_, _, _]) Try.isAgg25 Try.sizeOf25 rfl (CellsAt.own (j := 0) (m := 3) (hS.at_ 1 rfl) rfl) rfl ?_
  refine op_loadA (vs := [_, _, _, _, _, _]) Try.isAgg54 Try.sizeOf54 rfl (CellsAt.own (j := 0) (m := 6) (hS.at_ 0 rfl) rfl) rfl ?_
  refine op_call (vs := [_, _]) hS goes_79 rfl (isR_genY (SIn.below hS.below hs) hse (WIn.below hS.below hx)) rfl ?_
  rintro e W4 ⟨rfl, hb⟩
  refine ⟨_, rfl, hb, fun hS' => ?_⟩
  clear hS; have hS := hS'; clear hS' hb
  refine op_not rfl rfl ?_
  refine endF (XF.thenN ?_)
  refine condF rfl (fun hc => ?_) (fun hc => ?_)
  ·have hc14 := hc; clear hc
   refine seqF (regF ?_)
   refine op_assign rfl rfl ?_
   refine endF (XF.thenN ?_)
   refine retF ?_
   refine XF.thenR ?_
   refine XF.res (res1 Try.results71 rfl) ?_
   exact ⟨rint (by unfold chkW; rw [if_pos hse, if_neg (by simpa using hc14)]), hS.below⟩
  ·have hc14 := hc; clear hc
   refine skipF ?_
   refine XF.thenN ?_
   refine seqF (regF ?_)
   refine op_assign rfl rfl ?_
   refine endF (XF.thenN ?_)
   refine retF ?_
   refine XF.res (res1 Try.results71 rfl) ?_
   exact ⟨rint (by unfold chkW; rw [if_pos hse, if_pos (by simpa using hc14)]), hS.below⟩
theorem isState_is (P0 : PV) (n : Int) (w : World) :
  Calls Try.prog 37 #[P0.val, .int .i64 n] w (fun e w' => e = .returned (.bool (inQ n P0.st)) ∧ Below w.heap.size w w') := by
 refine enterF (args := [P0.val, .int .i64 n]) Try.func37 rfl Try.ntmps37 rfl ?_
 have hS := St.start w
 refine seqF (regF ?_)
 refine op_box (cs := [_, _, _, _, _, _]) hS rfl rfl rfl ?_
 clear hS; intro B1 W1 hS
 refine op_assign rfl rfl ?_
 refine endF (XF.thenN ?_)
 refine seqF (regF ?_)
 refine op_move rfl rfl ?_
 refine op_geq rfl rfl rfl ?_
 refine op_move rfl rfl ?_
 refine op_cases (d := 7) rfl (fun hc => ?_) (fun hc => ?_)
 ·have hg7 := of_decide_eq_true hc; clear hc
  refine op_wantedF (d := 7) rfl rfl ?_
  refine op_move rfl rfl ?_
  refine op_wantedF (d := 7) rfl rfl ?_
  refine op_field (o' := 3) fa_28_1 rfl rfl rfl ?_
  refine op_wantedF (d := 7) rfl rfl ?_
  refine op_load Try.isAgg3 rfl (cell_own (hS.at_ 0 rfl) rfl) rfl ?_
  refine op_wantedF (d := 7) rfl rfl ?_
  refine op_lss rfl rfl rfl ?_
  refine op_pickT rfl rfl rfl ?_
  refine op_assign rfl rfl ?_
  refine endF (XF.thenN ?_)
  refine retF ?_
  refine XF.res (res1 Try.results37 rfl) ?_
  exact ⟨rbool (by simp [inQ, show 0 ≤ n from hg7]), hS.below⟩
 ·have hg7 := of_decide_eq_false hc; clear hc
  refine op_notF (d := 7) rfl rfl rfl rfl ?_
  refine op_notF (d := 7) rfl rfl rfl rfl ?_
  refine op_notF (d := 7) rfl rfl rfl rfl ?_
  refine op_notF (d := 7) rfl rfl rfl rfl ?_
  refine op_pickF rfl rfl rfl ?_
  refine op_assign rfl rfl ?_
  refine endF (XF.thenN ?_)
  refine retF ?_
  refine XF.res (res1 Try.results37 rfl) ?_
  exact ⟨rbool (by simp [inQ]; omega), hS.below⟩
theorem isSymbol_is (P0 : PV) (n : Int) (w : World) :
  Calls Try.prog 38 #[P0.val, .int .i64 n] w (fun e w' => e = .returned (.bool (inQ n P0.sy)) ∧ Below w.heap.size w w') := by
 refine enterF (args := [P0.val, .int .i64 n]) Try.func38 rfl Try.ntmps38 rfl ?_
 have hS := St.start w
 refine seqF (regF ?_)
 refine op_box (cs := [_, _, _, _, _, _]) hS rfl rfl rfl ?_
 clear hS; intro B1 W1 hS
 refine op_assign rfl rfl ?_
 refine endF (XF.thenN ?_)
 refine seqF (regF ?_)
 refine op_move rfl rfl ?_
 refine op_geq rfl rfl rfl ?_
 refine op_move rfl rfl ?_
 refine op_cases (d := 7) rfl (fun hc => ?_) (fun hc => ?_)
 ·have hg7 := of_decide_eq_true hc; clear hc
  refine op_wantedF (d := 7) rfl rfl ?_
  refine op_move rfl rfl ?_
  refine op_wantedF (d := 7) rfl rfl ?_
  refine op_field (o' := 4) fa_28_2 rfl rfl rfl ?_
  refine op_wantedF (d := 7) rfl rfl ?_
  refine op_load Try.isAgg3 rfl (cell_own (hS.at_ 0 rfl) rfl) rfl ?_
  refine op_wantedF (d := 7) rfl rfl ?_
  refine op_lss rfl rfl rfl ?_
  refine op_pickT rfl rfl rfl ?_
  refine op_assign rfl rfl ?_
  refine endF (XF.thenN ?_)
  refine retF ?_
  refine XF.res (res1 Try.results38 rfl) ?_
  exact ⟨rbool (by simp [inQ, show 0 ≤ n from hg7]), hS.below⟩
 ·have hg7 := of_decide_eq_false hc; clear hc
  refine op_notF (d := 7) rfl rfl rfl rfl ?_
  refine op_notF (d := 7) rfl rfl rfl rfl ?_
  refine op_notF (d := 7) rfl rfl rfl rfl ?_
  refine op_notF (d := 7) rfl rfl rfl rfl ?_
  refine op_pickF rfl rfl rfl ?_
  refine op_assign rfl rfl ?_
  refine endF (XF.thenN ?_)
  refine retF ?_
  refine XF.res (res1 Try.results38 rfl) ?_
  exact ⟨rbool (by simp [inQ]; omega), hS.below⟩
theorem inR_is (n m : Int) (w : World) :
  Calls Try.prog 40 #[.int .i64 n, .int .i64 m] w (fun e w' => e = .returned (.bool (inQ n m)) ∧ Below w.heap.size w w') := by
 refine enterF (args := [.int .i64 n, .int .i64 m]) Try.func40 rfl Try.ntmps40 rfl ?_
 have hS := St.start w
 refine seqF (regF ?_)
 refine op_assign rfl rfl ?_
 refine endF (XF.thenN ?_)
 refine seqF (regF ?_)
 refine op_move rfl rfl ?_
 refine op_geq rfl rfl rfl ?_
 refine op_move rfl rfl ?_
 refine op_cases (d := 7) rfl (fun hc => ?_) (fun hc => ?_)
 ·have hg7 := of_decide_eq_true hc; clear hc
  refine op_wantedF (d := 7) rfl rfl ?_
  refine op_move rfl rfl ?_
  refine op_wantedF (d := 7) rfl rfl ?_
  refine op_move rfl rfl ?_
  refine op_wantedF (d := 7) rfl rfl ?_
  refine op_lss rfl rfl rfl ?_
  refine op_pickT rfl rfl rfl ?_
  refine op_assign rfl rfl ?_
  refine endF (XF.thenN ?_)
  refine retF ?_
  refine XF.res (res1 Try.results40 rfl) ?_
  exact ⟨rbool (by simp [inQ, show 0 ≤ n from hg7]), hS.below⟩
 ·have hg7 := of_decide_eq_false hc; clear hc
  refine op_notF (d := 7) rfl rfl rfl rfl ?_
  refine op_notF (d := 7) rfl rfl rfl rfl ?_
  refine op_notF (d := 7) rfl rfl rfl rfl ?_
  refine op_pickF rfl rfl rfl ?_
  refine op_assign rfl rfl ?_
  refine endF (XF.thenN ?_)
  refine retF ?_
  refine XF.res (res1 Try.results40 rfl) ?_
  exact ⟨rbool (by simp [inQ]; omega), hS.below⟩
theorem ruleA_c (P0 : PV) (p g q : Int) (wa : Option Addr) (wl wc : Nat) (ws : List Int) (x : WV) (w : World) (hrow : Row w wa ws) (hlen : ws.length = wl) :
  Calls Try.prog 68 #[P0.val, .agg #[.int .i64 p, .int .i64 g, .int .i64 q, .slice wa wl wc, .bool x.f.z, .int .i64 x.f.c, .int .u64 (x.f.g : Int), .slice x.f.ra x.f.rl x.f.rc, .slice x.f.ca x.f.cl x.f.cc, .slice x.f.pa x.f.pl x.f.pc]] w (fun e w' => e = .returned (.bool (ruleB P0.st P0.sy ⟨p, g, q, wa, wl, wc, ws, x⟩)) ∧ Below w.heap.size w w') := by
 refine enterF (args := [P0.val, .agg #[.int .i64 p, .int .i64 g, .int .i64 q, .slice wa wl wc, .bool x.f.z, .int .i64 x.f.c, .int .u64 (x.f.g : Int), .slice x.f.ra x.f.rl x.f.rc, .slice x.f.ca x.f.cl x.f.cc, .slice x.f.pa x.f.pl x.f.pc]]) Try.func68 rfl Try.ntmps68 rfl ?_
 have hS := St.start w
 refine seqF (regF ?_)
 refine op_box (cs := [_, _, _, _, _, _]) hS rfl rfl rfl ?_
 clear hS; intro B1 W1 hS
 refine op_box (cs := [_, _, _, _, _, _, _, _, _, _]) hS rfl rfl rfl ?_
 clear hS; intro B2 W2 hS
 refine op_assign rfl rfl ?_
 refine endF (XF.thenN ?_)
 refine seqF ?_
 refine seqF (regF ?_)
 refine op_loadA (vs := [_, _, _, _, _, _]) Try.isAgg28 Try.sizeOf28 rfl (CellsAt.own (j := 0) (m := 6) (hS.at_ 1 rfl) rfl) rfl ?_
 refine op_field (o' := 0) fa_56_0 rfl rfl rfl ?_
 refine op_load Try.isAgg3 rfl (cell_own (hS.at_ 0 rfl) rfl) rfl ?_
 refine op_call (vs := [_, _]) hS goes_37 rfl (isState_is P0 p _) rfl ?_
 rintro e W3 ⟨rfl, hb⟩
 refine ⟨_, rfl, hb, fun hS' => ?_⟩
 clear hS; have hS := hS'; clear hS' hb
 refine op_not rfl rfl ?_
 refine op_move rfl rfl ?_
 refine op_cases (d := 12) rfl (fun hc => ?_) (fun hc => ?_)
 ·have hg12 := hc; clear hc
  have e1 : inQ p P0.st = false := by simpa using hg12
  refine op_notF (d := 12) rfl rfl rfl rfl ?_
  refine op_notF (d := 12) rfl rfl rfl rfl ?_
  refine op_notF (d := 12) rfl rfl rfl rfl ?_
  refine op_notF (d := 12) rfl rfl rfl rfl ?_
  refine op_notF (d := 12) rfl rfl rfl rfl ?_
  refine op_pickT rfl rfl rfl ?_
  refine op_move rfl rfl ?_
  refine op_notF (d := 19) rfl rfl rfl rfl ?_
  refine op_notF (d := 19) rfl rfl rfl rfl ?_
  refine op_notF (d := 19) rfl rfl rfl rfl ?_
  refine op_notF (d := 19) rfl rfl rfl rfl ?_
  refine op_notF (d := 19) rfl rfl rfl rfl ?_
  refine op_pickT rfl rfl rfl ?_
  refine op_move rfl rfl ?_
  refine op_notF (d := 26) rfl rfl rfl rfl ?_
  refine op_notF (d := 26) rfl rfl rfl rfl ?_
  refine op_notF (d := 26) rfl rfl rfl rfl ?_
  refine op_notF (d := 26) rfl rfl rfl rfl ?_
  refine op_pickT rfl rfl rfl ?_
  refine endF (XF.thenN ?_)
  refine condT rfl ?_
  refine seqF (regF ?_)
  refine op_assign rfl rfl ?_
  refine endF (XF.thenN ?_)
  refine retF ?_
  refine XF.thenR ?_
  refine XF.res (res1 Try.results68 rfl) ?_
  exact ⟨rbool (by simp [ruleB, e1]), hS.below⟩
 ·have hg12 := hc; clear hc
  have e1 : inQ p P0.st = true := by simpa using hg12
  refine op_wantedF (d := 12) rfl rfl ?_
  refine op_loadA (vs := [_, _, _, _, _, _]) Try.isAgg28 Try.sizeOf28 rfl (CellsAt.own (j := 0) (m := 6) (hS.at_ 1 rfl) rfl) rfl ?_
  refine op_wantedF (d := 12) rfl rfl ?_
  refine op_field (o' := 2) fa_56_2 rfl rfl rfl ?_
  refine op_wantedF (d := 12) rfl rfl ?_
  refine op_load Try.isAgg3 rfl (cell_own (hS.at_ 0 rfl) rfl) rfl ?_
  refine op_wantedF (d := 12) rfl rfl ?_
  refine op_call (vs := [_, _]) hS goes_37 rfl (isState_is P0 q _) rfl ?_
  rintro e W4 ⟨rfl, hb⟩
  refine ⟨_, rfl, hb, fun hS' => ?_⟩
  clear hS; have hS := hS'; clear hS' hb
  refine op_wantedF (d := 12) rfl rfl ?_
  refine op_not rfl rfl ?_
  refine op_pickF rfl rfl rfl ?_
  refine op_move rfl rfl ?_
  refine op_cases (d := 19) rfl (fun hc => ?_) (fun hc => ?_)
  ·have hg19 := hc; clear hc
   have e2 : inQ q P0.st = false := by simpa using hg19
   refine op_notF (d := 19) rfl rfl rfl rfl ?_
   refine op_notF (d := 19) rfl rfl rfl rfl ?_
   refine op_notF (d := 19) rfl rfl rfl rfl ?_
   refine op_notF (d := 19) rfl rfl rfl rfl ?_
   refine op_notF (d := 19) rfl rfl rfl rfl ?_
   refine op_pickT rfl rfl rfl ?_
   refine op_move rfl rfl ?_
   refine op_notF (d := 26) rfl rfl rfl rfl ?_
   refine op_notF (d := 26) rfl rfl rfl rfl ?_
   refine op_notF (d := 26) rfl rfl rfl rfl ?_
   refine op_notF (d := 26) rfl rfl rfl rfl ?_
   refine op_pickT rfl rfl rfl ?_
   refine endF (XF.thenN ?_)
   refine condT rfl ?_
   refine seqF (regF ?_)
   refine op_assign rfl rfl ?_
   refine endF (XF.thenN ?_)
   refine retF ?_
   refine XF.thenR ?_
   refine XF.res (res1 Try.results68 rfl) ?_
   exact ⟨rbool (by simp [ruleB, e1, e2]), hS.below⟩
  ·have hg19 := hc; clear hc
   have e2 : inQ q P0.st = true := by simpa using hg19
   refine op_wantedF (d := 19) rfl rfl ?_
   refine op_loadA (vs := [_, _, _, _, _, _]) Try.isAgg28 Try.sizeOf28 rfl (CellsAt.own (j := 0) (m := 6) (hS.at_ 1 rfl) rfl) rfl ?_
   refine op_wantedF (d := 19) rfl rfl ?_
   refine op_field (o' := 1) fa_56_1 rfl rfl rfl ?_
   refine op_wantedF (d := 19) rfl rfl ?_
   refine op_load Try.isAgg3 rfl (cell_own (hS.at_ 0 rfl) rfl) rfl ?_
   refine op_wantedF (d := 19) rfl rfl ?_
   refine op_call (vs := [_, _]) hS goes_38 rfl (isSymbol_is P0 g _) rfl ?_
   rintro e W5 ⟨rfl, hb⟩
   refine ⟨_, rfl, hb, fun hS' => ?_⟩
   clear hS; have hS := hS'; clear hS' hb
   refine op_wantedF (d := 19) rfl rfl ?_
   refine op_not rfl rfl ?_
   refine op_pickF rfl rfl rfl ?_
   refine op_move rfl rfl ?_
   refine op_cases (d := 26) rfl (fun hc => ?_) (fun hc => ?_)
   ·have hg26 := hc; clear hc
    have e3 : inQ g P0.sy = false := by simpa using hg26
    refine op_notF (d := 26) rfl rfl rfl rfl ?_
    refine op_notF (d := 26) rfl rfl rfl rfl ?_
    refine op_notF (d := 26) rfl rfl rfl rfl ?_
    refine op_notF (d := 26) rfl rfl rfl rfl ?_
    refine op_pickT rfl rfl rfl ?_
    refine endF (XF.thenN ?_)
    refine condT rfl ?_
    refine seqF (regF ?_)
    refine op_assign rfl rfl ?_
    refine endF (XF.thenN ?_)
    refine retF ?_
    refine XF.thenR ?_
    refine XF.res (res1 Try.results68 rfl) ?_
    exact ⟨rbool (by simp [ruleB, e1, e2, e3]), hS.below⟩
   ·have hg26 := hc; clear hc
    have e3 : inQ g P0.sy = true := by simpa using hg26
    refine op_wantedF (d := 26) rfl rfl ?_
    refine op_field (o' := 3) fa_56_3 rfl rfl rfl ?_
    refine op_wantedF (d := 26) rfl rfl ?_
    refine op_load Try.isAgg30 rfl (cell_own (hS.at_ 0 rfl) rfl) rfl ?_
    refine op_wantedF (d := 26) rfl rfl ?_
    refine op_len Try.underlying30 rfl rfl ?_
    refine op_wantedF (d := 26) rfl rfl ?_
    refine op_gtr rfl rfl rfl ?_
    refine op_pickF rfl rfl rfl ?_
    refine endF (XF.thenN ?_)
    refine condF rfl (fun hc => ?_) (fun hc => ?_)
    ·have hc31 := of_decide_eq_true hc; clear hc
     have e4 : decide (wl ≤ 4096) = false := by simp; omega
     refine seqF (regF ?_)
     refine op_assign rfl rfl ?_
     refine endF (XF.thenN ?_)
     refine retF ?_
     refine XF.thenR ?_
     refine XF.res (res1 Try.results68 rfl) ?_
     exact ⟨rbool (by simp [ruleB, e1, e2, e3, e4]), hS.below⟩
    ·have hc31 := of_decide_eq_false hc; clear hc
     have e4 : decide (wl ≤ 4096) = true := by simp; omega
     refine skipF ?_
     refine XF.thenN ?_
     refine seqF ?_
     refine seqF (regF ?_)
     refine op_field (o' := 3) fa_56_3 rfl rfl rfl ?_
     refine op_load Try.isAgg30 rfl (cell_own (hS.at_ 0 rfl) rfl) rfl ?_
     refine op_len Try.underlying30 rfl rfl ?_
     refine op_move rfl rfl ?_
     refine endF (XF.thenN ?_)
     refine blockF ?_
     refine loopF (fun m l W => ∃ i : Nat, i ≤ wl ∧ m = wl - i ∧ l = [(2, .pointer (some ⟨B1, 0, none⟩)), (33, .slice wa wl wc), (34, .int .i64 (wl : Int)), (35, .int .i64 (i : Int))] ∧ (ws.take i).all (fun y => inQ y P0.sy) = true ∧ St w [(B2, [.int .i64 p, .int .i64 g, .int .i64 q, .slice wa wl wc, .bool x.f.z, .int .i64 x.f.c, .int .u64 (x.f.g : Int), .slice x.f.ra x.f.rl x.f.rc, .slice x.f.ca x.f.cl x.f.cc, .slice x.f.pa x.f.pl x.f.pc], 56), (B1, P0.six, 28)] [] [] W) (wl - 0) ([(2, _), (33, _), (34, _), (35, _)]) ⟨rfl, rfl, rfl, rfl, trivial⟩ (⟨0, Nat.zero_le _, rfl, rfl, rfl, hS.clear⟩) ?_
     clear hS
     rintro m l W ⟨i, hi, rfl, rfl, hall, hS⟩
     refine seqF (regF ?_)
     refine op_lss rfl rfl rfl ?_
     refine endF (XF.thenN ?_)
     refine seqF ?_
     refine condF rfl (fun hc => ?_) (fun hc => ?_)
     ·have hc36 := of_decide_eq_true hc; clear hc
      have hk : i < wl := by omega
      obtain ⟨b, off, y, rfl, hy, hyc⟩ := hrow.at1 (show i < ws.length by omega)
      have k1 := hS.old hyc
      refine skipF ?_
      refine XF.thenN ?_
      refine seqF ?_
      refine blockF ?_
      refine seqF (regF ?_)
      refine op_indexA  Try.underlying30 Try.sizeOf3 rfl rfl rfl (by omega) rfl rfl ?_
      refine op_load Try.isAgg3 rfl (by first | assumption | exact hS.old (by assumption)) rfl ?_
      refine op_assign rfl rfl ?_
      refine endF (XF.thenN ?_)
      refine seqF (regF ?_)
      refine op_loadA (vs := [_, _, _, _, _, _]) Try.isAgg28 Try.sizeOf28 rfl (CellsAt.own (j := 0) (m := 6) (hS.at_ 1 rfl) rfl) rfl ?_
      refine op_move rfl rfl ?_
      refine op_call (vs := [_, _]) hS goes_38 rfl (isSymbol_is P0 y _) rfl ?_
      rintro e W6 ⟨rfl, hb⟩
      refine ⟨_, rfl, hb, fun hS' => ?_⟩
      clear hS; have hS := hS'; clear hS' hb
      refine op_not rfl rfl ?_
      refine endF (XF.thenN ?_)
      refine condF rfl (fun hc => ?_) (fun hc => ?_)
      ·have hc42 := hc; clear hc
       refine seqF (regF ?_)
       refine op_assign rfl rfl ?_
       refine endF (XF.thenN ?_)
       refine retF ?_
       refine XF.blkR ?_
       refine XF.thenR ?_
       refine XF.thenR ?_
       refine XF.blkR ?_
       refine XF.thenR ?_
       refine XF.res (res1 Try.results68 rfl) ?_
       exact ⟨rbool (by simp only [ruleB]; rw [all_false_at hy (by simpa using hc42)]; simp), hS.below⟩
      ·have hc42 := hc; clear hc
       refine skipF ?_
       refine XF.blkN ?_
       refine XF.thenN ?_
       refine regF ?_
       refine op_add rfl rfl (IntWalk.i64_in _ (by omega)) rfl ?_
       refine op_move rfl rfl ?_
       refine endF ?_
       exact XF.round (wl - (i + 1)) [(2, _), (33, _), (34, _), (35, _)] (by omega) ⟨rfl, rfl, rfl, rfl, trivial⟩ ⟨i + 1, by omega, rfl, rfl, all_take_at hy hall (by simpa using hc42), hS.clear⟩
     ·have hc36 := of_decide_eq_false hc; clear hc
      refine exitF ?_
      refine XF.thenX ?_
      refine XF.thenX ?_
      refine XF.blkX ?_
      refine XF.thenN ?_
      refine seqF (regF ?_)
      refine op_assign rfl rfl ?_
      refine endF (XF.thenN ?_)
      refine retF ?_
      refine XF.res (res1 Try.results68 rfl) ?_
      rw [List.take_of_length_le (by omega)] at hall
      exact ⟨rbool (by simp [ruleB, e1, e2, e3, e4, hall]), hS.below⟩
theorem ruleR_c (P0 : PV) (p g q : Int) (wa : Option Addr) (wl wc : Nat) (ws : List Int) (x : WV) (w : World) (hrow : Row w wa ws) (hlen : ws.length = wl) :
  Calls Try.prog 70 #[P0.val, .agg #[.int .i64 p, .int .i64 g, .int .i64 q, .slice wa wl wc, .bool x.f.z, .int .i64 x.f.c, .int .u64 (x.f.g : Int), .slice x.f.ra x.f.rl x.f.rc, .slice x.f.ca x.f.cl x.f.cc, .slice x.f.pa x.f.pl x.f.pc]] w (fun e w' => e = .returned (.bool (ruleB P0.st P0.sy ⟨p, g, q, wa, wl, wc, ws, x⟩)) ∧ Below w.heap.size w w') := by
 refine enterF (args := [P0.val, .agg #[.int .i64 p, .int .i64 g, .int .i64 q, .slice wa wl wc, .bool x.f.z, .int .i64 x.f.c, .int .u64 (x.f.g : Int), .slice x.f.ra x.f.rl x.f.rc, .slice x.f.ca x.f.cl x.f.cc, .slice x.f.pa x.f.pl x.f.pc]]) Try.func70 rfl Try.ntmps70 rfl ?_
 have hS := St.start w
 refine seqF (regF ?_)
 refine op_box (cs := [_, _, _, _, _, _]) hS rfl rfl rfl ?_
 clear hS; intro B1 W1 hS
 refine op_box (cs := [_, _, _, _, _, _, _, _, _, _]) hS rfl rfl rfl ?_
 clear hS; intro B2 W2 hS
 refine op_assign rfl rfl ?_
 refine endF (XF.thenN ?_)
 refine seqF ?_
 refine seqF (regF ?_)
 refine op_field (o' := 0) fa_56_0 rfl rfl rfl ?_
 refine op_load Try.isAgg3 rfl (cell_own (hS.at_ 0 rfl) rfl) rfl ?_
 refine op_field (o' := 3) fa_28_1 rfl rfl rfl ?_
 refine op_load Try.isAgg3 rfl (cell_own (hS.at_ 1 rfl) rfl) rfl ?_
 refine op_call (vs := [_, _]) hS goes_40 rfl (inR_is p P0.st _) rfl ?_
 rintro e W3 ⟨rfl, hb⟩
 refine ⟨_, rfl, hb, fun hS' => ?_⟩
 clear hS; have hS := hS'; clear hS' hb
 refine op_not rfl rfl ?_
 refine op_move rfl rfl ?_
 refine op_cases (d := 12) rfl (fun hc => ?_) (fun hc => ?_)
 ·have hg12 := hc; clear hc
  have e1 : inQ p P0.st = false := by simpa using hg12
  refine op_notF (d := 12) rfl rfl rfl rfl ?_
  refine op_notF (d := 12) rfl rfl rfl rfl ?_
  refine op_notF (d := 12) rfl rfl rfl rfl ?_
  refine op_notF (d := 12) rfl rfl rfl rfl ?_
  refine op_notF (d := 12) rfl rfl rfl rfl ?_
  refine op_notF (d := 12) rfl rfl rfl rfl ?_
  refine op_pickT rfl rfl rfl ?_
  refine op_move rfl rfl ?_
  refine op_notF (d := 20) rfl rfl rfl rfl ?_
  refine op_notF (d := 20) rfl rfl rfl rfl ?_
  refine op_notF (d := 20) rfl rfl rfl rfl ?_
  refine op_notF (d := 20) rfl rfl rfl rfl ?_
  refine op_notF (d := 20) rfl rfl rfl rfl ?_
  refine op_notF (d := 20) rfl rfl rfl rfl ?_
  refine op_pickT rfl rfl rfl ?_
  refine op_move rfl rfl ?_
  refine op_notF (d := 28) rfl rfl rfl rfl ?_
  refine op_notF (d := 28) rfl rfl rfl rfl ?_
  refine op_notF (d := 28) rfl rfl rfl rfl ?_
  refine op_notF (d := 28) rfl rfl rfl rfl ?_
  refine op_pickT rfl rfl rfl ?_
  refine endF (XF.thenN ?_)
  refine condT rfl ?_
  refine seqF (regF ?_)
  refine op_assign rfl rfl ?_
  refine endF (XF.thenN ?_)
  refine retF ?_
  refine XF.thenR ?_
  refine XF.res (res1 Try.results70 rfl) ?_
  exact ⟨rbool (by simp [ruleB, e1]), hS.below⟩
 ·have hg12 := hc; clear hc
  have e1 : inQ p P0.st = true := by simpa using hg12
  refine op_wantedF (d := 12) rfl rfl ?_
  refine op_field (o' := 2) fa_56_2 rfl rfl rfl ?_
  refine op_wantedF (d := 12) rfl rfl ?_
  refine op_load Try.isAgg3 rfl (cell_own (hS.at_ 0 rfl) rfl) rfl ?_
  refine op_wantedF (d := 12) rfl rfl ?_
  refine op_field (o' := 3) fa_28_1 rfl rfl rfl ?_
  refine op_wantedF (d := 12) rfl rfl ?_
  refine op_load Try.isAgg3 rfl (cell_own (hS.at_ 1 rfl) rfl) rfl ?_
  refine op_wantedF (d := 12) rfl rfl ?_
  refine op_call (vs := [_, _]) hS goes_40 rfl (inR_is q P0.st _) rfl ?_
  rintro e W4 ⟨rfl, hb⟩
  refine ⟨_, rfl, hb, fun hS' => ?_⟩
  clear hS; have hS := hS'; clear hS' hb
  refine op_wantedF (d := 12) rfl rfl ?_
  refine op_not rfl rfl ?_
  refine op_pickF rfl rfl rfl ?_
  refine op_move rfl rfl ?_
  refine op_cases (d := 20) rfl (fun hc => ?_) (fun hc => ?_)
  ·have hg20 := hc; clear hc
   have e2 : inQ q P0.st = false := by simpa using hg20
   refine op_notF (d := 20) rfl rfl rfl rfl ?_
   refine op_notF (d := 20) rfl rfl rfl rfl ?_
   refine op_notF (d := 20) rfl rfl rfl rfl ?_
   refine op_notF (d := 20) rfl rfl rfl rfl ?_
   refine op_notF (d := 20) rfl rfl rfl rfl ?_
   refine op_notF (d := 20) rfl rfl rfl rfl ?_
   refine op_pickT rfl rfl rfl ?_
   refine op_move rfl rfl ?_
   refine op_notF (d := 28) rfl rfl rfl rfl ?_
   refine op_notF (d := 28) rfl rfl rfl rfl ?_
   refine op_notF (d := 28) rfl rfl rfl rfl ?_
   refine op_notF (d := 28) rfl rfl rfl rfl ?_
   refine op_pickT rfl rfl rfl ?_
   refine endF (XF.thenN ?_)
   refine condT rfl ?_
   refine seqF (regF ?_)
   refine op_assign rfl rfl ?_
   refine endF (XF.thenN ?_)
   refine retF ?_
   refine XF.thenR ?_
   refine XF.res (res1 Try.results70 rfl) ?_
   exact ⟨rbool (by simp [ruleB, e1, e2]), hS.below⟩
  ·have hg20 := hc; clear hc
   have e2 : inQ q P0.st = true := by simpa using hg20
   refine op_wantedF (d := 20) rfl rfl ?_
   refine op_field (o' := 1) fa_56_1 rfl rfl rfl ?_
   refine op_wantedF (d := 20) rfl rfl ?_
   refine op_load Try.isAgg3 rfl (cell_own (hS.at_ 0 rfl) rfl) rfl ?_
   refine op_wantedF (d := 20) rfl rfl ?_
   refine op_field (o' := 4) fa_28_2 rfl rfl rfl ?_
   refine op_wantedF (d := 20) rfl rfl ?_
   refine op_load Try.isAgg3 rfl (cell_own (hS.at_ 1 rfl) rfl) rfl ?_
   refine op_wantedF (d := 20) rfl rfl ?_
   refine op_call (vs := [_, _]) hS goes_40 rfl (inR_is g P0.sy _) rfl ?_
   rintro e W5 ⟨rfl, hb⟩
   refine ⟨_, rfl, hb, fun hS' => ?_⟩
   clear hS; have hS := hS'; clear hS' hb
   refine op_wantedF (d := 20) rfl rfl ?_
   refine op_not rfl rfl ?_
   refine op_pickF rfl rfl rfl ?_
   refine op_move rfl rfl ?_
   refine op_cases (d := 28) rfl (fun hc => ?_) (fun hc => ?_)
   ·have hg28 := hc; clear hc
    have e3 : inQ g P0.sy = false := by simpa using hg28
    refine op_notF (d := 28) rfl rfl rfl rfl ?_
    refine op_notF (d := 28) rfl rfl rfl rfl ?_
    refine op_notF (d := 28) rfl rfl rfl rfl ?_
    refine op_notF (d := 28) rfl rfl rfl rfl ?_
    refine op_pickT rfl rfl rfl ?_
    refine endF (XF.thenN ?_)
    refine condT rfl ?_
    refine seqF (regF ?_)
    refine op_assign rfl rfl ?_
    refine endF (XF.thenN ?_)
    refine retF ?_
    refine XF.thenR ?_
    refine XF.res (res1 Try.results70 rfl) ?_
    exact ⟨rbool (by simp [ruleB, e1, e2, e3]), hS.below⟩
   ·have hg28 := hc; clear hc
    have e3 : inQ g P0.sy = true := by simpa using hg28
    refine op_wantedF (d := 28) rfl rfl ?_
    refine op_field (o' := 3) fa_56_3 rfl rfl rfl ?_
    refine op_wantedF (d := 28) rfl rfl ?_
    refine op_load Try.isAgg30 rfl (cell_own (hS.at_ 0 rfl) rfl) rfl ?_
    refine op_wantedF (d := 28) rfl rfl ?_
    refine op_len Try.underlying30 rfl rfl ?_
    refine op_wantedF (d := 28) rfl rfl ?_
    refine op_gtr rfl rfl rfl ?_
    refine op_pickF rfl rfl rfl ?_
    refine endF (XF.thenN ?_)
    refine condF rfl (fun hc => ?_) (fun hc => ?_)
    ·have hc33 := of_decide_eq_true hc; clear hc
     have e4 : decide (wl ≤ 4096) = false := by simp; omega
     refine seqF (regF ?_)
     refine op_assign rfl rfl ?_
     refine endF (XF.thenN ?_)
     refine retF ?_
     refine XF.thenR ?_
     refine XF.res (res1 Try.results70 rfl) ?_
     exact ⟨rbool (by simp [ruleB, e1, e2, e3, e4]), hS.below⟩
    ·have hc33 := of_decide_eq_false hc; clear hc
     have e4 : decide (wl ≤ 4096) = true := by simp; omega
     refine skipF ?_
     refine XF.thenN ?_
     refine seqF ?_
     refine seqF (regF ?_)
     refine op_assign rfl rfl ?_
     refine endF (XF.thenN ?_)
     refine blockF ?_
     refine loopF (fun m l W => ∃ i : Nat, i ≤ wl ∧ m = wl - i ∧ l = [(2, .pointer (some ⟨B1, 0, none⟩)), (3, .pointer (some ⟨B2, 0, none⟩)), (5, .int .i64 (i : Int))] ∧ (ws.take i).all (fun y => inQ y P0.sy) = true ∧ St w [(B2, [.int .i64 p, .int .i64 g, .int .i64 q, .slice wa wl wc, .bool x.f.z, .int .i64 x.f.c, .int .u64 (x.f.g : Int), .slice x.f.ra x.f.rl x.f.rc, .slice x.f.ca x.f.cl x.f.cc, .slice x.f.pa x.f.pl x.f.pc], 56), (B1, P0.six, 28)] [] [] W) (wl - 0) ([(2, _), (3, _), (5, _)]) ⟨rfl, rfl, rfl, trivial⟩ (⟨0, Nat.zero_le _, rfl, rfl, rfl, hS.clear⟩) ?_
     clear hS
     rintro m l W ⟨i, hi, rfl, rfl, hall, hS⟩
     refine seqF ?_
     refine seqF (regF ?_)
     refine op_move rfl rfl ?_
     refine op_field (o' := 3) fa_56_3 rfl rfl rfl ?_
     refine op_load Try.isAgg30 rfl (cell_own (hS.at_ 0 rfl) rfl) rfl ?_
     refine op_len Try.underlying30 rfl rfl ?_
     refine op_lss rfl rfl rfl ?_
     refine endF (XF.thenN ?_)
     refine condF rfl (fun hc => ?_) (fun hc => ?_)
     ·have hc38 := of_decide_eq_true hc; clear hc
      have hk : i < wl := by omega
      obtain ⟨b, off, y, rfl, hy, hyc⟩ := hrow.at1 (show i < ws.length by omega)
      have k1 := hS.old hyc
      refine skipF ?_
      refine XF.thenN ?_
      refine seqF ?_
      refine blockF ?_
      refine seqF ?_
      refine regB (m := 9) followsM hS (by kernel_rfl) (by kernel_rfl) rfl ?_
      refine bl_cons 1 rfl (isV _) (stab_isV _) (rgV (li := [(3, _)]) rfl (w_free rfl) ⟨g_fr (by kernel_rfl) rfl, trivial⟩ (fun w hw => rn_field (o' := 3) fa_56_3 rfl rfl) (at_top rfl)) ?_
      refine bl_cons 2 rfl (isV _) (stab_isV _) (rgV (li := [(41, _)]) rfl (w_free rfl) ⟨g_dep 0 (by kernel_rfl) (at_dep rfl rfl rfl), trivial⟩ (fun w hw => rn_load Try.isAgg30 rfl ((below_agree hw 0).cell (Nat.zero_le _) (cell_own (hS.at_ 0 rfl) rfl))) (at_top rfl)) ?_
      refine bl_cons 3 rfl (isV _) (stab_isV _) (rgV (li := [(5, _)]) rfl (w_free rfl) ⟨g_fr (by kernel_rfl) rfl, trivial⟩ (fun w hw => rn_move rfl) (at_top rfl)) ?_
      refine bl_cons 4 rfl (isV _) (stab_isV _) (rgV (li := [(42, _), (43, _)]) rfl (w_free rfl) ⟨g_dep 1 (by kernel_rfl) (at_dep rfl rfl rfl), g_dep 2 (by kernel_rfl) (at_dep rfl rfl rfl), trivial⟩ (fun w hw => rn_indexA  Try.underlying30 Try.sizeOf3 rfl rfl rfl (by omega) rfl) (at_top rfl)) ?_
      refine bl_cons 5 rfl (isV _) (stab_isV _) (rgV (li := [(44, _)]) rfl (w_free rfl) ⟨g_dep 3 (by kernel_rfl) (at_dep rfl rfl rfl), trivial⟩ (fun w hw => rn_load Try.isAgg3 rfl ((below_agree hw 0).cell (Nat.zero_le _) (by assumption))) (at_top rfl)) ?_
      refine bl_cons 6 rfl (isV _) (stab_isV _) (rgV (li := [(2, _)]) rfl (w_free rfl) ⟨g_fr (by kernel_rfl) rfl, trivial⟩ (fun w hw => rn_field (o' := 4) fa_28_2 rfl rfl) (at_top rfl)) ?_
      refine bl_cons 7 rfl (isV _) (stab_isV _) (rgV (li := [(46, _)]) rfl (w_free rfl) ⟨g_dep 5 (by kernel_rfl) (at_dep rfl rfl rfl), trivial⟩ (fun w hw => rn_load Try.isAgg3 rfl ((below_agree hw 0).cell (Nat.zero_le _) (cell_own (hS.at_ 1 rfl) rfl))) (at_top rfl)) ?_
      refine bl_cons 8 rfl (isV (.bool (inQ y P0.sy))) (stab_isV _) (rg_call [isV _, isV _] rfl goes_40 (w_free rfl) ⟨p_tmp (g_dep 4 (by kernel_rfl) (at_dep rfl rfl rfl)), p_tmp (g_dep 6 (by kernel_rfl) (at_dep rfl rfl rfl)), trivial⟩ (fun vs w' hb hh => by have e := holds_isV (us := [_, _]) hh; subst e; exact (inR_is y P0.sy _).mono fun e w2 h => ⟨_, h.1, rfl, h.2⟩) (at_top rfl)) ?_
      refine bl_cons 9 rfl (isV _) (stab_isV _) (rgV (li := [(48, _)]) rfl (w_free rfl) ⟨g_dep 7 (by kernel_rfl) (at_dep rfl rfl rfl), trivial⟩ (fun w hw => rn_not rfl) (at_top rfl)) ?_
      refine bl_nil ?_
      intro W6 hbR hS'
      clear hS; have hS := hS'; clear hS'
      refine fin_v ?_
      refine fin_v ?_
      refine fin_v ?_
      refine fin_v ?_
      refine fin_v ?_
      refine fin_v ?_
      refine fin_v ?_
      refine fin_v ?_
      refine fin_v ?_
      refine fin_nil ?_
      refine XF.thenN ?_
      refine condF rfl (fun hc => ?_) (fun hc => ?_)
      ·have hc49 := hc; clear hc
       refine seqF (regF ?_)
       refine op_assign rfl rfl ?_
       refine endF (XF.thenN ?_)
       refine retF ?_
       refine XF.blkR ?_
       refine XF.thenR ?_
       refine XF.thenR ?_
       refine XF.blkR ?_
       refine XF.thenR ?_
       refine XF.res (res1 Try.results70 rfl) ?_
       exact ⟨rbool (by simp only [ruleB]; rw [all_false_at hy (by simpa using hc49)]; simp), hS.below⟩
      ·have hc49 := hc; clear hc
       refine skipF ?_
       refine XF.blkN ?_
       refine XF.thenN ?_
       refine regF ?_
       refine op_move rfl rfl ?_
       refine op_add rfl rfl (IntWalk.i64_in _ (by omega)) rfl ?_
       refine op_assign rfl rfl ?_
       refine endF ?_
       exact XF.round (wl - (i + 1)) [(2, _), (3, _), (5, _)] (by omega) ⟨rfl, rfl, rfl, trivial⟩ ⟨i + 1, by omega, rfl, rfl, all_take_at hy hall (by simpa using hc49), hS.clear⟩
     ·have hc38 := of_decide_eq_false hc; clear hc
      refine exitF ?_
      refine XF.thenX ?_
      refine XF.thenX ?_
      refine XF.blkX ?_
      refine XF.thenN ?_
      refine seqF (regF ?_)
      refine op_assign rfl rfl ?_
      refine endF (XF.thenN ?_)
      refine retF ?_
      refine XF.res (res1 Try.results70 rfl) ?_
      rw [List.take_of_length_le (by omega)] at hall
      exact ⟨rbool (by simp [ruleB, e1, e2, e3, e4, hall]), hS.below⟩
theorem ruleA_is {w : World} {d : Nat} (P0 : PV) {r : RV} (h : RIn w d r) : Calls Try.prog 68 #[P0.val, r.val] w (fun e w' => e = .returned (.bool (ruleB P0.st P0.sy r)) ∧ Below w.heap.size w w') := ruleA_c P0 _ _ _ _ _ _ _ _ w h.row h.len
theorem ruleR_is {w : World} {d : Nat} (P0 : PV) {r : RV} (h : RIn w d r) : Calls Try.prog 70 #[P0.val, r.val] w (fun e w' => e = .returned (.bool (ruleB P0.st P0.sy r)) ∧ Below w.heap.size w w') := ruleR_c P0 _ _ _ _ _ _ _ _ w h.row h.len
end Go.Proofs.Ytnhnedifekejpaa
namespace Go.Proofs.Ytnhnedifekejpaa
open Go Go.RowKit
theorem pdsA_c (ds d : Nat) (s : SV) (st sy : Int) (ra : Option Addr) (rl rc : Nat) (rs : List RV) (w : World) (hs : SIn w ds s) (hrow : RRow w ra rs) (hlen : rs.length = rl) (hin : ∀ r ∈ rs, RIn w d r) :
  Calls Try.prog 36 #[.agg #[.int .i64 s.f.tag, .int .i64 s.f.dim, .slice s.f.a s.f.len s.f.cap, .int .i64 st, .int .i64 sy, .slice ra rl rc]] w (fun e w' => e = .returned (.int .i64 (pdsE ⟨s, st, sy, ra, rl, rc, rs⟩)) ∧ Below w.heap.size w w') := by
 refine enterF (args := [.agg #[.int .i64 s.f.tag, .int .i64 s.f.dim, .slice s.f.a s.f.len s.f.cap, .int .i64 st, .int .i64 sy, .slice ra rl rc]]) Try.func36 rfl Try.ntmps36 rfl ?_
 have hS := St.start w
 refine seqF (regF ?_)
 refine op_box (cs := [_, _, _, _, _, _]) hS rfl rfl rfl ?_
 clear hS; intro B1 W1 hS
 refine op_assign rfl rfl ?_
 refine endF (XF.thenN ?_)
 refine seqF ?_
 refine seqF (regF ?_)
 refine op_field (o' := 0) fa_28_0 rfl rfl rfl ?_
 refine op_loadA (vs := [_, _, _]) Try.isAgg25 Try.sizeOf25 rfl (CellsAt.own (j := 0) (m := 3) (hS.at_ 0 rfl) rfl) rfl ?_
 refine op_call (vs := [_]) hS goes_67 rfl (spaceA_is ds s _ _ (SIn.below hS.below hs) rfl) rfl ?_
 rintro e W2 ⟨rfl, hb⟩
 refine ⟨_, rfl, hb, fun hS' => ?_⟩
 clear hS; have hS := hS'; clear hS' hb
 refine op_assign rfl rfl ?_
 refine endF (XF.thenN ?_)
 refine seqF (regF ?_)
 refine op_move rfl rfl ?_
 refine op_neq rfl rfl rfl ?_
 refine endF (XF.thenN ?_)
 refine condF rfl (fun hc => ?_) (fun hc => ?_)
 ·have hc13 := of_decide_eq_true hc; clear hc
  refine seqF (regF ?_)
  refine op_move rfl rfl ?_
  refine op_assign rfl rfl ?_
  refine endF (XF.thenN ?_)
  refine retF ?_
  refine XF.thenR ?_
  refine XF.res (res1 Try.results36 rfl) ?_
  exact ⟨rint (by simp only [pdsE]; rw [if_pos hc13]), hS.below⟩
 ·have hc13 := of_decide_eq_false hc; clear hc
  have h0 : ¬ spaceE s ≠ 0 := hc13
  refine skipF ?_
  refine XF.thenN ?_
  refine seqF ?_
  refine seqF (regF ?_)
  refine op_field (o' := 5) fa_28_3 rfl rfl rfl ?_
  refine op_load Try.isAgg26 rfl (cell_own (hS.at_ 0 rfl) rfl) rfl ?_
  refine op_len Try.underlying26 rfl rfl ?_
  refine op_gtr rfl rfl rfl ?_
  refine endF (XF.thenN ?_)
  refine condF rfl (fun hc => ?_) (fun hc => ?_)
  ·have hc18 := of_decide_eq_true hc; clear hc
   refine seqF (regF ?_)
   refine op_assign rfl rfl ?_
   refine endF (XF.thenN ?_)
   refine retF ?_
   refine XF.thenR ?_
   refine XF.res (res1 Try.results36 rfl) ?_
   exact ⟨rint (by simp only [pdsE]; rw [if_neg h0, if_pos (by omega)]), hS.below⟩
  ·have hc18 := of_decide_eq_false hc; clear hc
   have h1 : ¬ 16384 < rl := by omega
   refine skipF ?_
   refine XF.thenN ?_
   refine seqF ?_
   refine seqF (regF ?_)
   refine op_field (o' := 3) fa_28_1 rfl rfl rfl ?_
   refine op_load Try.isAgg3 rfl (cell_own (hS.at_ 0 rfl) rfl) rfl ?_
   refine op_lss rfl rfl rfl ?_
   refine op_move rfl rfl ?_
   refine op_cases (d := 22) rfl (fun hc => ?_) (fun hc => ?_)
   ·have hg22 := of_decide_eq_true hc; clear hc
    refine op_notF (d := 22) rfl rfl rfl rfl ?_
    refine op_notF (d := 22) rfl rfl rfl rfl ?_
    refine op_notF (d := 22) rfl rfl rfl rfl ?_
    refine op_pickT rfl rfl rfl ?_
    refine op_move rfl rfl ?_
    refine op_notF (d := 27) rfl rfl rfl rfl ?_
    refine op_notF (d := 27) rfl rfl rfl rfl ?_
    refine op_notF (d := 27) rfl rfl rfl rfl ?_
    refine op_pickT rfl rfl rfl ?_
    refine op_move rfl rfl ?_
    refine op_notF (d := 32) rfl rfl rfl rfl ?_
    refine op_notF (d := 32) rfl rfl rfl rfl ?_
    refine op_notF (d := 32) rfl rfl rfl rfl ?_
    refine op_pickT rfl rfl rfl ?_
    refine endF (XF.thenN ?_)
    refine condT rfl ?_
    refine seqF (regF ?_)
    refine op_assign rfl rfl ?_
    refine endF (XF.thenN ?_)
    refine retF ?_
    refine XF.thenR ?_
    refine XF.res (res1 Try.results36 rfl) ?_
    exact ⟨rint (by simp only [pdsE]; rw [if_neg h0, if_neg h1, if_pos (by omega)]), hS.below⟩
   ·have hg22 := of_decide_eq_false hc; clear hc
    refine op_wantedF (d := 22) rfl rfl ?_
    refine op_field (o' := 3) fa_28_1 rfl rfl rfl ?_
    refine op_wantedF (d := 22) rfl rfl ?_
    refine op_load Try.isAgg3 rfl (cell_own (hS.at_ 0 rfl) rfl) rfl ?_
    refine op_wantedF (d := 22) rfl rfl ?_
    refine op_gtr rfl rfl rfl ?_
    refine op_pickF rfl rfl rfl ?_
    refine op_move rfl rfl ?_
    refine op_cases (d := 27) rfl (fun hc => ?_) (fun hc => ?_)
    ·have hg27 := of_decide_eq_true hc; clear hc
     refine op_notF (d := 27) rfl rfl rfl rfl ?_
     refine op_notF (d := 27) rfl rfl rfl rfl ?_
     refine op_notF (d := 27) rfl rfl rfl rfl ?_
     refine op_pickT rfl rfl rfl ?_
     refine op_move rfl rfl ?_
     refine op_notF (d := 32) rfl rfl rfl rfl ?_
     refine op_notF (d := 32) rfl rfl rfl rfl ?_
     refine op_notF (d := 32) rfl rfl rfl rfl ?_
     refine op_pickT rfl rfl rfl ?_
     refine endF (XF.thenN ?_)
     refine condT rfl ?_
     refine seqF (regF ?_)
     refine op_assign rfl rfl ?_
     refine endF (XF.thenN ?_)
     refine retF ?_
     refine XF.thenR ?_
     refine XF.res (res1 Try.results36 rfl) ?_
     exact ⟨rint (by simp only [pdsE]; rw [if_neg h0, if_neg h1, if_pos (by omega)]), hS.below⟩
    ·have hg27 := of_decide_eq_false hc; clear hc
     refine op_wantedF (d := 27) rfl rfl ?_
     refine op_field (o' := 4) fa_28_2 rfl rfl rfl ?_
     refine op_wantedF (d := 27) rfl rfl ?_
     refine op_load Try.isAgg3 rfl (cell_own (hS.at_ 0 rfl) rfl) rfl ?_
     refine op_wantedF (d := 27) rfl rfl ?_
     refine op_lss rfl rfl rfl ?_
     refine op_pickF rfl rfl rfl ?_
     refine op_move rfl rfl ?_
     refine op_cases (d := 32) rfl (fun hc => ?_) (fun hc => ?_)
     ·have hg32 := of_decide_eq_true hc; clear hc
      refine op_notF (d := 32) rfl rfl rfl rfl ?_
      refine op_notF (d := 32) rfl rfl rfl rfl ?_
      refine op_notF (d := 32) rfl rfl rfl rfl ?_
      refine op_pickT rfl rfl rfl ?_
      refine endF (XF.thenN ?_)
      refine condT rfl ?_
      refine seqF (regF ?_)
      refine op_assign rfl rfl ?_
      refine endF (XF.thenN ?_)
      refine retF ?_
      refine XF.thenR ?_
      refine XF.res (res1 Try.results36 rfl) ?_
      exact ⟨rint (by simp only [pdsE]; rw [if_neg h0, if_neg h1, if_pos (by omega)]), hS.below⟩
     ·have hg32 := of_decide_eq_false hc; clear hc
      refine op_wantedF (d := 32) rfl rfl ?_
      refine op_field (o' := 4) fa_28_2 rfl rfl rfl ?_
      refine op_wantedF (d := 32) rfl rfl ?_
      refine op_load Try.isAgg3 rfl (cell_own (hS.at_ 0 rfl) rfl) rfl ?_
      refine op_wantedF (d := 32) rfl rfl ?_
      refine op_gtr rfl rfl rfl ?_
      refine op_pickF rfl rfl rfl ?_
      refine endF (XF.thenN ?_)
      refine condF rfl (fun hc => ?_) (fun hc => ?_)
      ·have hc36 := of_decide_eq_true hc; clear hc
       refine seqF (regF ?_)
       refine op_assign rfl rfl ?_
       refine endF (XF.thenN ?_)
       refine retF ?_
       refine XF.thenR ?_
       refine XF.res (res1 Try.results36 rfl) ?_
       exact ⟨rint (by simp only [pdsE]; rw [if_neg h0, if_neg h1, if_pos (by omega)]), hS.below⟩
      ·have hc36 := of_decide_eq_false hc; clear hc
       have h2 : ¬ (st < 0 ∨ 4096 < st ∨ sy < 0 ∨ 4096 < sy) := by omega
       refine skipF ?_
       refine XF.thenN ?_
       refine seqF ?_
       refine seqF (regF ?_)
       refine op_field (o' := 5) fa_28_3 rfl rfl rfl ?_
       refine op_load Try.isAgg26 rfl (cell_own (hS.at_ 0 rfl) rfl) rfl ?_
       refine op_len Try.underlying26 rfl rfl ?_
       refine op_move rfl rfl ?_
       refine endF (XF.thenN ?_)
       refine blockF ?_
       refine loopF (fun m l W => ∃ i : Nat, i ≤ rl ∧ m = rl - i ∧ l = [(1, .pointer (some ⟨B1, 0, none⟩)), (38, .slice ra rl rc), (39, .int .i64 (rl : Int)), (40, .int .i64 (i : Int))] ∧ (rs.take i).all (ruleB st sy) = true ∧ St w [(B1, [.int .i64 s.f.tag, .int .i64 s.f.dim, .slice s.f.a s.f.len s.f.cap, .int .i64 st, .int .i64 sy, .slice ra rl rc], 28)] [] [] W) (rl - 0) ([(1, _), (38, _), (39, _), (40, _)]) ⟨rfl, rfl, rfl, rfl, trivial⟩ (⟨0, Nat.zero_le _, rfl, rfl, rfl, hS.clear⟩) ?_
       clear hS
       rintro m l W ⟨i, hi, rfl, rfl, hall, hS⟩
       refine seqF (regF ?_)
       refine op_lss rfl rfl rfl ?_
       refine endF (XF.thenN ?_)
       refine seqF ?_
       refine condF rfl (fun hc => ?_) (fun hc => ?_)
       ·have hc41 := of_decide_eq_true hc; clear hc
        have hk : i < rl := by omega
        obtain ⟨r, hr⟩ : ∃ r, rs[i]? = some r := ⟨rs[i]'(by omega), by simp [show i < rs.length by omega]⟩
        obtain ⟨b, off, rfl, hcs⟩ := hrow.at_ hr
        have k1 := CellsAt.agree hS.agree (Nat.zero_le _) hcs
        have k2 := k1.2.2.2.2
        have hri := hin r (List.mem_of_getElem? hr)
        refine skipF ?_
        refine XF.thenN ?_
        refine seqF ?_
        refine blockF ?_
        refine seqF (regF ?_)
        refine op_indexA  Try.underlying26 Try.sizeOf56 rfl rfl rfl (by omega) rfl rfl ?_
        refine op_loadA (vs := [_, _, _, _, _, _, _, _, _, _]) Try.isAgg56 Try.sizeOf56 rfl (by assumption) rfl ?_
        refine op_alloc (cs := [_, _, _, _, _, _, _, _, _, _]) hS Try.zeroValue56 rfl rfl ?_
        clear hS; intro B3 W3 hS
        refine op_storeA (i := 0) (vs := [_, _, _, _, _, _, _, _, _, _]) (cs' := [_, _, _, _, _, _, _, _, _, _]) (O' := [_, _]) hS Try.sizeOf56 rfl rfl rfl rfl rfl rfl rfl ?_
        clear hS; intro W4 hS
        refine endF (XF.thenN ?_)
        refine seqF (regF ?_)
        refine op_loadA (vs := [_, _, _, _, _, _]) Try.isAgg28 Try.sizeOf28 rfl (CellsAt.own (j := 0) (m := 6) (hS.at_ 1 rfl) rfl) rfl ?_
        refine op_loadA (vs := [_, _, _, _, _, _, _, _, _, _]) Try.isAgg56 Try.sizeOf56 rfl (CellsAt.own (j := 0) (m := 10) (hS.at_ 0 rfl) rfl) rfl ?_
        refine op_call (vs := [_, _]) hS goes_68 rfl (ruleA_is ⟨s, st, sy, _, rl, rc, rs⟩ (hri.below hS.below)) rfl ?_
        rintro e W5 ⟨rfl, hb⟩
        refine ⟨_, rfl, hb, fun hS' => ?_⟩
        clear hS; have hS := hS'; clear hS' hb
        refine op_not rfl rfl ?_
        refine endF (XF.thenN ?_)
        refine condF rfl (fun hc => ?_) (fun hc => ?_)
        ·have hc47 := hc; clear hc
         refine seqF (regF ?_)
         refine op_assign rfl rfl ?_
         refine endF (XF.thenN ?_)
         refine retF ?_
         refine XF.blkR ?_
         refine XF.thenR ?_
         refine XF.thenR ?_
         refine XF.blkR ?_
         refine XF.thenR ?_
         refine XF.res (res1 Try.results36 rfl) ?_
         exact ⟨rint (by simp only [pdsE]; rw [if_neg h0, if_neg h1, if_neg h2, if_neg (by rw [all_false_at hr (by simpa using hc47)]; simp)]), hS.below⟩
        ·have hc47 := hc; clear hc
         refine skipF ?_
         refine XF.blkN ?_
         refine XF.thenN ?_
         refine regF ?_
         refine op_add rfl rfl (IntWalk.i64_in _ (by omega)) rfl ?_
         refine op_move rfl rfl ?_
         refine endF ?_
         exact XF.round (rl - (i + 1)) [(1, _), (38, _), (39, _), (40, _)] (by omega) ⟨rfl, rfl, rfl, rfl, trivial⟩ ⟨i + 1, by omega, rfl, rfl, all_take_at hr hall (by simpa using hc47), hS.tail.clear⟩
       ·have hc41 := of_decide_eq_false hc; clear hc
        rw [List.take_of_length_le (by omega)] at hall
        refine exitF ?_
        refine XF.thenX ?_
        refine XF.thenX ?_
        refine XF.blkX ?_
        refine XF.thenN ?_
        refine seqF ?_
        refine seqF (regF ?_)
        refine op_field (o' := 5) fa_28_3 rfl rfl rfl ?_
        refine op_load Try.isAgg26 rfl (cell_own (hS.at_ 0 rfl) rfl) rfl ?_
        refine op_len Try.underlying26 rfl rfl ?_
        refine op_move rfl rfl ?_
        refine endF (XF.thenN ?_)
        refine blockF ?_
        refine loopF (fun m l W => ∃ i : Nat, i ≤ rl ∧ m = rl - i ∧ l = [(1, .pointer (some ⟨B1, 0, none⟩)), (50, .slice ra rl rc), (51, .int .i64 (rl : Int)), (52, .int .i64 (i : Int))] ∧ (rs.take i).all (fun r => decide (chkW s r.x = 0)) = true ∧ St w [(B1, [.int .i64 s.f.tag, .int .i64 s.f.dim, .slice s.f.a s.f.len s.f.cap, .int .i64 st, .int .i64 sy, .slice ra rl rc], 28)] [] [] W) (rl - 0) ([(1, _), (50, _), (51, _), (52, _)]) ⟨rfl, rfl, rfl, rfl, trivial⟩ (⟨0, Nat.zero_le _, rfl, rfl, rfl, hS.clear⟩) ?_
        clear hS
        rintro m l W ⟨i, hi, rfl, rfl, hall2, hS⟩
        refine seqF (regF ?_)
        refine op_lss rfl rfl rfl ?_
        refine endF (XF.thenN ?_)
        refine seqF ?_
        refine condF rfl (fun hc => ?_) (fun hc => ?_)
        ·have hc53 := of_decide_eq_true hc; clear hc
         have hk : i < rl := by omega
         obtain ⟨r, hr⟩ : ∃ r, rs[i]? = some r := ⟨rs[i]'(by omega), by simp [show i < rs.length by omega]⟩
         obtain ⟨b, off, rfl, hcs⟩ := hrow.at_ hr
         have k1 := CellsAt.agree hS.agree (Nat.zero_le _) hcs
         have k2 := k1.2.2.2.2
         have hri := hin r (List.mem_of_getElem? hr)
         refine skipF ?_
         refine XF.thenN ?_
         refine seqF ?_
         refine blockF ?_
         refine seqF (regF ?_)
         refine op_indexA  Try.underlying26 Try.sizeOf56 rfl rfl rfl (by omega) rfl rfl ?_
         refine op_loadA (vs := [_, _, _, _, _, _, _, _, _, _]) Try.isAgg56 Try.sizeOf56 rfl (by assumption) rfl ?_
         refine op_alloc (cs := [_, _, _, _, _, _, _, _, _, _]) hS Try.zeroValue56 rfl rfl ?_
         clear hS; intro B6 W6 hS
         refine op_storeA (i := 0) (vs := [_, _, _, _, _, _, _, _, _, _]) (cs' := [_, _, _, _, _, _, _, _, _, _]) (O' := [_, _]) hS Try.sizeOf56 rfl rfl rfl rfl rfl rfl rfl ?_
         clear hS; intro W7 hS
         refine endF (XF.thenN ?_)
         refine seqF (regF ?_)
         refine op_field (o' := 0) fa_28_0 rfl rfl rfl ?_
         refine op_loadA (vs := [_, _, _]) Try.isAgg25 Try.sizeOf25 rfl (CellsAt.own (j := 0) (m := 3) (hS.at_ 1 rfl) rfl) rfl ?_
         refine op_field (o' := 4) fa_56_4 rfl rfl rfl ?_
         refine op_loadA (vs := [_, _, _, _, _, _]) Try.isAgg54 Try.sizeOf54 rfl (CellsAt.own (j := 4) (m := 6) (hS.at_ 0 rfl) rfl) rfl ?_
         refine op_call (vs := [_, _]) hS goes_69 rfl (checkA_genY ds d s r.x _ (SIn.below hS.below hs) (WIn.below hS.below hri.x)) rfl ?_
         rintro e W8 ⟨rfl, hb⟩
         refine ⟨_, rfl, hb, fun hS' => ?_⟩
         clear hS; have hS := hS'; clear hS' hb
         refine op_assign rfl rfl ?_
         refine endF (XF.thenN ?_)
         refine seqF (regF ?_)
         refine op_move rfl rfl ?_
         refine op_neq rfl rfl rfl ?_
         refine endF (XF.thenN ?_)
         refine condF rfl (fun hc => ?_) (fun hc => ?_)
         ·have hc62 := of_decide_eq_true hc; clear hc
          refine seqF (regF ?_)
          refine op_move rfl rfl ?_
          refine op_assign rfl rfl ?_
          refine endF (XF.thenN ?_)
          refine retF ?_
          refine XF.blkR ?_
          refine XF.thenR ?_
          refine XF.thenR ?_
          refine XF.blkR ?_
          refine XF.thenR ?_
          refine XF.res (res1 Try.results36 rfl) ?_
          exact ⟨rint (by simp only [pdsE]; rw [if_neg h0, if_neg h1, if_neg h2, if_pos hall, wtE_at hr hall2 hc62]), hS.below⟩
         ·have hc62 := of_decide_eq_false hc; clear hc
          refine skipF ?_
          refine XF.blkN ?_
          refine XF.thenN ?_
          refine regF ?_
          refine op_add rfl rfl (IntWalk.i64_in _ (by omega)) rfl ?_
          refine op_move rfl rfl ?_
          refine endF ?_
          exact XF.round (rl - (i + 1)) [(1, _), (50, _), (51, _), (52, _)] (by omega) ⟨rfl, rfl, rfl, rfl, trivial⟩ ⟨i + 1, by omega, rfl, rfl, all_take_at hr hall2 (by simpa using hc62), hS.tail.clear⟩
        ·have hc53 := of_decide_eq_false hc; clear hc
         refine exitF ?_
         refine XF.thenX ?_
         refine XF.thenX ?_
         refine XF.blkX ?_
         refine XF.thenN ?_
         refine seqF (regF ?_)
         refine op_assign rfl rfl ?_
         refine endF (XF.thenN ?_)
         refine retF ?_
         refine XF.res (res1 Try.results36 rfl) ?_
         rw [List.take_of_length_le (by omega)] at hall2
         exact ⟨rint (by simp only [pdsE]; rw [if_neg h0, if_neg h1, if_neg h2, if_pos hall, wtE_all hall2]), hS.below⟩
theorem pdsR_c (ds d : Nat) (s : SV) (st sy : Int) (ra : Option Addr) (rl rc : Nat) (rs : List RV) (w : World) (hs : SIn w ds s) (hrow : RRow w ra rs) (hlen : rs.length = rl) (hin : ∀ r ∈ rs, RIn w d r) :
  Calls Try.prog 39 #[.agg #[.int .i64 s.f.tag, .int .i64 s.f.dim, .slice s.f.a s.f.len s.f.cap, .int .i64 st, .int .i64 sy, .slice ra rl rc]] w (fun e w' => e = .returned (.int .i64 (pdsE ⟨s, st, sy, ra, rl, rc, rs⟩)) ∧ Below w.heap.size w w') := by
 refine enterF (args := [.agg #[.int .i64 s.f.tag, .int .i64 s.f.dim, .slice s.f.a s.f.len s.f.cap, .int .i64 st, .int .i64 sy, .slice ra rl rc]]) Try.func39 rfl Try.ntmps39 rfl ?_
 have hS := St.start w
 refine seqF (regF ?_)
 refine op_box (cs := [_, _, _, _, _, _]) hS rfl rfl rfl ?_
 clear hS; intro B1 W1 hS
 refine op_assign rfl rfl ?_
 refine endF (XF.thenN ?_)
 refine seqF (regF ?_)
 refine op_field (o' := 0) fa_28_0 rfl rfl rfl ?_
 refine op_loadA (vs := [_, _, _]) Try.isAgg25 Try.sizeOf25 rfl (CellsAt.own (j := 0) (m := 3) (hS.at_ 0 rfl) rfl) rfl ?_
 refine op_call (vs := [_]) hS goes_46 rfl (spaceR_is ds s _ _ (SIn.below hS.below hs) rfl) rfl ?_
 rintro e W2 ⟨rfl, hb⟩
 refine ⟨_, rfl, hb, fun hS' => ?_⟩
 clear hS; have hS := hS'; clear hS' hb
 refine op_assign rfl rfl ?_
 refine endF (XF.thenN ?_)
 refine seqF ?_
 refine seqF (regF ?_)
 refine op_move rfl rfl ?_
 refine op_neq rfl rfl rfl ?_
 refine endF (XF.thenN ?_)
 refine condF rfl (fun hc => ?_) (fun hc => ?_)
 ·have hc11 := of_decide_eq_true hc; clear hc
  refine seqF (regF ?_)
  refine op_move rfl rfl ?_
  refine op_assign rfl rfl ?_
  refine endF (XF.thenN ?_)
  refine retF ?_
  refine XF.thenR ?_
  refine XF.res (res1 Try.results39 rfl) ?_
  exact ⟨rint (by simp only [pdsE]; rw [if_pos hc11]), hS.below⟩
 ·have hc11 := of_decide_eq_false hc; clear hc
  have h0 : ¬ spaceE s ≠ 0 := hc11
  refine skipF ?_
  refine XF.thenN ?_
  refine seqF ?_
  refine seqF (regF ?_)
  refine op_field (o' := 5) fa_28_3 rfl rfl rfl ?_
  refine op_load Try.isAgg26 rfl (cell_own (hS.at_ 0 rfl) rfl) rfl ?_
  refine op_len Try.underlying26 rfl rfl ?_
  refine op_gtr rfl rfl rfl ?_
  refine endF (XF.thenN ?_)
  refine condF rfl (fun hc => ?_) (fun hc => ?_)
  ·have hc16 := of_decide_eq_true hc; clear hc
   refine seqF (regF ?_)
   refine op_assign rfl rfl ?_
   refine endF (XF.thenN ?_)
   refine retF ?_
   refine XF.thenR ?_
   refine XF.res (res1 Try.results39 rfl) ?_
   exact ⟨rint (by simp only [pdsE]; rw [if_neg h0, if_pos (by omega)]), hS.below⟩
  ·have hc16 := of_decide_eq_false hc; clear hc
   have h1 : ¬ 16384 < rl := by omega
   refine skipF ?_
   refine XF.thenN ?_
   refine seqF ?_
   refine seqF (regF ?_)
   refine op_field (o' := 3) fa_28_1 rfl rfl rfl ?_
   refine op_load Try.isAgg3 rfl (cell_own (hS.at_ 0 rfl) rfl) rfl ?_
   refine op_lss rfl rfl rfl ?_
   refine op_move rfl rfl ?_
   refine op_cases (d := 20) rfl (fun hc => ?_) (fun hc => ?_)
   ·have hg20 := of_decide_eq_true hc; clear hc
    refine op_notF (d := 20) rfl rfl rfl rfl ?_
    refine op_notF (d := 20) rfl rfl rfl rfl ?_
    refine op_notF (d := 20) rfl rfl rfl rfl ?_
    refine op_pickT rfl rfl rfl ?_
    refine op_move rfl rfl ?_
    refine op_notF (d := 25) rfl rfl rfl rfl ?_
    refine op_notF (d := 25) rfl rfl rfl rfl ?_
    refine op_notF (d := 25) rfl rfl rfl rfl ?_
    refine op_pickT rfl rfl rfl ?_
    refine op_move rfl rfl ?_
    refine op_notF (d := 30) rfl rfl rfl rfl ?_
    refine op_notF (d := 30) rfl rfl rfl rfl ?_
    refine op_notF (d := 30) rfl rfl rfl rfl ?_
    refine op_pickT rfl rfl rfl ?_
    refine endF (XF.thenN ?_)
    refine condT rfl ?_
    refine seqF (regF ?_)
    refine op_assign rfl rfl ?_
    refine endF (XF.thenN ?_)
    refine retF ?_
    refine XF.thenR ?_
    refine XF.res (res1 Try.results39 rfl) ?_
    exact ⟨rint (by simp only [pdsE]; rw [if_neg h0, if_neg h1, if_pos (by omega)]), hS.below⟩
   ·have hg20 := of_decide_eq_false hc; clear hc
    refine op_wantedF (d := 20) rfl rfl ?_
    refine op_field (o' := 3) fa_28_1 rfl rfl rfl ?_
    refine op_wantedF (d := 20) rfl rfl ?_
    refine op_load Try.isAgg3 rfl (cell_own (hS.at_ 0 rfl) rfl) rfl ?_
    refine op_wantedF (d := 20) rfl rfl ?_
    refine op_gtr rfl rfl rfl ?_
    refine op_pickF rfl rfl rfl ?_
    refine op_move rfl rfl ?_
    refine op_cases (d := 25) rfl (fun hc => ?_) (fun hc => ?_)
    ·have hg25 := of_decide_eq_true hc; clear hc
     refine op_notF (d := 25) rfl rfl rfl rfl ?_
     refine op_notF (d := 25) rfl rfl rfl rfl ?_
     refine op_notF (d := 25) rfl rfl rfl rfl ?_
     refine op_pickT rfl rfl rfl ?_
     refine op_move rfl rfl ?_
     refine op_notF (d := 30) rfl rfl rfl rfl ?_
     refine op_notF (d := 30) rfl rfl rfl rfl ?_
     refine op_notF (d := 30) rfl rfl rfl rfl ?_
     refine op_pickT rfl rfl rfl ?_
     refine endF (XF.thenN ?_)
     refine condT rfl ?_
     refine seqF (regF ?_)
     refine op_assign rfl rfl ?_
     refine endF (XF.thenN ?_)
     refine retF ?_
     refine XF.thenR ?_
     refine XF.res (res1 Try.results39 rfl) ?_
     exact ⟨rint (by simp only [pdsE]; rw [if_neg h0, if_neg h1, if_pos (by omega)]), hS.below⟩
    ·have hg25 := of_decide_eq_false hc; clear hc
     refine op_wantedF (d := 25) rfl rfl ?_
     refine op_field (o' := 4) fa_28_2 rfl rfl rfl ?_
     refine op_wantedF (d := 25) rfl rfl ?_
     refine op_load Try.isAgg3 rfl (cell_own (hS.at_ 0 rfl) rfl) rfl ?_
     refine op_wantedF (d := 25) rfl rfl ?_
     refine op_lss rfl rfl rfl ?_
     refine op_pickF rfl rfl rfl ?_
     refine op_move rfl rfl ?_
     refine op_cases (d := 30) rfl (fun hc => ?_) (fun hc => ?_)
     ·have hg30 := of_decide_eq_true hc; clear hc
      refine op_notF (d := 30) rfl rfl rfl rfl ?_
      refine op_notF (d := 30) rfl rfl rfl rfl ?_
      refine op_notF (d := 30) rfl rfl rfl rfl ?_
      refine op_pickT rfl rfl rfl ?_
      refine endF (XF.thenN ?_)
      refine condT rfl ?_
      refine seqF (regF ?_)
      refine op_assign rfl rfl ?_
      refine endF (XF.thenN ?_)
      refine retF ?_
      refine XF.thenR ?_
      refine XF.res (res1 Try.results39 rfl) ?_
      exact ⟨rint (by simp only [pdsE]; rw [if_neg h0, if_neg h1, if_pos (by omega)]), hS.below⟩
     ·have hg30 := of_decide_eq_false hc; clear hc
      refine op_wantedF (d := 30) rfl rfl ?_
      refine op_field (o' := 4) fa_28_2 rfl rfl rfl ?_
      refine op_wantedF (d := 30) rfl rfl ?_
      refine op_load Try.isAgg3 rfl (cell_own (hS.at_ 0 rfl) rfl) rfl ?_
      refine op_wantedF (d := 30) rfl rfl ?_
      refine op_gtr rfl rfl rfl ?_
      refine op_pickF rfl rfl rfl ?_
      refine endF (XF.thenN ?_)
      refine condF rfl (fun hc => ?_) (fun hc => ?_)
      ·have hc34 := of_decide_eq_true hc; clear hc
       refine seqF (regF ?_)
       refine op_assign rfl rfl ?_
       refine endF (XF.thenN ?_)
       refine retF ?_
       refine XF.thenR ?_
       refine XF.res (res1 Try.results39 rfl) ?_
       exact ⟨rint (by simp only [pdsE]; rw [if_neg h0, if_neg h1, if_pos (by omega)]), hS.below⟩
      ·have hc34 := of_decide_eq_false hc; clear hc
       have h2 : ¬ (st < 0 ∨ 4096 < st ∨ sy < 0 ∨ 4096 < sy) := by omega
       refine skipF ?_
       refine XF.thenN ?_
       refine seqF ?_
       refine seqF (regF ?_)
       refine op_assign rfl rfl ?_
       refine endF (XF.thenN ?_)
       refine blockF ?_
       refine loopF (fun m l W => ∃ i : Nat, i ≤ rl ∧ m = rl - i ∧ l = [(1, .pointer (some ⟨B1, 0, none⟩)), (4, .int .i64 (i : Int))] ∧ (rs.take i).all (ruleB st sy) = true ∧ St w [(B1, [.int .i64 s.f.tag, .int .i64 s.f.dim, .slice s.f.a s.f.len s.f.cap, .int .i64 st, .int .i64 sy, .slice ra rl rc], 28)] [] [] W) (rl - 0) ([(1, _), (4, _)]) ⟨rfl, rfl, trivial⟩ (⟨0, Nat.zero_le _, rfl, rfl, rfl, hS.clear⟩) ?_
       clear hS
       rintro m l W ⟨i, hi, rfl, rfl, hall, hS⟩
       refine seqF ?_
       refine seqF (regF ?_)
       refine op_move rfl rfl ?_
       refine op_field (o' := 5) fa_28_3 rfl rfl rfl ?_
       refine op_load Try.isAgg26 rfl (cell_own (hS.at_ 0 rfl) rfl) rfl ?_
       refine op_len Try.underlying26 rfl rfl ?_
       refine op_lss rfl rfl rfl ?_
       refine endF (XF.thenN ?_)
       refine condF rfl (fun hc => ?_) (fun hc => ?_)
       ·have hc39 := of_decide_eq_true hc; clear hc
        have hk : i < rl := by omega
        obtain ⟨r, hr⟩ : ∃ r, rs[i]? = some r := ⟨rs[i]'(by omega), by simp [show i < rs.length by omega]⟩
        obtain ⟨b, off, rfl, hcs⟩ := hrow.at_ hr
        have k1 := CellsAt.agree hS.agree (Nat.zero_le _) hcs
        have k2 := k1.2.2.2.2
        have hri := hin r (List.mem_of_getElem? hr)
        refine skipF ?_
        refine XF.thenN ?_
        refine seqF ?_
        refine blockF ?_
        refine seqF ?_
        refine regB (m := 8) followsM hS (by kernel_rfl) (by kernel_rfl) rfl ?_
        refine bl_cons 1 rfl (isV _) (stab_isV _) (rgV (li := [(1, _)]) rfl (w_free rfl) ⟨g_fr (by kernel_rfl) rfl, trivial⟩ (fun w hw => rn_loadA (vs := [_, _, _, _, _, _]) Try.isAgg28 Try.sizeOf28 rfl (CellsAt.agree (below_agree hw 0) (Nat.zero_le _) (CellsAt.own (j := 0) (m := 6) (hS.at_ 0 rfl) rfl))) (at_top rfl)) ?_
        refine bl_cons 2 rfl (isV _) (stab_isV _) (rgV (li := [(1, _)]) rfl (w_free rfl) ⟨g_fr (by kernel_rfl) rfl, trivial⟩ (fun w hw => rn_field (o' := 5) fa_28_3 rfl rfl) (at_top rfl)) ?_
        refine bl_cons 3 rfl (isV _) (stab_isV _) (rgV (li := [(43, _)]) rfl (w_free rfl) ⟨g_dep 1 (by kernel_rfl) (at_dep rfl rfl rfl), trivial⟩ (fun w hw => rn_load Try.isAgg26 rfl ((below_agree hw 0).cell (Nat.zero_le _) (cell_own (hS.at_ 0 rfl) rfl))) (at_top rfl)) ?_
        refine bl_cons 4 rfl (isV _) (stab_isV _) (rgV (li := [(4, _)]) rfl (w_free rfl) ⟨g_fr (by kernel_rfl) rfl, trivial⟩ (fun w hw => rn_move rfl) (at_top rfl)) ?_
        refine bl_cons 5 rfl (isV _) (stab_isV _) (rgV (li := [(44, _), (45, _)]) rfl (w_free rfl) ⟨g_dep 2 (by kernel_rfl) (at_dep rfl rfl rfl), g_dep 3 (by kernel_rfl) (at_dep rfl rfl rfl), trivial⟩ (fun w hw => rn_indexA  Try.underlying26 Try.sizeOf56 rfl rfl rfl (by omega) rfl) (at_top rfl)) ?_
        refine bl_cons 6 rfl (isV _) (stab_isV _) (rgV (li := [(46, _)]) rfl (w_free rfl) ⟨g_dep 4 (by kernel_rfl) (at_dep rfl rfl rfl), trivial⟩ (fun w hw => rn_loadA (vs := [_, _, _, _, _, _, _, _, _, _]) Try.isAgg56 Try.sizeOf56 rfl (CellsAt.agree (below_agree hw 0) (Nat.zero_le _) (by assumption))) (at_top rfl)) ?_
        refine bl_cons 7 rfl (isV (.bool (ruleB st sy r))) (stab_isV _) (rg_call [isV _, isV _] rfl goes_70 (w_free rfl) ⟨p_tmp (g_dep 0 (by kernel_rfl) (at_dep rfl rfl rfl)), p_tmp (g_dep 5 (by kernel_rfl) (at_dep rfl rfl rfl)), trivial⟩ (fun vs w' hb hh => by have e := holds_isV (us := [_, _]) hh; subst e; exact (ruleR_is ⟨s, st, sy, _, rl, rc, rs⟩ (hri.below (hS.below.trans (hb.mono hS.below.size)))).mono fun e w2 h => ⟨_, h.1, rfl, h.2⟩) (at_top rfl)) ?_
        refine bl_cons 8 rfl (isV _) (stab_isV _) (rgV (li := [(48, _)]) rfl (w_free rfl) ⟨g_dep 6 (by kernel_rfl) (at_dep rfl rfl rfl), trivial⟩ (fun w hw => rn_not rfl) (at_top rfl)) ?_
        refine bl_nil ?_
        intro W3 hbR hS'
        clear hS; have hS := hS'; clear hS'
        refine fin_v ?_
        refine fin_v ?_
        refine fin_v ?_
        refine fin_v ?_
        refine fin_v ?_
        refine fin_v ?_
        refine fin_v ?_
        refine fin_v ?_
        refine fin_nil ?_
        refine XF.thenN ?_
        refine condF rfl (fun hc => ?_) (fun hc => ?_)
        ·have hc49 := hc; clear hc
         refine seqF (regF ?_)
         refine op_assign rfl rfl ?_
         refine endF (XF.thenN ?_)
         refine retF ?_
         refine XF.blkR ?_
         refine XF.thenR ?_
         refine XF.thenR ?_
         refine XF.blkR ?_
         refine XF.thenR ?_
         refine XF.res (res1 Try.results39 rfl) ?_
         exact ⟨rint (by simp only [pdsE]; rw [if_neg h0, if_neg h1, if_neg h2, if_neg (by rw [all_false_at hr (by simpa using hc49)]; simp)]), hS.below⟩
        ·have hc49 := hc; clear hc
         refine skipF ?_
         refine XF.blkN ?_
         refine XF.thenN ?_
         refine regF ?_
         refine op_move rfl rfl ?_
         refine op_add rfl rfl (IntWalk.i64_in _ (by omega)) rfl ?_
         refine op_assign rfl rfl ?_
         refine endF ?_
         exact XF.round (rl - (i + 1)) [(1, _), (4, _)] (by omega) ⟨rfl, rfl, trivial⟩ ⟨i + 1, by omega, rfl, rfl, all_take_at hr hall (by simpa using hc49), hS.clear⟩
       ·have hc39 := of_decide_eq_false hc; clear hc
        rw [List.take_of_length_le (by omega)] at hall
        refine exitF ?_
        refine XF.thenX ?_
        refine XF.thenX ?_
        refine XF.blkX ?_
        refine XF.thenN ?_
        refine seqF ?_
        refine seqF (regF ?_)
        refine op_assign rfl rfl ?_
        refine endF (XF.thenN ?_)
        refine blockF ?_
        refine loopF (fun m l W => ∃ i : Nat, i ≤ rl ∧ m = rl - i ∧ l = [(1, .pointer (some ⟨B1, 0, none⟩)), (5, .int .i64 (i : Int))] ∧ (rs.take i).all (fun r => decide (chkW s r.x = 0)) = true ∧ St w [(B1, [.int .i64 s.f.tag, .int .i64 s.f.dim, .slice s.f.a s.f.len s.f.cap, .int .i64 st, .int .i64 sy, .slice ra rl rc], 28)] [] [] W) (rl - 0) ([(1, _), (5, _)]) ⟨rfl, rfl, trivial⟩ (⟨0, Nat.zero_le _, rfl, rfl, rfl, hS.clear⟩) ?_
        clear hS
        rintro m l W ⟨i, hi, rfl, rfl, hall2, hS⟩
        refine seqF ?_
        refine seqF (regF ?_)
        refine op_move rfl rfl ?_
        refine op_field (o' := 5) fa_28_3 rfl rfl rfl ?_
        refine op_load Try.isAgg26 rfl (cell_own (hS.at_ 0 rfl) rfl) rfl ?_
        refine op_len Try.underlying26 rfl rfl ?_
        refine op_lss rfl rfl rfl ?_
        refine endF (XF.thenN ?_)
        refine condF rfl (fun hc => ?_) (fun hc => ?_)
        ·have hc54 := of_decide_eq_true hc; clear hc
         have hk : i < rl := by omega
         obtain ⟨r, hr⟩ : ∃ r, rs[i]? = some r := ⟨rs[i]'(by omega), by simp [show i < rs.length by omega]⟩
         obtain ⟨b, off, rfl, hcs⟩ := hrow.at_ hr
         have k1 := CellsAt.agree hS.agree (Nat.zero_le _) hcs
         have k2 := k1.2.2.2.2
         have hri := hin r (List.mem_of_getElem? hr)
         refine skipF ?_
         refine XF.thenN ?_
         refine seqF ?_
         refine blockF ?_
         refine seqF ?_
         refine regB (m := 10) followsM hS (by kernel_rfl) (by kernel_rfl) rfl ?_
         refine bl_cons 1 rfl (isV _) (stab_isV _) (rgV (li := [(1, _)]) rfl (w_free rfl) ⟨g_fr (by kernel_rfl) rfl, trivial⟩ (fun w hw => rn_field (o' := 0) fa_28_0 rfl rfl) (at_top rfl)) ?_
         refine bl_cons 2 rfl (isV _) (stab_isV _) (rgV (li := [(57, _)]) rfl (w_free rfl) ⟨g_dep 0 (by kernel_rfl) (at_dep rfl rfl rfl), trivial⟩ (fun w hw => rn_loadA (vs := [_, _, _]) Try.isAgg25 Try.sizeOf25 rfl (CellsAt.agree (below_agree hw 0) (Nat.zero_le _) (CellsAt.own (j := 0) (m := 3) (hS.at_ 0 rfl) rfl))) (at_top rfl)) ?_
         refine bl_cons 3 rfl (isV _) (stab_isV _) (rgV (li := [(1, _)]) rfl (w_free rfl) ⟨g_fr (by kernel_rfl) rfl, trivial⟩ (fun w hw => rn_field (o' := 5) fa_28_3 rfl rfl) (at_top rfl)) ?_
         refine bl_cons 4 rfl (isV _) (stab_isV _) (rgV (li := [(59, _)]) rfl (w_free rfl) ⟨g_dep 2 (by kernel_rfl) (at_dep rfl rfl rfl), trivial⟩ (fun w hw => rn_load Try.isAgg26 rfl ((below_agree hw 0).cell (Nat.zero_le _) (cell_own (hS.at_ 0 rfl) rfl))) (at_top rfl)) ?_
         refine bl_cons 5 rfl (isV _) (stab_isV _) (rgV (li := [(5, _)]) rfl (w_free rfl) ⟨g_fr (by kernel_rfl) rfl, trivial⟩ (fun w hw => rn_move rfl) (at_top rfl)) ?_
         refine bl_cons 6 rfl (isV _) (stab_isV _) (rgV (li := [(60, _), (61, _)]) rfl (w_free rfl) ⟨g_dep 3 (by kernel_rfl) (at_dep rfl rfl rfl), g_dep 4 (by kernel_rfl) (at_dep rfl rfl rfl), trivial⟩ (fun w hw => rn_indexA  Try.underlying26 Try.sizeOf56 rfl rfl rfl (by omega) rfl) (at_top rfl)) ?_
         refine bl_cons 7 rfl (isV _) (stab_isV _) (rgV (li := [(62, _)]) rfl (w_free rfl) ⟨g_dep 5 (by kernel_rfl) (at_dep rfl rfl rfl), trivial⟩ (fun w hw => rn_field fa_56_4 rfl rfl) (at_top rfl)) ?_
         refine bl_cons 8 rfl (isV _) (stab_isV _) (rgV (li := [(63, _)]) rfl (w_free rfl) ⟨g_dep 6 (by kernel_rfl) (at_dep rfl rfl rfl), trivial⟩ (fun w hw => rn_loadA (vs := [_, _, _, _, _, _]) Try.isAgg54 Try.sizeOf54 rfl (CellsAt.agree (below_agree hw 0) (Nat.zero_le _) (k2))) (at_top rfl)) ?_
         refine bl_cons 9 rfl (isV (.int .i64 (chkW s r.x))) (stab_isV _) (rg_call [isV _, isV _] rfl goes_71 (w_free rfl) ⟨p_tmp (g_dep 1 (by kernel_rfl) (at_dep rfl rfl rfl)), p_tmp (g_dep 7 (by kernel_rfl) (at_dep rfl rfl rfl)), trivial⟩ (fun vs w' hb hh => by have e := holds_isV (us := [_, _]) hh; subst e; exact (checkR_genY ds d s r.x _ (SIn.below (hS.below.trans (hb.mono hS.below.size)) hs) (WIn.below (hS.below.trans (hb.mono hS.below.size)) hri.x)).mono fun e w2 h => ⟨_, h.1, rfl, h.2⟩) (at_top rfl)) ?_
         refine bl_cons 10 rfl (isV _) (stab_isV _) (rgV (li := [(65, _)]) rfl (w_free rfl) ⟨g_dep 8 (by kernel_rfl) (at_dep rfl rfl rfl), trivial⟩ (fun w hw => rn_assign rfl) (at_top rfl)) ?_
         refine bl_nil ?_
         intro W4 hbR hS'
         clear hS; have hS := hS'; clear hS'
         refine fin_v ?_
         refine fin_v ?_
         refine fin_v ?_
         refine fin_v ?_
         refine fin_v ?_
         refine fin_v ?_
         refine fin_v ?_
         refine fin_v ?_
         refine fin_v ?_
         refine fin_v ?_
         refine fin_nil ?_
         refine XF.thenN ?_
         refine seqF (regF ?_)
         refine op_move rfl rfl ?_
         refine op_neq rfl rfl rfl ?_
         refine endF (XF.thenN ?_)
         refine condF rfl (fun hc => ?_) (fun hc => ?_)
         ·have hc67 := of_decide_eq_true hc; clear hc
          refine seqF (regF ?_)
          refine op_move rfl rfl ?_
          refine op_assign rfl rfl ?_
          refine endF (XF.thenN ?_)
          refine retF ?_
          refine XF.blkR ?_
          refine XF.thenR ?_
          refine XF.thenR ?_
          refine XF.blkR ?_
          refine XF.thenR ?_
          refine XF.res (res1 Try.results39 rfl) ?_
          exact ⟨rint (by simp only [pdsE]; rw [if_neg h0, if_neg h1, if_neg h2, if_pos hall, wtE_at hr hall2 hc67]), hS.below⟩
         ·have hc67 := of_decide_eq_false hc; clear hc
          refine skipF ?_
          refine XF.blkN ?_
          refine XF.thenN ?_
          refine regF ?_
          refine op_move rfl rfl ?_
          refine op_add rfl rfl (IntWalk.i64_in _ (by omega)) rfl ?_
          refine op_assign rfl rfl ?_
          refine endF ?_
          exact XF.round (rl - (i + 1)) [(1, _), (5, _)] (by omega) ⟨rfl, rfl, trivial⟩ ⟨i + 1, by omega, rfl, rfl, all_take_at hr hall2 (by simpa using hc67), hS.clear⟩
        ·have hc54 := of_decide_eq_false hc; clear hc
         refine exitF ?_
         refine XF.thenX ?_
         refine XF.thenX ?_
         refine XF.blkX ?_
         refine XF.thenN ?_
         refine seqF (regF ?_)
         refine op_assign rfl rfl ?_
         refine endF (XF.thenN ?_)
         refine retF ?_
         refine XF.res (res1 Try.results39 rfl) ?_
         rw [List.take_of_length_le (by omega)] at hall2
         exact ⟨rint (by simp only [pdsE]; rw [if_neg h0, if_neg h1, if_neg h2, if_pos hall, wtE_all hall2]), hS.below⟩
theorem pdsA_is (ds d : Nat) (p : PV) (w : World) (h : PvIn w ds d p) : Calls Try.prog 36 #[p.val] w (fun e w' => e = .returned (.int .i64 (pdsE p)) ∧ Below w.heap.size w w') := pdsA_c ds d _ _ _ _ _ _ _ w h.s h.row h.len h.rin
theorem pdsR_is (ds d : Nat) (p : PV) (w : World) (h : PvIn w ds d p) : Calls Try.prog 39 #[p.val] w (fun e w' => e = .returned (.int .i64 (pdsE p)) ∧ Below w.heap.size w w') := pdsR_c ds d _ _ _ _ _ _ _ w h.s h.row h.len h.rin
end Go.Proofs.Ytnhnedifekejpaa
namespace Go.Proofs.Ytnhnedifekejpaa
open Go Go.RowKit
abbrev ringV (sf : SF) (f0 : WF) : Value := .agg #[.int .i64 sf.tag, .int .i64 sf.dim, .slice sf.a sf.len sf.cap, .bool f0.z, .int .i64 f0.c, .int .u64 (f0.g : Int), .slice f0.ra f0.rl f0.rc, .slice f0.ca f0.cl f0.cc, .slice f0.pa f0.pl f0.pc]
theorem ringOf_is (S : PS) (sf : SF) (w : World) (hs : SIs w S sf) (hok : S.ok) :
  Calls Try.prog 41 #[sf.val] w (fun e w' => ∃ f0 : WF, e = .returned (ringV sf f0) ∧ XNew w.heap.size w' S f0 (zeroX S) ∧ Below w.heap.size w w') := by
 refine enterF (args := [sf.val]) Try.func41 rfl Try.ntmps41 rfl ?_
 have hS := St.start w
 refine seqF (regF ?_)
 refine op_box (cs := [_, _, _]) hS rfl rfl rfl ?_
 clear hS; intro B1 W1 hS
 refine op_alloc (cs := [_, _, _, _, _, _, _, _, _]) hS Try.zeroValue98 rfl rfl ?_
 clear hS; intro B2 W2 hS
 refine endF (XF.thenN ?_)
 refine seqF (regF ?_)
 refine op_loadA (vs := [_, _, _]) Try.isAgg25 Try.sizeOf25 rfl (CellsAt.own (j := 0) (m := 3) (hS.at_ 1 rfl) rfl) rfl ?_
 have hsz := hS.below.size
 refine op_call (vs := [_]) hS goes_72 rfl (ZeroW_ok S sf _ (hs.below hS.below) hok) rfl ?_
 rintro e W3 ⟨f0, rfl, hn, hb⟩
 refine ⟨_, rfl, hb, fun hS' => ?_⟩
 clear hS; have hS := hS'; clear hS'
 refine op_move rfl rfl ?_
 refine op_extract rfl rfl rfl ?_
 refine op_extract rfl rfl rfl ?_
 refine op_alloc (cs := [_, _, _, _, _, _]) hS Try.zeroValue54 rfl rfl ?_
 clear hS; intro B4 W4 hS
 refine op_storeA (i := 0) (vs := [_, _, _, _, _, _]) (cs' := [_, _, _, _, _, _]) (O' := [_, _, _]) hS Try.sizeOf54 rfl rfl rfl rfl rfl rfl rfl ?_
 clear hS; intro W5 hS
 refine op_assign rfl rfl ?_
 refine endF (XF.thenN ?_)
 refine seqF (regF ?_)
 refine op_loadA (vs := [_, _, _]) Try.isAgg25 Try.sizeOf25 rfl (CellsAt.own (j := 0) (m := 3) (hS.at_ 2 rfl) rfl) rfl ?_
 refine op_loadA (vs := [_, _, _, _, _, _]) Try.isAgg54 Try.sizeOf54 rfl (CellsAt.own (j := 0) (m := 6) (hS.at_ 0 rfl) rfl) rfl ?_
 refine op_build (us := [(0, .agg (List.toArray [_, _, _])), (1, .agg (List.toArray [_, _, _, _, _, _]))]) rfl (bld_98_0_1 _ _ _ _ _ _ _ _ _) rfl ?_
 refine op_storeA (i := 1) (vs := [_, _, _, _, _, _, _, _, _]) (cs' := [_, _, _, _, _, _, _, _, _]) (O' := [_, _, _]) hS Try.sizeOf98 rfl rfl rfl rfl rfl rfl rfl ?_
 clear hS; intro W6 hS
 refine endF (XF.thenN ?_)
 refine retF ?_
 refine XF.res (resC1 (vs := [_, _, _, _, _, _, _, _, _]) Try.results41 Try.isAgg98 Try.sizeOf98 rfl (CellsAt.own (j := 0) (m := 9) (hS.at_ 1 rfl) rfl)) ?_
 exact ⟨f0, rfl, (hn.agree (hS.since 0 rfl)).mono hsz, hS.below⟩
theorem ringOne_is (S : PS) (sf : SF) (f0 : WF) (w : World) (hs : SIs w S sf) (hok : S.ok) :
  Calls Try.prog 76 #[ringV sf f0] w (WRet S (oneX S) w) := by
 refine enterF (args := [ringV sf f0]) Try.func76 rfl Try.ntmps76 rfl ?_
 have hS := St.start w
 refine seqF (regF ?_)
 refine op_box (cs := [_, _, _, _, _, _, _, _, _]) hS rfl rfl rfl ?_
 clear hS; intro B1 W1 hS
 refine op_alloc (cs := [_, _, _, _, _, _]) hS Try.zeroValue54 rfl rfl ?_
 clear hS; intro B2 W2 hS
 refine endF (XF.thenN ?_)
 refine seqF (regF ?_)
 refine op_field (o' := 0) fa_98_0 rfl rfl rfl ?_
 refine op_loadA (vs := [_, _, _]) Try.isAgg25 Try.sizeOf25 rfl (CellsAt.own (j := 0) (m := 3) (hS.at_ 1 rfl) rfl) rfl ?_
 have hsz := hS.below.size
 refine op_call (vs := [_]) hS goes_96 rfl (OneW_ok S sf _ (hs.below hS.below) hok) rfl ?_
 rintro e W3 ⟨f, rfl, hn, hb⟩
 refine ⟨_, rfl, hb, fun hS' => ?_⟩
 clear hS; have hS := hS'; clear hS'
 refine op_move rfl rfl ?_
 refine op_extract rfl rfl rfl ?_
 refine op_extract rfl rfl rfl ?_
 refine op_alloc (cs := [_, _, _, _, _, _]) hS Try.zeroValue54 rfl rfl ?_
 clear hS; intro B4 W4 hS
 refine op_storeA (i := 0) (vs := [_, _, _, _, _, _]) (cs' := [_, _, _, _, _, _]) (O' := [_, _, _]) hS Try.sizeOf54 rfl rfl rfl rfl rfl rfl rfl ?_
 clear hS; intro W5 hS
 refine op_assign rfl rfl ?_
 refine endF (XF.thenN ?_)
 refine seqF (regF ?_)
 refine op_loadA (vs := [_, _, _, _, _, _]) Try.isAgg54 Try.sizeOf54 rfl (CellsAt.own (j := 0) (m := 6) (hS.at_ 0 rfl) rfl) rfl ?_
 refine op_storeA (i := 1) (vs := [_, _, _, _, _, _]) (cs' := [_, _, _, _, _, _]) (O' := [_, _, _]) hS Try.sizeOf54 rfl rfl rfl rfl rfl rfl rfl ?_
 clear hS; intro W6 hS
 refine endF (XF.thenN ?_)
 refine retF ?_
 refine XF.res (resC1 (vs := [_, _, _, _, _, _]) Try.results76 Try.isAgg54 Try.sizeOf54 rfl (CellsAt.own (j := 0) (m := 6) (hS.at_ 1 rfl) rfl)) ?_
 exact ⟨f, rfl, (hn.agree (hS.since 0 rfl)).mono hsz, hS.below⟩
end Go.Proofs.Ytnhnedifekejpaa
namespace Go.Proofs.Ytnhnedifekejpaa
open Go Go.RowKit
def RowN (lo : Nat) (W : World) (a : Option Addr) (c : Nat) (xs : List Int) : Prop := W.ownsRow lo 3 1 (.slice a xs.length c) xs.length (xs.map (Value.int .i64))
theorem RowN.row {lo : Nat} {W : World} {a : Option Addr} {c : Nat} {xs : List Int} (h : RowN lo W a c xs) : Row W a xs := by
 rcases ownsRow_cells h with ⟨_, h2⟩ | ⟨b, h1, _, h3⟩
 ·exact .inl (List.eq_nil_of_length_eq_zero h2)
 ·refine .inr ⟨b, 0, h1, fun i hi => ?_⟩
  rw [Nat.zero_add]
  exact h3 i _ (by rw [List.getElem?_map, List.getElem?_eq_getElem hi]; simp [List.getD, List.getElem?_eq_getElem hi])
theorem RowN.mono {lo lo' : Nat} {W : World} {a : Option Addr} {c : Nat} {xs : List Int} (h : RowN lo W a c xs) (hl : lo' ≤ lo) : RowN lo' W a c xs := ownsRow_base h hl
theorem RowN.agree {lo : Nat} {A W : World} {a : Option Addr} {c : Nat} {xs : List Int} (h : RowN lo A a c xs) (hg : Agree lo A W) : RowN lo W a c xs := ownsRow_agree h hg
end Go.Proofs.Ytnhnedifekejpaa
namespace Go.Proofs.Ytnhnedifekejpaa
open Go Go.RowKit
theorem okW_plain {f : SF} {ps : List SV} {x : WV} (hp : plainB f.tag f.dim f.len = true) (ho : okW (.mk f ps) x = true) : pwOk f.tag f.dim x.f = true := by
 have h : (if plainB f.tag f.dim f.len = true then pwOk f.tag f.dim x.f else (match (generalizing := false) ps with | [p, q] => pairOk p q x.f x.ps | _ => false)) = true := ho
 rw [if_pos hp] at h
 exact h
theorem space_of {w : World} {d : Nat} {s : SV} (hs : SIn w d s) (hse : spaceE s = 0) : ∃ S : PS, S.ok ∧ SIs w S s.f ∧ ∀ (x : WV) (e : Nat), WIn w e x → okW s x = true → ∃ y, XIs w S x.f y := by
 match d, s, hs with
 | d + 1, .mk f ps, hs =>
  by_cases hp : plainB f.tag f.dim f.len = true
  ·obtain ⟨t, n, a, l, c⟩ := f
   dsimp only at hp
   obtain rfl : l = 0 := (plainB_tag hp).1
   refine ⟨.one t n, hp, ⟨a, c, rfl⟩, fun x e hx ho => ?_⟩
   match e, x, hx, ho with
   | e + 1, .mk g qs, hx, ho =>
    exact ⟨.one g.pf, PIs.of hp hx.1 (okW_plain (f := ⟨t, n, a, 0, c⟩) hp ho)⟩
  ·have hse' : (if plainB f.tag f.dim f.len = true then (0 : Int) else if f.tag = 5 ∧ f.dim = 0 ∧ ps.length = 2 ∧ ps.all SV.pl = true then 0 else 50) = 0 := hse
   rw [if_neg hp] at hse'
   split at hse'
   ·rename_i hq
    obtain ⟨h5, h0, h2, hall⟩ := hq
    obtain ⟨t, n, a, l, c⟩ := f
    dsimp only at h5 h0 hp
    subst h5; subst h0
    obtain ⟨p, q, rfl⟩ := two_of h2
    have hl : 2 = l := hs.1
    subst hl
    simp only [List.all_cons, List.all_nil, Bool.and_true, Bool.and_eq_true] at hall
    obtain ⟨_, b, off, ha, _, hp3, hq3, _, _⟩ := hs.two
    dsimp only at ha
    subst ha
    obtain ⟨⟨pt, pn, pa, pl, pc⟩, pps⟩ := p
    obtain ⟨⟨qt, qn, qa, ql, qc⟩, qps⟩ := q
    have e1 : plainB pt pn pl = true := hall.1
    have e2 : plainB qt qn ql = true := hall.2
    obtain rfl : pl = 0 := (plainB_tag e1).1
    obtain rfl : ql = 0 := (plainB_tag e2).1
    refine ⟨.two pt pn qt qn, ⟨e1, e2⟩, ⟨b, off, c, pa, pc, qa, qc, rfl, hp3, hq3⟩, fun x e hx ho => ?_⟩
    match e, x, hx, ho with
    | e + 1, .mk g qs, hx, ho =>
     have ho' : (if plainB 5 0 2 = true then pwOk 5 0 g else pairOk (.mk ⟨pt, pn, pa, 0, pc⟩ pps) (.mk ⟨qt, qn, qa, 0, qc⟩ qps) g qs) = true := ho
     rw [if_neg (show ¬ plainB 5 0 2 = true from hp)] at ho'
     unfold pairOk at ho'
     simp only [Bool.and_eq_true, Bool.not_eq_true', decide_eq_true_eq] at ho'
     obtain ⟨hbare, hz, h2q, o1, o2⟩ := ho'
     obtain ⟨x1, x2, rfl⟩ := two_of h2q
     obtain ⟨hpl, wb, wo, hpa, _, h6, h7, hx1, hx2⟩ := hx.two
     have hat := hx.1
     have hg : g.c = 0 ∧ g.g = 0 ∧ g.rl = 0 ∧ g.cl = 0 := by
      simp only [bareB, onlyB, hz, Bool.not_false, Bool.true_and, Bool.and_eq_true, Bool.or_eq_true, decide_eq_true_eq] at hbare
      obtain ⟨k1, k2, k3, _⟩ := hbare
      exact ⟨k1.resolve_left (by decide), (k2.resolve_left (by decide)).1, (k2.resolve_left (by decide)).2, k3.resolve_left (by decide)⟩
     have hr0 : g.rows = [] := List.eq_nil_of_length_eq_zero (by have := hat.rl; omega)
     have hc0 : g.cells = [] := List.eq_nil_of_length_eq_zero (by have := hat.cl; omega)
     refine ⟨.two x1.f.pf x2.f.pf, ?_, hg.2.2.1, hg.2.2.2, hpl, wb, wo, x1.f, x2.f, hpa, h6, h7, PIs.of e1 (WIn.at_ hx1) o1, PIs.of e2 (WIn.at_ hx2) o2⟩
     show (⟨g.z, g.c, g.g, g.rows, g.cells⟩ : PF) = pC 0
     unfold pC
     rw [hz, hg.1, hg.2.1, hr0, hc0]
   ·cases hse'
section
variable {n : Nat} {Q : Exit → Act → World → Prop} {l : Fr} {W : World} {ops : Array Oper} {L : List Asr} {i d : Nat} {ty : TypeId} {pos : String} {aft : Array Edge} {gd : Option (Nat × Bool)} {S : PS} {x y z : PX} {p q r : Operand}
end
section
variable {w : World} {S : PS} {sf : SF} {x y z : PX} {vs : List Value}
end
end Go.Proofs.Ytnhnedifekejpaa
namespace Go.Proofs.Ytnhnedifekejpaa
open Go Go.RowKit
abbrev StT := Int × List Int × PX
section
variable {S : PS} {px : RV → PX} {rs : List RV} {i : Int} {l : List Int} {k : Nat} {st st' : StT} {c : Int}
end
theorem clone_ints {w : World} {a : Option Addr} {l c : Nat} {ws : List Int} (h : Row w a ws) (hl : ws.length = l) (hm : l ≤ 8192) : Calls Try.prog 74 #[.slice a l c] w fun e w' => ∃ v, e = .returned v ∧ Below w.heap.size w w' ∧ w'.ownsRow w.heap.size 3 1 v l (ws.map (Value.int .i64)) := by
 cases a with
 | none =>
  have hw : ws = [] := by
   rcases h with h | ⟨b, off, h, _⟩
   ·exact h
   ·cases h
  subst hw; subst hl
  refine (Try.slices_Clone_int_nil _ c w).mono ?_
  rintro e w' ⟨rfl, rfl⟩
  exact ⟨_, rfl, Below.refl _ _, World.ownsRow_nil _ _ _ _⟩
 | some p =>
  rcases h with rfl | ⟨b, off, h, hc⟩
  ·subst hl
   refine (Try.slices_Clone_int_zero p c w).mono ?_
   rintro e w' ⟨v, rfl, h1, _, h2⟩
   exact ⟨_, rfl, h2, h1⟩
  ·cases h
   refine (Try.slices_Clone_int b off l c ws w (by omega) (by omega) hc).mono ?_
   rintro e w' ⟨v, rfl, h1, _, h2⟩
   rw [List.take_of_length_le (by omega)] at h1
   exact ⟨_, rfl, h2, h1⟩
end Go.Proofs.Ytnhnedifekejpaa
namespace Go.Proofs.Ytnhnedifekejpaa
open Go Go.RowKit
def isPairRow (lo : Nat) (S : PS) (x : PX) : Asr := fun v w => ∃ b, v = .slice (some ⟨b, 0, none⟩) 2 2 ∧ XNew lo w S (pairF b) x
theorem stab_isPairRow {lo : Nat} {S : PS} {x : PX} : Stab (isPairRow lo S x) := fun v w w' ⟨b, h1, h2⟩ hb => ⟨b, h1, h2.below hb⟩
section
variable {n : Nat} {Q : Exit → Act → World → Prop} {l : Fr} {W : World} {ops : Array Oper} {L : List Asr} {i d : Nat} {ty : TypeId} {pos : String} {aft : Array Edge} {gd : Option (Nat × Bool)} {t k u m : Int} {x y : PF} {p q : Operand}
theorem rg_pairRow (hi : ops[i]? = some ⟨some d, .buildSlice 52 2 (List.toArray [(0, p), (1, q)]), ty, pos, aft, gd⟩) (hw : Wants ops L i ⟨some d, .buildSlice 52 2 (List.toArray [(0, p), (1, q)]), ty, pos, aft, gd⟩) (hp : AllP n ops l L i [p, q] [isNew W.heap.size (.one t k) (.one x), isNew W.heap.size (.one u m) (.one y)]) (hI : atI L i = isPairRow W.heap.size (.two t k u m) (.two x y)) : RG Try.prog n ops Q l W L i :=
 rg_row [isNew W.heap.size (.one t k) (.one x), isNew W.heap.size (.one u m) (.one y)] hi hw Try.underlying52 Try.sizeOf54 Try.zeroValue54 rfl rfl hp fun vs w hb hh => by
  obtain ⟨v1, v2, rfl, ⟨f, rfl, hf⟩, g, rfl, hg⟩ := holds2 hh
  refine ⟨f.six ++ g.six, bs_52_2 _ _ _ _ _ _ _ _ _ _ _ _, fun B w' hB h1 h2 => ?_⟩
  rw [hI]
  rcases frow2 h1 with h | ⟨b, off, e, h3⟩
  ·cases h
  ·cases e
   exact ⟨B, rfl, pair_new (h3 0 f rfl) (h3 1 g rfl) (by rw [← hB]; exact hb.size) (PNew.below hf h2) (PNew.below hg h2)⟩
end
end Go.Proofs.Ytnhnedifekejpaa
namespace Go.Proofs.Ytnhnedifekejpaa
open Go Go.RowKit
theorem oneR_not4 (t n : Int) (sa : Option Addr) (sc : Nat) (w : World) (hp : plainB t n 0 = true) (ht4 : t ≠ 4) :
  Calls Try.prog 47 #[.agg #[.int .i64 t, .int .i64 n, .slice sa 0 sc]] w (WRet (.one t n) (.one (oneP t n)) w) := by
 refine enterF (args := [.agg #[.int .i64 t, .int .i64 n, .slice sa 0 sc]]) Try.func47 rfl Try.ntmps47 rfl ?_
 have hS := St.start w
 refine seqF (regF ?_)
 refine op_box (cs := [_, _, _]) hS rfl rfl rfl ?_
 clear hS; intro B1 W1 hS
 refine op_alloc (cs := [_, _, _, _, _, _]) hS Try.zeroValue54 rfl rfl ?_
 clear hS; intro B2 W2 hS
 refine endF (XF.thenN ?_)
 refine seqF (regF ?_)
 refine op_build (us := []) rfl (bld_54) rfl ?_
 refine op_alloc (cs := [_, _, _, _, _, _]) hS Try.zeroValue54 rfl rfl ?_
 clear hS; intro B3 W3 hS
 refine op_storeA (i := 0) (vs := [_, _, _, _, _, _]) (cs' := [_, _, _, _, _, _]) (O' := [_, _, _]) hS Try.sizeOf54 rfl rfl rfl rfl rfl rfl rfl ?_
 clear hS; intro W4 hS
 refine endF (XF.thenN ?_)
 refine seqF ?_
 refine seqF (regF ?_)
 refine op_field (o' := 0) fa_25_0 rfl rfl rfl ?_
 refine op_load Try.isAgg22 rfl (cell_own (hS.at_ 2 rfl) rfl) rfl ?_
 refine endF (XF.thenN ?_)
 refine blockF ?_
 refine seqF (regF ?_)
 refine op_eql rfl rfl rfl ?_
 refine op_assign rfl rfl ?_
 refine endF (XF.thenN ?_)
 refine condF rfl (fun hc => ?_) (fun hc => ?_)
 ·have hc8 := of_decide_eq_true hc; clear hc
  have e3 : t = 3 := hc8
  subst e3
  obtain ⟨m, rfl, hm⟩ := dim3 hp (.inl rfl)
  refine regF ?_
  refine op_field (o' := 1) fa_25_1 rfl rfl rfl ?_
  refine op_load Try.isAgg3 rfl (cell_own (hS.at_ 2 rfl) rfl) rfl ?_
  have hsz := hS.below.size
  refine op_call (vs := [_]) hS goes_77 rfl ((oneR_is m _ _ (one_good hm).1 _ (one_good hm).2).mono fun _ _ h => FOwn.ret h) rfl ?_
  rintro e W5 ⟨a1, c1, rfl, hv, hl, hb⟩
  refine ⟨_, rfl, hb, fun hS' => ?_⟩
  clear hS; have hS := hS'; clear hS'
  refine op_move rfl rfl ?_
  refine op_extract rfl rfl rfl ?_
  refine op_extract rfl rfl rfl ?_
  refine op_field (o' := 2) fa_54_2 rfl rfl rfl ?_
  refine op_storeA (i := 0) (vs := [_, _]) (cs' := [_, _, _, _, _, _]) (O' := [_, _, _]) hS Try.sizeOf50 rfl rfl rfl rfl rfl rfl rfl ?_
  clear hS; intro W6 hS
  refine endF ?_
  refine XF.blkN ?_
  refine XF.thenN ?_
  refine seqF (regF ?_)
  refine op_loadA (vs := [_, _, _, _, _, _]) Try.isAgg54 Try.sizeOf54 rfl (CellsAt.own (j := 0) (m := 6) (hS.at_ 0 rfl) rfl) rfl ?_
  refine op_storeA (i := 1) (vs := [_, _, _, _, _, _]) (cs' := [_, _, _, _, _, _]) (O' := [_, _, _]) hS Try.sizeOf54 rfl rfl rfl rfl rfl rfl rfl ?_
  clear hS; intro W7 hS
  refine endF (XF.thenN ?_)
  refine retF ?_
  refine XF.res (resC1 (vs := [_, _, _, _, _, _]) Try.results47 Try.isAgg54 Try.sizeOf54 rfl (CellsAt.own (j := 0) (m := 6) (hS.at_ 1 rfl) rfl)) ?_
  exact wret_one (one_f3 hm (hv.agree (fun ad e => (hl ad e).1) (hS.since 0 rfl)) (fun ad e => Nat.le_trans hsz (hl ad e).1)) hS.below
 ·have hc8 := of_decide_eq_false hc; clear hc
  refine seqF (regF ?_)
  refine op_eql rfl rfl rfl ?_
  refine op_assign rfl rfl ?_
  refine endF (XF.thenN ?_)
  refine condF rfl (fun hc => absurd (of_decide_eq_true hc) (by exact ht4)) (fun hc => ?_)
  have hc := of_decide_eq_false hc
  refine seqF (regF ?_)
  refine op_eql rfl rfl rfl ?_
  refine op_assign rfl rfl ?_
  refine endF (XF.thenN ?_)
  refine condF rfl (fun hc => absurd (of_decide_eq_true hc) (by exact plain_ne5 hp)) (fun hc => ?_)
  have hc := of_decide_eq_false hc
  refine skipF ?_
  refine XF.blkN ?_
  refine XF.thenN ?_
  refine seqF (regF ?_)
  refine op_loadA (vs := [_, _, _, _, _, _]) Try.isAgg54 Try.sizeOf54 rfl (CellsAt.own (j := 0) (m := 6) (hS.at_ 0 rfl) rfl) rfl ?_
  refine op_storeA (i := 1) (vs := [_, _, _, _, _, _]) (cs' := [_, _, _, _, _, _]) (O' := [_, _, _]) hS Try.sizeOf54 rfl rfl rfl rfl rfl rfl rfl ?_
  clear hS; intro W8 hS
  refine endF (XF.thenN ?_)
  refine retF ?_
  refine XF.res (resC1 (vs := [_, _, _, _, _, _]) Try.results47 Try.isAgg54 Try.sizeOf54 rfl (CellsAt.own (j := 0) (m := 6) (hS.at_ 1 rfl) rfl)) ?_
  exact wret_one (one_f1 hp hc8 ht4) hS.below
theorem oneR_pair (t n u m : Int) (a1 a2 : Option Addr) (c1 c2 b off sc : Nat) (w : World) (hs1 : S3 w b off ⟨t, n, a1, 0, c1⟩) (hs2 : S3 w b (off + 3) ⟨u, m, a2, 0, c2⟩) (hp1 : plainB t n 0 = true) (hp2 : plainB u m 0 = true) (ih10 : ∀ W : World, Calls Try.prog 47 #[.agg #[.int .i64 t, .int .i64 n, .slice a1 0 c1]] W (WRet (.one t n) (.one (oneP t n)) W)) (ih20 : ∀ W : World, Calls Try.prog 47 #[.agg #[.int .i64 u, .int .i64 m, .slice a2 0 c2]] W (WRet (.one u m) (.one (oneP u m)) W)) :
  Calls Try.prog 47 #[.agg #[.int .i64 5, .int .i64 0, .slice (some ⟨b, off, none⟩) 2 sc]] w (WRet (.two t n u m) (.two (oneP t n) (oneP u m)) w) := by
 refine enterF (args := [.agg #[.int .i64 5, .int .i64 0, .slice (some ⟨b, off, none⟩) 2 sc]]) Try.func47 rfl Try.ntmps47 rfl ?_
 have hS := St.start w
 refine seqF (regF ?_)
 refine op_box (cs := [_, _, _]) hS rfl rfl rfl ?_
 clear hS; intro B1 W1 hS
 refine op_alloc (cs := [_, _, _, _, _, _]) hS Try.zeroValue54 rfl rfl ?_
 clear hS; intro B2 W2 hS
 refine endF (XF.thenN ?_)
 refine seqF (regF ?_)
 refine op_build (us := []) rfl (bld_54) rfl ?_
 refine op_alloc (cs := [_, _, _, _, _, _]) hS Try.zeroValue54 rfl rfl ?_
 clear hS; intro B3 W3 hS
 refine op_storeA (i := 0) (vs := [_, _, _, _, _, _]) (cs' := [_, _, _, _, _, _]) (O' := [_, _, _]) hS Try.sizeOf54 rfl rfl rfl rfl rfl rfl rfl ?_
 clear hS; intro W4 hS
 refine endF (XF.thenN ?_)
 refine seqF ?_
 refine seqF (regF ?_)
 refine op_field (o' := 0) fa_25_0 rfl rfl rfl ?_
 refine op_load Try.isAgg22 rfl (cell_own (hS.at_ 2 rfl) rfl) rfl ?_
 refine endF (XF.thenN ?_)
 refine blockF ?_
 refine seqF (regF ?_)
 refine op_eql rfl rfl rfl ?_
 refine op_assign rfl rfl ?_
 refine endF (XF.thenN ?_)
 refine condF rfl (fun hc => absurd (of_decide_eq_true hc) (by omega)) (fun hc => ?_)
 have hc := of_decide_eq_false hc
 refine seqF (regF ?_)
 refine op_eql rfl rfl rfl ?_
 refine op_assign rfl rfl ?_
 refine endF (XF.thenN ?_)
 refine condF rfl (fun hc => absurd (of_decide_eq_true hc) (by omega)) (fun hc => ?_)
 have hc := of_decide_eq_false hc
 refine seqF (regF ?_)
 refine op_eql rfl rfl rfl ?_
 refine op_assign rfl rfl ?_
 refine endF (XF.thenN ?_)
 refine condF rfl (fun hc => ?_) (fun hc => absurd (of_decide_eq_false hc) (by omega))
 have hc := of_decide_eq_true hc
 have hsz := hS.below.size
 have k1 := CellsAt.agree hS.agree (Nat.zero_le _) hs1.cells
 have k2 := CellsAt.agree hS.agree (Nat.zero_le _) hs2.cells
 have ih1 := fun (W2 : World) (_ : Below W4.heap.size W4 W2) => ih10 W2
 have ih2 := fun (W2 : World) (_ : Below W4.heap.size W4 W2) => ih20 W2
 refine regBK followsM 12 hS rfl rfl (by kernel_rfl) (by kernel_rfl) (by kernel_rfl) (fun d hd => by cases hd) ?_
 refine bl_cons 1 rfl (isV _) (stab_isV _) (rgV (li := [(1, _)]) rfl (w_free rfl) ⟨g_fr (by kernel_rfl) rfl, trivial⟩ (fun w hw => rn_field (o' := 2) fa_25_2 rfl rfl) (at_top rfl)) ?_
 refine bl_cons 2 rfl (isV _) (stab_isV _) (rgV (li := [(35, _)]) rfl (w_free rfl) ⟨g_dep 0 (by kernel_rfl) (at_dep rfl rfl rfl), trivial⟩ (fun w hw => rn_load Try.isAgg23 rfl ((below_agree hw 0).cell (Nat.zero_le _) (cell_own (hS.at_ 2 rfl) rfl))) (at_top rfl)) ?_
 refine bl_cons 3 rfl (isV _) (stab_isV _) (rgV (li := [(36, _)]) rfl (w_free rfl) ⟨g_dep 1 (by kernel_rfl) (at_dep rfl rfl rfl), trivial⟩ (fun w hw => rn_indexA (j := 0) Try.underlying23 Try.sizeOf25 rfl rfl rfl (by omega) (Nat.add_zero _)) (at_top rfl)) ?_
 refine bl_cons 4 rfl (isV _) (stab_isV _) (rgV (li := [(37, _)]) rfl (w_free rfl) ⟨g_dep 2 (by kernel_rfl) (at_dep rfl rfl rfl), trivial⟩ (fun w hw => rn_loadA (vs := [_, _, _]) Try.isAgg25 Try.sizeOf25 rfl (CellsAt.agree (below_agree hw 0) (Nat.zero_le _) (by assumption))) (at_top rfl)) ?_
 refine bl_cons 5 rfl (isNew W4.heap.size (.one t n) (.one (oneP t n))) (stab_isNew) (rg_call [isV _] rfl goes_47 (w_free rfl) ⟨p_tmp (g_dep 3 (by kernel_rfl) (at_dep rfl rfl rfl)), trivial⟩ (fun vs w' hb hh => by have e := holds_isV (us := [_]) hh; subst e; exact wret_gives hb.size (ih1 _ hb)) (at_top rfl)) ?_
 refine bl_cons 6 rfl (isV _) (stab_isV _) (rgV (li := [(1, _)]) rfl (w_free rfl) ⟨g_fr (by kernel_rfl) rfl, trivial⟩ (fun w hw => rn_field (o' := 2) fa_25_2 rfl rfl) (at_top rfl)) ?_
 refine bl_cons 7 rfl (isV _) (stab_isV _) (rgV (li := [(40, _)]) rfl (w_free rfl) ⟨g_dep 5 (by kernel_rfl) (at_dep rfl rfl rfl), trivial⟩ (fun w hw => rn_load Try.isAgg23 rfl ((below_agree hw 0).cell (Nat.zero_le _) (cell_own (hS.at_ 2 rfl) rfl))) (at_top rfl)) ?_
 refine bl_cons 8 rfl (isV _) (stab_isV _) (rgV (li := [(41, _)]) rfl (w_free rfl) ⟨g_dep 6 (by kernel_rfl) (at_dep rfl rfl rfl), trivial⟩ (fun w hw => rn_indexA (j := 1) Try.underlying23 Try.sizeOf25 rfl rfl rfl (by omega) rfl) (at_top rfl)) ?_
 refine bl_cons 9 rfl (isV _) (stab_isV _) (rgV (li := [(42, _)]) rfl (w_free rfl) ⟨g_dep 7 (by kernel_rfl) (at_dep rfl rfl rfl), trivial⟩ (fun w hw => rn_loadA (vs := [_, _, _]) Try.isAgg25 Try.sizeOf25 rfl (CellsAt.agree (below_agree hw 0) (Nat.zero_le _) (by assumption))) (at_top rfl)) ?_
 refine bl_cons 10 rfl (isNew W4.heap.size (.one u m) (.one (oneP u m))) (stab_isNew) (rg_call [isV _] rfl goes_47 (w_free rfl) ⟨p_tmp (g_dep 8 (by kernel_rfl) (at_dep rfl rfl rfl)), trivial⟩ (fun vs w' hb hh => by have e := holds_isV (us := [_]) hh; subst e; exact wret_gives hb.size (ih2 _ hb)) (at_top rfl)) ?_
 refine bl_cons 11 rfl (isPairRow W4.heap.size (.two t n u m) (.two (oneP t n) (oneP u m))) (stab_isPairRow) (rg_pairRow rfl (w_free rfl) ⟨p_tmp (g_dep 4 (by kernel_rfl) (at_dep rfl rfl rfl)), p_tmp (g_dep 9 (by kernel_rfl) (at_dep rfl rfl rfl)), trivial⟩ (at_top rfl)) ?_
 refine bl_cons 12 rfl (isV _) (stab_isV _) (rgV (li := [(3, _)]) rfl (w_free rfl) ⟨g_fr (by kernel_rfl) rfl, trivial⟩ (fun w hw => rn_field (o' := 5) fa_54_4 rfl rfl) (at_top rfl)) ?_
 refine bl_nil ?_
 intro W5 hbR hS'
 clear hS; have hS := hS'; clear hS'
 refine fin_v ?_
 refine fin_v ?_
 refine fin_v ?_
 refine fin_v ?_
 refine fin_p ?_; rintro _ ⟨v1, rfl, hn1⟩
 refine fin_v ?_
 refine fin_v ?_
 refine fin_v ?_
 refine fin_v ?_
 refine fin_p ?_; rintro _ ⟨v2, rfl, hn2⟩
 refine fin_p ?_; rintro _ ⟨b9, rfl, hn9⟩
 refine fin_v ?_
 refine fin_nil ?_
 refine op_store (i := 0) (cs' := [_, _, _, _, _, _]) (O' := [_, _, _]) hS Try.sizeOf52 rfl rfl rfl rfl rfl rfl rfl ?_
 clear hS; intro W6 hS
 refine endF ?_
 refine XF.blkN ?_
 refine XF.thenN ?_
 refine seqF (regF ?_)
 refine op_loadA (vs := [_, _, _, _, _, _]) Try.isAgg54 Try.sizeOf54 rfl (CellsAt.own (j := 0) (m := 6) (hS.at_ 0 rfl) rfl) rfl ?_
 refine op_storeA (i := 1) (vs := [_, _, _, _, _, _]) (cs' := [_, _, _, _, _, _]) (O' := [_, _, _]) hS Try.sizeOf54 rfl rfl rfl rfl rfl rfl rfl ?_
 clear hS; intro W7 hS
 refine endF (XF.thenN ?_)
 refine retF ?_
 refine XF.res (resC1 (vs := [_, _, _, _, _, _]) Try.results47 Try.isAgg54 Try.sizeOf54 rfl (CellsAt.own (j := 0) (m := 6) (hS.at_ 1 rfl) rfl)) ?_
 exact ⟨pairF b9, rfl, (hn9.agree (hS.since 0 rfl)).mono hsz, hS.below⟩
end Go.Proofs.Ytnhnedifekejpaa
namespace Go.Proofs.Ytnhnedifekejpaa
open Go Go.RowKit
theorem oneR_4 (m : Nat) (sa : Option Addr) (sc : Nat) (w : World) (hm : m ≤ 64) :
  Calls Try.prog 47 #[.agg #[.int .i64 4, .int .i64 (m : Int), .slice sa 0 sc]] w (WRet (.one 4 m) (.one (oneP 4 m)) w) := by
 refine enterF (args := [.agg #[.int .i64 4, .int .i64 (m : Int), .slice sa 0 sc]]) Try.func47 rfl Try.ntmps47 rfl ?_
 have hS := St.start w
 refine seqF (regF ?_)
 refine op_box (cs := [_, _, _]) hS rfl rfl rfl ?_
 clear hS; intro B1 W1 hS
 refine op_alloc (cs := [_, _, _, _, _, _]) hS Try.zeroValue54 rfl rfl ?_
 clear hS; intro B2 W2 hS
 refine endF (XF.thenN ?_)
 refine seqF (regF ?_)
 refine op_build (us := []) rfl (bld_54) rfl ?_
 refine op_alloc (cs := [_, _, _, _, _, _]) hS Try.zeroValue54 rfl rfl ?_
 clear hS; intro B3 W3 hS
 refine op_storeA (i := 0) (vs := [_, _, _, _, _, _]) (cs' := [_, _, _, _, _, _]) (O' := [_, _, _]) hS Try.sizeOf54 rfl rfl rfl rfl rfl rfl rfl ?_
 clear hS; intro W4 hS
 refine endF (XF.thenN ?_)
 refine seqF ?_
 refine seqF (regF ?_)
 refine op_field (o' := 0) fa_25_0 rfl rfl rfl ?_
 refine op_load Try.isAgg22 rfl (cell_own (hS.at_ 2 rfl) rfl) rfl ?_
 refine endF (XF.thenN ?_)
 refine blockF ?_
 refine seqF (regF ?_)
 refine op_eql rfl rfl rfl ?_
 refine op_assign rfl rfl ?_
 refine endF (XF.thenN ?_)
 refine condF rfl (fun hc => absurd (of_decide_eq_true hc) (by omega)) (fun hc => ?_)
 have hc := of_decide_eq_false hc
 refine seqF (regF ?_)
 refine op_eql rfl rfl rfl ?_
 refine op_assign rfl rfl ?_
 refine endF (XF.thenN ?_)
 refine condF rfl (fun hc => ?_) (fun hc => absurd (of_decide_eq_false hc) (by omega))
 have hc := of_decide_eq_true hc
 refine seqF (regF ?_)
 refine op_assign rfl rfl ?_
 refine endF (XF.thenN ?_)
 refine blockF ?_
 refine loopF (fun q l W => ∃ (k : Nat) (v : Value), k ≤ m ∧ q = m - k ∧ l = [(1, .pointer (some ⟨B1, 0, none⟩)), (2, .pointer (some ⟨B2, 0, none⟩)), (3, .pointer (some ⟨B3, 0, none⟩)), (4, .int .i64 (k : Int))] ∧ St w [(B3, [.bool false, .int .i64 0, .int .u64 0, .slice none 0 0, v, .slice none 0 0], 54), (B2, [.bool false, .int .i64 0, .int .u64 0, .slice none 0 0, .slice none 0 0, .slice none 0 0], 54), (B1, [.int .i64 4, .int .i64 (m : Int), .slice sa 0 sc], 25)] [⟨v, k, flat ((unitC m).take k), 112, 3⟩] [] W) (m - 0) ([(1, _), (2, _), (3, _), (4, _)]) ⟨rfl, rfl, rfl, rfl, trivial⟩ (⟨0, .slice none 0 0, Nat.zero_le _, rfl, rfl, hS.clear.newG _ _⟩) ?_
 clear hS
 rintro q l W ⟨k, v, hkm, rfl, rfl, hS⟩
 refine seqF ?_
 refine seqF (regF ?_)
 refine op_move rfl rfl ?_
 refine op_field (o' := 1) fa_25_1 rfl rfl rfl ?_
 refine op_load Try.isAgg3 rfl (cell_own (hS.at_ 2 rfl) rfl) rfl ?_
 refine op_lss rfl rfl rfl ?_
 refine endF (XF.thenN ?_)
 refine condF rfl (fun hc => ?_) (fun hc => ?_)
 ·have hc22 := of_decide_eq_true hc; clear hc
  have hk : k < m := by omega
  refine skipF ?_
  refine XF.thenN ?_
  refine seqF ?_
  refine blockF ?_
  refine regBP (p := 6) (k := 8) (gi := 0) (m := 1) followsM hS rfl rfl (by kernel_rfl) (by kernel_rfl) (by kernel_rfl) (fun d hd => by cases hd) rfl rfl Try.underlying51 inf_112 rfl rfl (by show 0 < 3; decide) rfl rfl rfl (by dsimp only; simp only [maxLen]; omega) (by dsimp only; show _ * 24 ≤ _; omega) ?_
  refine blp_v 1 rfl rfl (by kernel_rfl) (rgV (li := [(3, _)]) rfl (w_free rfl) ⟨g_fr (by kernel_rfl) rfl, trivial⟩ (fun w hw => rn_field (o' := 4) fa_54_3 rfl rfl) (at_top rfl)) ?_
  refine blp_v 2 rfl rfl (by kernel_rfl) (rgV (li := [(25, _)]) rfl (w_free rfl) ⟨g_dep 0 (by kernel_rfl) (at_dep rfl rfl rfl), trivial⟩ (fun w hw => rn_load Try.isAgg51 rfl ((below_agree hw 0).cell (Nat.zero_le _) (cell_own (hS.at_ 0 rfl) rfl))) (at_top rfl)) ?_
  refine blp_v 3 rfl rfl (by kernel_rfl) (rgV (li := [(4, _)]) rfl (w_free rfl) ⟨g_fr (by kernel_rfl) rfl, trivial⟩ (fun w hw => rn_move rfl) (at_top rfl)) ?_
  refine blp_v 4 rfl rfl (by kernel_rfl) (rg_call [isV _] rfl goes_78 (w_free rfl) ⟨p_tmp (g_dep 2 (by kernel_rfl) (at_dep rfl rfl rfl)), trivial⟩ (fun vs w' hb hh => by have e := holds_isV (us := [_]) hh; subst e; exact (worth_at (k : Int) k (2 ^ k) (by omega) rfl (by omega) _).mono fun e w2 h => ⟨_, h.1, rfl, h.2 ▸ Below.refl _ _⟩) (at_top rfl)) ?_
  refine blp_v 5 rfl rfl (by kernel_rfl) (rgV (li := [(28, _)]) rfl (w_free rfl) ⟨g_dep 3 (by kernel_rfl) (at_dep rfl rfl rfl), trivial⟩ (fun w hw => rn_build (us := [(0, .int .u64 _)]) rfl (bld_112_0 _)) (at_top rfl)) ?_
  refine blp_q 6 rfl rfl (by kernel_rfl) (isRow W.heap.size 1 112 _) (stab_isRow) (rg_rowV (us := [.agg (List.toArray [_, _, _])]) rfl (w_free rfl) Try.underlying51 Try.sizeOf112 Try.zeroValue112 rfl rfl ⟨p_tmp (g_dep 4 (by kernel_rfl) (at_dep rfl rfl rfl)), trivial⟩ (bs_51_1 _ _ _) (at_top rfl)) ?_
  refine blp_app 7 rfl rfl ?_
  refine blp_late 8 rfl rfl (rgV (li := [(3, _)]) rfl (w_free rfl) ⟨g_fr (by kernel_rfl) rfl, trivial⟩ (fun w hw => rn_field (o' := 4) fa_54_3 rfl rfl) (at_top rfl)) (lgV (li := [(3, _)]) rfl (w_free rfl) ⟨g_fr (by kernel_rfl) rfl, trivial⟩ (fun w => rn_field (o' := 4) fa_54_3 rfl rfl) (at_top rfl) rfl) ?_
  refine blp_nil ⟨_, _, g_dep 1 (by kernel_rfl) (at_dep rfl rfl rfl), g_dep 5 (by kernel_rfl) (at_dep rfl rfl rfl), rowOf_isRow rfl rfl, ?_⟩
  intro A5 v5 news5 W5 hbR hqA5 hS'
  clear hS; have hS := hS'; clear hS'
  cases hqA5
  refine fin_v ?_
  refine fin_v ?_
  refine fin_v ?_
  refine fin_v ?_
  refine fin_v ?_
  refine fin_p ?_; intro _ _
  refine fin_v ?_
  refine fin_v ?_
  obtain ⟨g9, c9, e9, _, _⟩ := (hS.row 0 rfl).form (by show 0 < k + 1; omega)
  dsimp only at e9
  subst e9
  refine fin_nil ?_
  refine op_store (i := 0) (cs' := [_, _, _, _, _, _]) (O' := [_, _, _]) hS Try.sizeOf51 rfl rfl rfl rfl rfl rfl rfl ?_
  clear hS; intro W6 hS
  refine endF ?_
  refine XF.blkN ?_
  refine XF.thenN ?_
  refine regF ?_
  refine op_move rfl rfl ?_
  refine op_add rfl rfl (IntWalk.i64_in _ (by omega)) rfl ?_
  refine op_assign rfl rfl ?_
  refine endF ?_
  exact XF.round (m - (k + 1)) [(1, _), (2, _), (3, _), (4, _)] (by omega) ⟨rfl, rfl, rfl, rfl, trivial⟩ ⟨k + 1, _, by omega, rfl, rfl, by rw [unit_snoc hk, flat_snoc]; exact hS.clear⟩
 ·have hc22 := of_decide_eq_false hc; clear hc
  refine exitF ?_
  refine XF.thenX ?_
  refine XF.thenX ?_
  refine XF.blkX ?_
  refine XF.blkN ?_
  refine XF.thenN ?_
  refine seqF ?_
  obtain rfl : k = m := by omega
  have hrow := hS.row 0 rfl
  have ht : (unitC k).take k = unitC k := List.take_of_length_le (by rw [unit_length]; exact Nat.le_refl _)
  simp only [ht] at hrow
  obtain ⟨hn, a9, c9, rfl, _, _⟩ := crow_of_own hrow
  clear hrow
  refine regF ?_
  refine op_loadA (vs := [_, _, _, _, _, _]) Try.isAgg54 Try.sizeOf54 rfl (CellsAt.own (j := 0) (m := 6) (hS.at_ 0 rfl) rfl) rfl ?_
  refine op_storeA (i := 1) (vs := [_, _, _, _, _, _]) (cs' := [_, _, _, _, _, _]) (O' := [_, _, _]) hS Try.sizeOf54 rfl rfl rfl rfl rfl rfl rfl ?_
  clear hS; intro W7 hS
  refine endF (XF.thenN ?_)
  refine retF ?_
  refine XF.res (resC1 (vs := [_, _, _, _, _, _]) Try.results47 Try.isAgg54 Try.sizeOf54 rfl (CellsAt.own (j := 0) (m := 6) (hS.at_ 1 rfl) rfl)) ?_
  have hrow := hS.row 0 rfl
  simp only [ht] at hrow
  obtain ⟨_, a8, c8, e8, hr9, hf9⟩ := crow_of_own hrow
  cases e8
  have e9 : (unitC k).length = k := unit_length k
  refine ⟨cellsF a9 c9 (unitC k), ?_, one_f4 hm hr9 (fun ad e => (hf9 ad e).1), hS.below⟩
  show _ = Ending.returned (Value.agg #[.bool false, .int .i64 0, .int .u64 ((0 : Nat) : Int), .slice none 0 0, .slice a9 (unitC k).length c9, .slice none 0 0])
  rw [e9]
  rfl
theorem oneR_plain (t n : Int) (sa : Option Addr) (sc : Nat) (w : World) (hp : plainB t n 0 = true) : Calls Try.prog 47 #[.agg #[.int .i64 t, .int .i64 n, .slice sa 0 sc]] w (WRet (.one t n) (.one (oneP t n)) w) := by
 by_cases h4 : t = 4
 ·subst h4
  obtain ⟨m, rfl, hm⟩ := dim3 hp (.inr rfl)
  exact oneR_4 m sa sc w hm
 ·exact oneR_not4 t n sa sc w hp h4
theorem oneR_ok {S : PS} {sf : SF} {w : World} (hs : SIs w S sf) (hok : S.ok) : Calls Try.prog 47 #[sf.val] w (WRet S (oneX S) w) := by
 cases S with
 | one t n =>
  obtain ⟨a, c, rfl⟩ := hs
  exact oneR_plain _ _ _ _ _ hok
 | two t n u m =>
  obtain ⟨b, off, c, a1, c1, a2, c2, rfl, h1, h2⟩ := hs
  exact oneR_pair _ _ _ _ _ _ _ _ _ _ _ _ h1 h2 hok.1 hok.2 (fun W => oneR_plain _ _ _ _ _ hok.1) (fun W => oneR_plain _ _ _ _ _ hok.2)
theorem OneR_ok (S : PS) (sf : SF) (w : World) (hs : SIs w S sf) (hok : S.ok) :
  Calls Try.prog 17 #[sf.val] w (WRet2 S (oneX S) 0 w) := by
 refine enterF (args := [sf.val]) Try.func17 rfl Try.ntmps17 rfl ?_
 have hS := St.start w
 refine seqF (regF ?_)
 refine op_box (cs := [_, _, _]) hS rfl rfl rfl ?_
 clear hS; intro B1 W1 hS
 refine op_alloc (cs := [_, _, _, _, _, _]) hS Try.zeroValue54 rfl rfl ?_
 clear hS; intro B2 W2 hS
 refine op_assign rfl rfl ?_
 refine endF (XF.thenN ?_)
 refine seqF ?_
 refine seqF (regF ?_)
 refine op_loadA (vs := [_, _, _]) Try.isAgg25 Try.sizeOf25 rfl (CellsAt.own (j := 0) (m := 3) (hS.at_ 1 rfl) rfl) rfl ?_
 refine op_call (vs := [_]) hS goes_46 rfl (spaceR_ok (hs.below hS.below) hok) rfl ?_
 rintro e W3 ⟨rfl, hb⟩
 refine ⟨_, rfl, hb, fun hS' => ?_⟩
 clear hS; have hS := hS'; clear hS' hb
 refine op_neq rfl rfl rfl ?_
 refine endF (XF.thenN ?_)
 refine condF rfl (fun hc => absurd (of_decide_eq_true hc) (by omega)) (fun hc => ?_)
 have hc := of_decide_eq_false hc
 refine skipF ?_
 refine XF.thenN ?_
 refine seqF (regF ?_)
 refine op_loadA (vs := [_, _, _]) Try.isAgg25 Try.sizeOf25 rfl (CellsAt.own (j := 0) (m := 3) (hS.at_ 1 rfl) rfl) rfl ?_
 have hsz := hS.below.size
 refine op_call (vs := [_]) hS goes_47 rfl (oneR_ok (hs.below hS.below) hok) rfl ?_
 rintro e W4 ⟨f, rfl, hn, hb⟩
 refine ⟨_, rfl, hb, fun hS' => ?_⟩
 clear hS; have hS := hS'; clear hS'
 refine op_storeA (i := 0) (vs := [_, _, _, _, _, _]) (cs' := [_, _, _, _, _, _]) (O' := [_, _]) hS Try.sizeOf54 rfl rfl rfl rfl rfl rfl rfl ?_
 clear hS; intro W5 hS
 refine op_assign rfl rfl ?_
 refine endF (XF.thenN ?_)
 refine retF ?_
 refine XF.res (resCT (vs := [_, _, _, _, _, _]) Try.results17 Try.isAgg54 Try.sizeOf54 rfl (CellsAt.own (j := 0) (m := 6) (hS.at_ 0 rfl) rfl) rfl) ?_
 exact ⟨f, rfl, (hn.agree (hS.since 0 rfl)).mono hsz, hS.below⟩
end Go.Proofs.Ytnhnedifekejpaa
namespace Go.Proofs.Ytnhnedifekejpaa
open Go Go.RowKit
section
variable {P : Program} {n : Nat} {ops : Array Oper} {Q : Exit → Act → World → Prop} {l : Fr} {w0 W : World} {O : Own} {G : Grows} {K : List (Nat × World)} {os : List Oper} {d : Nat} {ty : TypeId} {pos : String} {aft : Array Edge}
theorem rn_sliceTo {T e : TypeId} {x y : Operand} {kk : IntKind} {a : Option Addr} {m c k s : Nat} {j : Int} (hU : P.underlying T = some (.slice e)) (hs : ∀ w, (sizeOf e).run P w = .ok s w) (hx : evL l x = some (.slice a m c)) (hy : evL l y = some (.int kk j)) (hj : j = (k : Int)) (hk : k ≤ c) (h0 : c ≠ 0) (ha : ∀ p, a = some p → ∃ b o, p = ⟨b, o, none⟩) :
  Runs P l ⟨some d, .slice T x none (some y) none, ty, pos, aft, none⟩ W (.slice a k c) W := fun ev he => by
 subst hj
 have h1 : (0 : Int) ≤ (k : Int) := by omega
 have h2 : (k : Int) ≤ (c : Int) := by omega
 have hm : a.map (·.add 0) = a := by
  cases a with
  | none => rfl
  | some p => obtain ⟨b, o, rfl⟩ := ha p rfl; rfl
 unfold execOp; simp only [Option.map_some, Option.map_none]; rw [he x _ hx, he y _ hy]
 simp [Instr.sliceAt, Instr.slice, Instr.sliceBounds, Instr.sliceBound, run_underlying hU, asIntOf, hk, hs, h0]
 exact hm
theorem op_sliceTo {T e : TypeId} {x y : Operand} {kk : IntKind} {a : Option Addr} {m c k s : Nat} {j : Int} (hU : P.underlying T = some (.slice e)) (hs : ∀ w, (sizeOf e).run P w = .ok s w) (hx : evL l x = some (.slice a m c)) (hy : evL l y = some (.int kk j)) (hj : j = (k : Int)) (hk : k ≤ c) (h0 : c ≠ 0) (ha : ∀ p, a = some p → ∃ b o, p = ⟨b, o, none⟩) (hd : Nat.blt d n = true)
  (h : OpsF P n ops Q os ((d, .slice a k c) :: l) W) : OpsF P n ops Q (⟨some d, .slice T x none (some y) none, ty, pos, aft, none⟩ :: os) l W := opV (rn_sliceTo hU hs hx hy hj hk h0 ha) hd h
end
end Go.Proofs.Ytnhnedifekejpaa
namespace Go.Proofs.Ytnhnedifekejpaa
open Go Go.RowKit
structure PdsOk (w : World) (S : PS) (px : RV → PX) (p : PV) : Prop where
 chk : pdsE p = 0
 ok : S.ok
 si : SIs w S p.s.f
 x : ∀ r ∈ p.rs, XIs w S r.x.f (px r)
 rl : p.rl ≤ 16384
 w4 : ∀ r ∈ p.rs, r.wl ≤ 4096
 st : 0 ≤ p.st ∧ p.st ≤ 4096
 sy : 0 ≤ p.sy ∧ p.sy ≤ 4096
 rule : ∀ r ∈ p.rs, ruleB p.st p.sy r = true
theorem pdsOk_of {w : World} {ds d : Nat} {p : PV} (hp : PvIn w ds d p) (h : pdsE p = 0) : ∃ S px, PdsOk w S px p := by
 have h2 : spaceE p.s = 0 ∧ p.rl ≤ 16384 ∧ (0 ≤ p.st ∧ p.st ≤ 4096) ∧ (0 ≤ p.sy ∧ p.sy ≤ 4096) ∧ p.rs.all (ruleB p.st p.sy) = true ∧ wtE p.s p.rs = 0 := by
  have hd := h
  unfold pdsE at hd
  split at hd
  ·rename_i hn; exact absurd hd hn
  ·rename_i hn
   split at hd
   ·cases hd
   ·rename_i hr
    split at hd
    ·cases hd
    ·rename_i ho
     split at hd
     ·rename_i ha; exact ⟨Decidable.of_not_not hn, by omega, by omega, by omega, ha, hd⟩
     ·cases hd
 obtain ⟨hs, hrl, hst, hsy, hr, hw⟩ := h2
 obtain ⟨S, hok, hsi, hx⟩ := space_of hp.s hs
 have hall : ∀ r ∈ p.rs, chkW p.s r.x = 0 := by
  have key : ∀ rs : List RV, wtE p.s rs = 0 → ∀ r ∈ rs, chkW p.s r.x = 0 := by
   intro rs
   induction rs with
   | nil => intro _ r hr; cases hr
   | cons a rs ih =>
    intro hz r hr
    unfold wtE at hz
    split at hz
    ·rename_i h0
     rcases List.mem_cons.1 hr with rfl | hr
     ·exact h0
     ·exact ih hz r hr
    ·rename_i h0; exact absurd hz h0
  exact key _ hw
 have hex : ∀ r, ∃ x, r ∈ p.rs → XIs w S r.x.f x := fun r => by
  by_cases hm : r ∈ p.rs
  ·have h0 := hall r hm
   have hokw : okW p.s r.x = true := by
    unfold chkW at h0
    rw [if_pos hs] at h0
    split at h0
    ·assumption
    ·cases h0
   obtain ⟨x, hxx⟩ := hx r.x d (hp.rin r hm).x hokw
   exact ⟨x, fun _ => hxx⟩
  ·exact ⟨zeroX S, fun h => absurd h hm⟩
 refine ⟨S, fun r => Classical.choose (hex r), h, hok, hsi, fun r hm => Classical.choose_spec (hex r) hm, hrl, fun r hm => ?_, hst, hsy, fun r hm => List.all_eq_true.1 hr r hm⟩
 have := List.all_eq_true.1 hr r hm
 unfold ruleB at this
 simp only [Bool.and_eq_true, decide_eq_true_eq] at this
 exact this.2.2.2.1
abbrev shC (sf : SF) (f0 : WF) (s2 : SF) (zt yt : Int) (v1 v2 v3 : Value) : List Value := [.int .i64 sf.tag, .int .i64 sf.dim, .slice sf.a sf.len sf.cap, .bool f0.z, .int .i64 f0.c, .int .u64 (f0.g : Int), .slice f0.ra f0.rl f0.rc, .slice f0.ca f0.cl f0.cc, .slice f0.pa f0.pl f0.pc, .int .i64 s2.tag, .int .i64 s2.dim, .slice s2.a s2.len s2.cap, .int .i64 zt, .int .i64 yt, v1, v2, v3]
abbrev PR := Int × Bool × Int × Int × Int × List Int × PX
structure R9 where
 num : Int
 first : Bool
 p : Int
 g : Int
 q : Int
 wa : Option Addr
 wc : Nat
 ws : List Int
 f : WF
 x : PX
abbrev R9.pl (r : R9) : PR := (r.num, r.first, r.p, r.g, r.q, r.ws, r.x)
abbrev ten9 (r : R9) : List Value := [.int .i64 r.p, .int .i64 r.g, .int .i64 r.q, .slice r.wa r.ws.length r.wc, .bool r.f.z, .int .i64 r.f.c, .int .u64 (r.f.g : Int), .slice r.f.ra r.f.rl r.f.rc, .slice r.f.ca r.f.cl r.f.cc, .slice r.f.pa r.f.pl r.f.pc]
structure RHeld (lo : Nat) (S : PS) (W : World) (r : R9) : Prop where
 w : RowN lo W r.wa r.wc r.ws
 x : XNew lo W S r.f r.x
theorem RHeld.agree {lo : Nat} {S : PS} {A W : World} {r : R9} (h : RHeld lo S A r) (hg : Agree lo A W) : RHeld lo S W r := ⟨h.w.agree hg, h.x.agree hg⟩
theorem RHeld.mono {lo lo' : Nat} {S : PS} {W : World} {r : R9} (h : RHeld lo S W r) (hl : lo' ≤ lo) : RHeld lo' S W r := ⟨h.w.mono hl, h.x.mono hl⟩
def partsF (one : PX) (num : Int) (p g q : Int) (ws : List Int) (x : PX) (z y : Int) : List PR :=
 if ws.length ≤ 2 then [(num, true, p, g, q, ws, x)]
 else (num, true, p, g, z, [y, ws.getD (ws.length - 1) 0], x) :: (List.range (ws.length - 3)).map (fun i : Nat => (num, false, z + (i : Int), y + (i : Int), z + (i : Int) + 1, [y + (i : Int) + 1, ws.getD (ws.length - 2 - i) 0], one)) ++ [(num, false, z + ((ws.length - 3 : Nat) : Int), y + ((ws.length - 3 : Nat) : Int), q, [ws.getD 0 0, ws.getD 1 0], one)]
def moreF (rs : List RV) : Nat := (rs.map (fun r => r.wl - 2)).sum
def shortF (one : PX) (px : RV → PX) : List RV → Nat → Int → Int → List PR
 | [], _, _, _ => []
 | r :: rs, i, z, y => partsF one (i : Int) r.p r.g r.q r.ws (px r) z y ++ shortF one px rs (i + 1) (z + ((r.wl - 2 : Nat) : Int)) (y + ((r.wl - 2 : Nat) : Int))
theorem partsF_len {one : PX} {num p g q : Int} {ws : List Int} {x : PX} {z y : Int} : (partsF one num p g q ws x z y).length = ws.length - 2 + 1 := by
 unfold partsF
 split
 ·simp; omega
 ·simp; omega
theorem moreF_cons (r : RV) (rs : List RV) : moreF (r :: rs) = (r.wl - 2) + moreF rs := by unfold moreF; simp
theorem moreF_le : ∀ {rs : List RV} {m : Nat}, (∀ r ∈ rs, r.wl ≤ m) → moreF rs ≤ rs.length * m
 | [], m, _ => by simp [moreF]
 | r :: rs, m, h => by
  rw [moreF_cons, List.length_cons, Nat.succ_mul]
  have h1 := h r List.mem_cons_self
  have h2 := moreF_le (rs := rs) (m := m) fun x hx => h x (List.mem_cons_of_mem _ hx)
  omega
theorem moreF_take {rs : List RV} {i : Nat} {r : RV} (h : rs[i]? = some r) : moreF (rs.take (i + 1)) = moreF (rs.take i) + (r.wl - 2) := by
 unfold moreF
 rw [List.take_add_one, h, List.map_append, List.sum_append]
 simp
theorem moreF_take_le {rs : List RV} {i : Nat} : moreF (rs.take i) ≤ moreF rs := by
 unfold moreF
 have h := congrArg (fun z => (z.map (fun r : RV => r.wl - 2)).sum) (List.take_append_drop i rs)
 simp only [List.map_append, List.sum_append] at h
 omega
theorem shortF_app {one : PX} {px : RV → PX} (r : RV) : ∀ (rs : List RV) (i : Nat) (z y : Int), shortF one px (rs ++ [r]) i z y = shortF one px rs i z y ++ partsF one ((i + rs.length : Nat) : Int) r.p r.g r.q r.ws (px r) (z + (moreF rs : Int)) (y + (moreF rs : Int))
 | [], i, z, y => by simp [shortF, moreF]
 | x :: rs, i, z, y => by
  simp only [List.cons_append, shortF, shortF_app r rs, List.append_assoc, List.length_cons]
  rw [moreF_cons, show i + 1 + rs.length = i + (rs.length + 1) by omega]
  congr 2
  rw [show z + ((x.wl - 2 : Nat) : Int) + (moreF rs : Int) = z + (((x.wl - 2) + moreF rs : Nat) : Int) by omega, show y + ((x.wl - 2 : Nat) : Int) + (moreF rs : Int) = y + (((x.wl - 2) + moreF rs : Nat) : Int) by omega]
theorem shortF_take {one : PX} {px : RV → PX} {rs : List RV} {i : Nat} {r : RV} {z y : Int} (h : rs[i]? = some r) : shortF one px (rs.take (i + 1)) 0 z y = shortF one px (rs.take i) 0 z y ++ partsF one (i : Int) r.p r.g r.q r.ws (px r) (z + (moreF (rs.take i) : Int)) (y + (moreF (rs.take i) : Int)) := by
 have hi := (List.getElem?_eq_some_iff.1 h).1
 rw [List.take_add_one, h]
 show shortF one px (rs.take i ++ [r]) 0 z y = _
 rw [shortF_app, List.length_take, Nat.min_eq_left (by omega), Nat.zero_add]
def isRuleN (lo : Nat) (S : PS) (p g q : Int) (ws : List Int) (x : PX) : Asr := fun v w => ∃ (a : Option Addr) (c : Nat) (f : WF), v = .agg (([.int .i64 p, .int .i64 g, .int .i64 q, .slice a ws.length c] ++ f.six : List Value)).toArray ∧ RowN lo w a c ws ∧ XNew lo w S f x
theorem bldR9 (p g q : Int) (a : Option Addr) (l c : Nat) (f : WF) : Try.prog.built 56 [(0, .int .i64 p), (1, .int .i64 g), (2, .int .i64 q), (3, .slice a l c), (4, f.val)] = some #[.int .i64 p, .int .i64 g, .int .i64 q, .slice a l c, .bool f.z, .int .i64 f.c, .int .u64 (f.g : Int), .slice f.ra f.rl f.rc, .slice f.ca f.cl f.cc, .slice f.pa f.pl f.pc] := by kernel_rfl
def isClN9 (lo : Nat) (ws : List Int) : Asr := fun v w => ∃ a c, v = .slice a ws.length c ∧ RowN lo w a c ws
theorem cl_gN9 {P : Program} {f : FuncId} {vs : Array Value} {w : World} {lo l : Nat} {ws : List Int} (hlo : lo ≤ w.heap.size) (hl : ws.length = l) (h : Calls P f vs w fun e w' => ∃ v, e = .returned v ∧ Below w.heap.size w w' ∧ w'.ownsRow w.heap.size 3 1 v l (ws.map (Value.int .i64))) : Calls P f vs w (GivesN (isClN9 lo ws) w) := by
 subst hl
 refine h.mono fun e w2 ⟨v, he, hb, hr⟩ => ⟨v, he, fun w3 hg => ?_, hb⟩
 obtain ⟨a, c, rfl, _⟩ := ownsRow_sl hr
 exact ⟨a, c, rfl, (RowN.agree (show RowN _ _ _ _ _ from hr) hg).mono hlo⟩
theorem row_cl9 {lo : Nat} {x y : Int} {v : Value} {w : World} (h : isRow lo 2 3 [.int .i64 x, .int .i64 y] v w) : isClN9 lo [x, y] v w := by
 obtain ⟨B, rfl, hlo, hB⟩ := h
 exact ⟨_, _, rfl, rfl, .inr ⟨B, 2, _, rfl, hlo, hB, Nat.le_refl _, by simp only [maxLen]; omega, rfl, rfl⟩⟩
theorem wret_gN {P : Program} {f : FuncId} {vs : Array Value} {w : World} {lo : Nat} {S : PS} {x : PX} (hlo : lo ≤ w.heap.size) (h : Calls P f vs w (WRet S x w)) : Calls P f vs w (GivesN (isNew lo S x) w) :=
 h.mono fun e w2 ⟨g, he, hn, hb⟩ => ⟨_, he, fun w3 hg => ⟨g, rfl, (hn.agree hg).mono hlo⟩, hb⟩
theorem six_inj {f g : WF} (h : f.val = g.val) : f.six = g.six := by
 have h1 : (Value.agg f.six.toArray) = .agg g.six.toArray := h
 injection h1 with h1
 exact congrArg Array.toList h1
theorem bld_rule9 {d j1 j2 j3 j4 j5 t1 t2 t3 t4 t5 lo : Nat} {ty : TypeId} {pos : String} {S : PS} {p g q : Int} {ws : List Int} {x : PX} {pW : Asr} (hW : ∀ v w, pW v w → isClN9 lo ws v w) : ∀ (ev : Operand → Value) (w : World), DepsH [(j1, t1, isV (.int .i64 p)), (j2, t2, isV (.int .i64 g)), (j3, t3, isV (.int .i64 q)), (j4, t4, pW), (j5, t5, isNew lo S x)] ev w →
  ∃ v, (execOp ev ⟨some d, .build 56 #[(0, .tmp t1), (1, .tmp t2), (2, .tmp t3), (3, .tmp t4), (4, .tmp t5)], ty, pos, #[], none⟩).run Try.prog w = .ok (.value v) w ∧ ∀ w2, DepsH [(j1, t1, isV (.int .i64 p)), (j2, t2, isV (.int .i64 g)), (j3, t3, isV (.int .i64 q)), (j4, t4, pW), (j5, t5, isNew lo S x)] ev w2 → isRuleN lo S p g q ws x v w2 := fun ev w ⟨h1, h2, h3, h4, ⟨f, h5, h6⟩, _⟩ => by
 have e1 : ev (.tmp t1) = _ := h1
 have e2 : ev (.tmp t2) = _ := h2
 have e3 : ev (.tmp t3) = _ := h3
 have e5 : ev (.tmp t5) = _ := h5
 obtain ⟨a, c, e4, h7⟩ := hW _ _ h4
 refine ⟨.agg (([.int .i64 p, .int .i64 g, .int .i64 q, .slice a ws.length c] ++ f.six : List Value)).toArray, ?_, fun w2 ⟨_, _, _, k4, ⟨f2, k5, k6⟩, _⟩ => ?_⟩
 ·have hr := run_build w 56 #[(0, .int .i64 p), (1, .int .i64 g), (2, .int .i64 q), (3, .slice a ws.length c), (4, f.val)] _ (P := Try.prog) (bldR9 p g q a ws.length c f)
  unfold execOp
  simp only [List.map_toArray, List.map_cons, List.map_nil, e1, e2, e3, e4, e5]
  simp [hr]
 ·obtain ⟨a2, c2, e6, k7⟩ := hW _ _ k4
  rw [e4] at e6
  injection e6 with e6 _ e7
  subst e6; subst e7
  have k5' : ev (.tmp t5) = _ := k5
  rw [e5] at k5'
  exact ⟨a, c, f2, by rw [six_inj k5'], k7, k6⟩
end Go.Proofs.Ytnhnedifekejpaa
namespace Go.Proofs.Ytnhnedifekejpaa
open Go Go.RowKit
theorem bs_23_1 (v00 : Value) (v01 : Value) (v02 : Value) : Instr.fill (fun i => some (i * 3, 3)) ((Array.range (1 * 3)).map ((Value.cells (.agg #[.int .i64 0, .int .i64 0, .slice none 0 0]))[· % (Value.cells (.agg #[.int .i64 0, .int .i64 0, .slice none 0 0])).size]!)) [(0, .agg #[v00, v01, v02])] = some (List.toArray [v00, v01, v02]) := by kernel_rfl
theorem goes_42 : goesIn Try.prog 42 = true := by kernel_rfl
theorem goes_95 : goesIn Try.prog 95 = true := by kernel_rfl
theorem inf_25 : Try.prog.info? 25 = some Try.t25 := by kernel_rfl
theorem w6_at9 {w : World} {B : Nat} {f : WF} {o : Nat} (h : CellsAt w B o f.six) : W6 w B o f := ⟨h.1, h.2.1, h.2.2.1, h.2.2.2.1, h.2.2.2.2.1, h.2.2.2.2.2.1⟩
abbrev bare3 (q : SF) : List Value := [.int .i64 q.tag, .int .i64 q.dim, .slice none 0 0]
theorem ringPlus_is (S : PS) (sf : SF) (f0 f : WF) (x : PX) (B : Nat) (w : World) (hs : SIs w S sf) (hok : S.ok) (hB : w.heap[B]? = some (.cells f.six.toArray 54 (0, 0))) (hx : XIs w S f x) (ht : Tabs w) :
  Calls Try.prog 95 #[ringV sf f0, .slice (some ⟨B, 0, none⟩) 1 1] w (WRet S x w) := by
 refine enterF (args := [ringV sf f0, .slice (some ⟨B, 0, none⟩) 1 1]) Try.func95 rfl Try.ntmps95 rfl ?_
 have hS := St.start w
 refine seqF (regF ?_)
 refine op_box (cs := [_, _, _, _, _, _, _, _, _]) hS rfl rfl rfl ?_
 clear hS; intro B1 W1 hS
 refine op_alloc (cs := [_, _, _, _, _, _]) hS Try.zeroValue54 rfl rfl ?_
 clear hS; intro B2 W2 hS
 refine endF (XF.thenN ?_)
 refine seqF (regF ?_)
 refine op_field (o' := 0) fa_98_0 rfl rfl rfl ?_
 refine op_loadA (vs := [_, _, _]) Try.isAgg25 Try.sizeOf25 rfl (CellsAt.own (j := 0) (m := 3) (hS.at_ 1 rfl) rfl) rfl ?_
 refine op_move rfl rfl ?_
 have hsz9 := hS.below.size
 have hB9 := (hS.below.block B (lt_of_heap hB)).trans hB
 refine op_call (vs := [_, _]) hS goes_110 rfl (CombineW_ok S sf _ (hs.below hS.below) hok (some ⟨B, 0, none⟩) 1 1 [f] [x] (.inr ⟨B, 0, rfl, fun i g hg => by
  cases i with
  | zero => cases hg; exact w6_at9 (CellsAt.own (j := 0) (m := 6) hB9 rfl)
  | succ i => simp at hg⟩) ⟨rfl, fun i g y hg hy => by
  cases i with
  | zero => cases hg; cases hy; exact hx.below hS.below
  | succ i => simp at hg⟩ rfl (by decide) (ht.below hS.below)) rfl ?_
 rintro e W3 ⟨f9, rfl, hn9, hb⟩
 refine ⟨_, rfl, hb, fun hS' => ?_⟩
 clear hS; have hS := hS'; clear hS'
 refine op_move rfl rfl ?_
 refine op_extract rfl rfl rfl ?_
 refine op_extract rfl rfl rfl ?_
 refine op_alloc (cs := [_, _, _, _, _, _]) hS Try.zeroValue54 rfl rfl ?_
 clear hS; intro B4 W4 hS
 refine op_storeA (i := 0) (vs := [_, _, _, _, _, _]) (cs' := [_, _, _, _, _, _]) (O' := [_, _, _]) hS Try.sizeOf54 rfl rfl rfl rfl rfl rfl rfl ?_
 clear hS; intro W5 hS
 refine op_assign rfl rfl ?_
 refine endF (XF.thenN ?_)
 refine seqF (regF ?_)
 refine op_loadA (vs := [_, _, _, _, _, _]) Try.isAgg54 Try.sizeOf54 rfl (CellsAt.own (j := 0) (m := 6) (hS.at_ 0 rfl) rfl) rfl ?_
 refine op_storeA (i := 1) (vs := [_, _, _, _, _, _]) (cs' := [_, _, _, _, _, _]) (O' := [_, _, _]) hS Try.sizeOf54 rfl rfl rfl rfl rfl rfl rfl ?_
 clear hS; intro W6 hS
 refine endF (XF.thenN ?_)
 refine retF ?_
 refine XF.res (resC1 (vs := [_, _, _, _, _, _]) Try.results95 Try.isAgg54 Try.sizeOf54 rfl (CellsAt.own (j := 0) (m := 6) (hS.at_ 1 rfl) rfl)) ?_
 have e9 : [x].foldl (combX S) (zeroX S) = x := combX_zero hx.ok
 rw [e9] at hn9
 exact ⟨f9, rfl, (hn9.agree (hS.since 0 rfl)).mono hsz9, hS.below⟩
theorem ringCopy_is (S : PS) (sf : SF) (f0 f : WF) (x : PX) (w : World) (hs : SIs w S sf) (hok : S.ok) (hx : XIs w S f x) (ht : Tabs w) :
  Calls Try.prog 75 #[ringV sf f0, f.val] w (WRet S x w) := by
 refine enterF (args := [ringV sf f0, f.val]) Try.func75 rfl Try.ntmps75 rfl ?_
 have hS := St.start w
 refine seqF (regF ?_)
 refine op_box (cs := [_, _, _, _, _, _, _, _, _]) hS rfl rfl rfl ?_
 clear hS; intro B1 W1 hS
 refine op_box (cs := [_, _, _, _, _, _]) hS rfl rfl rfl ?_
 clear hS; intro B2 W2 hS
 refine op_alloc (cs := [_, _, _, _, _, _]) hS Try.zeroValue54 rfl rfl ?_
 clear hS; intro B3 W3 hS
 refine endF (XF.thenN ?_)
 refine seqF (regF ?_)
 refine op_loadA (vs := [_, _, _, _, _, _, _, _, _]) Try.isAgg98 Try.sizeOf98 rfl (CellsAt.own (j := 0) (m := 9) (hS.at_ 2 rfl) rfl) rfl ?_
 refine op_loadA (vs := [_, _, _, _, _, _]) Try.isAgg54 Try.sizeOf54 rfl (CellsAt.own (j := 0) (m := 6) (hS.at_ 1 rfl) rfl) rfl ?_
 refine op_buildSlice (us := [(0, .agg (List.toArray [_, _, _, _, _, _]))]) hS Try.underlying52 Try.sizeOf54 Try.zeroValue54 rfl rfl rfl (bs_52_1 _ _ _ _ _ _) rfl ?_
 clear hS; intro B4 W4 hS
 have hsz9 := hS.below.size
 refine op_call (vs := [_, _]) hS goes_95 rfl (ringPlus_is S sf f0 f x B4 _ (hs.below hS.below) hok (hS.at_ 0 rfl) (hx.below hS.below) (ht.below hS.below)) rfl ?_
 rintro e W5 ⟨f9, rfl, hn9, hb⟩
 refine ⟨_, rfl, hb, fun hS' => ?_⟩
 clear hS; have hS := hS'; clear hS'
 refine op_storeA (i := 1) (vs := [_, _, _, _, _, _]) (cs' := [_, _, _, _, _, _]) (O' := [_, _, _, _]) hS Try.sizeOf54 rfl rfl rfl rfl rfl rfl rfl ?_
 clear hS; intro W6 hS
 refine endF (XF.thenN ?_)
 refine retF ?_
 refine XF.res (resC1 (vs := [_, _, _, _, _, _]) Try.results75 Try.isAgg54 Try.sizeOf54 rfl (CellsAt.own (j := 0) (m := 6) (hS.at_ 1 rfl) rfl)) ?_
 exact ⟨f9, rfl, (hn9.agree (hS.since 0 rfl)).mono hsz9, hS.below⟩
theorem copySpace1 (t n : Int) (a : Option Addr) (c : Nat) (w : World) :
  Calls Try.prog 42 #[.agg #[.int .i64 t, .int .i64 n, .slice a 0 c]] w (fun e w' => e = .returned (.agg #[.int .i64 t, .int .i64 n, .slice none 0 0]) ∧ Below w.heap.size w w') := by
 refine enterF (args := [.agg #[.int .i64 t, .int .i64 n, .slice a 0 c]]) Try.func42 rfl Try.ntmps42 rfl ?_
 have hS := St.start w
 refine seqF (regF ?_)
 refine op_box (cs := [_, _, _]) hS rfl rfl rfl ?_
 clear hS; intro B1 W1 hS
 refine op_alloc (cs := [_, _, _]) hS Try.zeroValue25 rfl rfl ?_
 clear hS; intro B2 W2 hS
 refine endF (XF.thenN ?_)
 refine seqF (regF ?_)
 refine op_assign rfl rfl ?_
 refine endF (XF.thenN ?_)
 refine seqF ?_
 refine seqF (regF ?_)
 refine op_field (o' := 2) fa_25_2 rfl rfl rfl ?_
 refine op_load Try.isAgg23 rfl (cell_own (hS.at_ 1 rfl) rfl) rfl ?_
 refine op_len Try.underlying23 rfl rfl ?_
 refine op_move rfl rfl ?_
 refine endF (XF.thenN ?_)
 refine blockF ?_
 refine loopF (fun m l W => l = [(1, .pointer (some ⟨B1, 0, none⟩)), (2, .pointer (some ⟨B2, 0, none⟩)), (3, .slice none 0 0), (8, .int .i64 0), (9, .int .i64 0)] ∧ St w [(B2, [.int .i64 0, .int .i64 0, .slice none 0 0], 25), (B1, [.int .i64 t, .int .i64 n, .slice a 0 c], 25)] [] [] W) (0) ([(1, _), (2, _), (3, _), (8, _), (9, _)]) ⟨rfl, rfl, rfl, rfl, rfl, trivial⟩ (⟨rfl, hS.clear⟩) ?_
 clear hS
 rintro m l W ⟨rfl, hS⟩
 refine seqF (regF ?_)
 refine op_lss rfl rfl rfl ?_
 refine endF (XF.thenN ?_)
 refine seqF ?_
 refine condF rfl (fun hc => absurd (of_decide_eq_true hc) (by decide)) (fun hc => ?_)
 have hc := of_decide_eq_false hc
 refine exitF ?_
 refine XF.thenX ?_
 refine XF.thenX ?_
 refine XF.blkX ?_
 refine XF.thenN ?_
 refine seqF (regF ?_)
 refine op_move rfl rfl ?_
 refine op_field (o' := 2) fa_25_2 rfl rfl rfl ?_
 refine op_store (i := 1) (cs' := [_, _, _]) (O' := [_, _]) hS Try.sizeOf23 rfl rfl rfl rfl rfl rfl rfl ?_
 clear hS; intro W3 hS
 refine endF (XF.thenN ?_)
 refine seqF (regF ?_)
 refine op_loadA (vs := [_, _, _]) Try.isAgg25 Try.sizeOf25 rfl (CellsAt.own (j := 0) (m := 3) (hS.at_ 1 rfl) rfl) rfl ?_
 refine op_storeA (i := 0) (vs := [_, _, _]) (cs' := [_, _, _]) (O' := [_, _]) hS Try.sizeOf25 rfl rfl rfl rfl rfl rfl rfl ?_
 clear hS; intro W4 hS
 refine endF (XF.thenN ?_)
 refine retF ?_
 refine XF.res (resC1 (vs := [_, _, _]) Try.results42 Try.isAgg25 Try.sizeOf25 rfl (CellsAt.own (j := 0) (m := 3) (hS.at_ 0 rfl) rfl)) ?_
 exact ⟨rfl, hS.below⟩
theorem copySpace2 (tag dim : Int) (sa : Option Addr) (slen scap : Nat) (fs : List SF) (w : World) (hrow : ∀ (i : Nat) q, fs[i]? = some q → ∃ b off, sa = some ⟨b, off, none⟩ ∧ S3 w b (off + i * 3) q) (hlen : fs.length = slen) (h0 : ∀ q ∈ fs, q.len = 0) (hm : slen ≤ 2) :
  Calls Try.prog 42 #[.agg #[.int .i64 tag, .int .i64 dim, .slice sa slen scap]] w (fun e w' => ∃ v, e = .returned (.agg #[.int .i64 tag, .int .i64 dim, v]) ∧ w'.ownsRow w.heap.size 25 3 v slen (fs.flatMap bare3) ∧ Below w.heap.size w w') := by
 refine enterF (args := [.agg #[.int .i64 tag, .int .i64 dim, .slice sa slen scap]]) Try.func42 rfl Try.ntmps42 rfl ?_
 have hS := St.start w
 refine seqF (regF ?_)
 refine op_box (cs := [_, _, _]) hS rfl rfl rfl ?_
 clear hS; intro B1 W1 hS
 refine op_alloc (cs := [_, _, _]) hS Try.zeroValue25 rfl rfl ?_
 clear hS; intro B2 W2 hS
 refine endF (XF.thenN ?_)
 refine seqF (regF ?_)
 refine op_assign rfl rfl ?_
 refine endF (XF.thenN ?_)
 refine seqF ?_
 refine seqF ?_
 have hS := hS.newG 25 3
 refine regF ?_
 refine op_field (o' := 2) fa_25_2 rfl rfl rfl ?_
 refine op_load Try.isAgg23 rfl (cell_own (hS.at_ 1 rfl) rfl) rfl ?_
 refine op_len Try.underlying23 rfl rfl ?_
 refine op_move rfl rfl ?_
 refine endF (XF.thenN ?_)
 refine blockF ?_
 refine loopF (fun m l W => ∃ (i : Nat) (v : Value), i ≤ slen ∧ m = slen - i ∧ l = [(1, .pointer (some ⟨B1, 0, none⟩)), (2, .pointer (some ⟨B2, 0, none⟩)), (3, v), (7, .slice sa slen scap), (8, .int .i64 (slen : Int)), (9, .int .i64 (i : Int))] ∧ St w [(B2, [.int .i64 0, .int .i64 0, .slice none 0 0], 25), (B1, [.int .i64 tag, .int .i64 dim, .slice sa slen scap], 25)] [⟨v, i, (fs.take i).flatMap bare3, 25, 3⟩] [] W) (slen - 0) ([(1, _), (2, _), (3, _), (7, _), (8, _), (9, _)]) ⟨rfl, rfl, rfl, rfl, rfl, rfl, trivial⟩ (⟨0, _, Nat.zero_le _, rfl, rfl, hS.clear⟩) ?_
 clear hS
 rintro m l W ⟨i, v, hi, rfl, rfl, hS⟩
 refine seqF (regF ?_)
 refine op_lss rfl rfl rfl ?_
 refine endF (XF.thenN ?_)
 refine seqF ?_
 refine condF rfl (fun hc => ?_) (fun hc => ?_)
 ·have hc10 := of_decide_eq_true hc; clear hc
  have hk : i < slen := by omega
  obtain ⟨q, hq⟩ : ∃ q, fs[i]? = some q := ⟨fs[i]'(by omega), by simp [show i < fs.length by omega]⟩
  obtain ⟨b, off, rfl, hs3⟩ := hrow i q hq
  obtain ⟨t9, d9, a9, l9, c9⟩ := q
  obtain rfl : l9 = 0 := h0 _ (List.mem_of_getElem? hq)
  have k1 : CellsAt W b (off + i * 3) [.int .i64 t9, .int .i64 d9, .slice a9 0 c9] := CellsAt.agree hS.agree (Nat.zero_le _) hs3.cells
  refine skipF ?_
  refine XF.thenN ?_
  refine seqF ?_
  refine blockF ?_
  refine seqF (regF ?_)
  refine op_indexA  Try.underlying23 Try.sizeOf25 rfl rfl rfl (by omega) rfl rfl ?_
  refine op_loadA (vs := [_, _, _]) Try.isAgg25 Try.sizeOf25 rfl (k1) rfl ?_
  refine op_alloc (cs := [_, _, _]) hS Try.zeroValue25 rfl rfl ?_
  clear hS; intro B3 W3 hS
  refine op_storeA (i := 0) (vs := [_, _, _]) (cs' := [_, _, _]) (O' := [_, _, _]) hS Try.sizeOf25 rfl rfl rfl rfl rfl rfl rfl ?_
  clear hS; intro W4 hS
  refine endF (XF.thenN ?_)
  refine regF ?_
  refine op_move rfl rfl ?_
  refine op_loadA (vs := [_, _, _]) Try.isAgg25 Try.sizeOf25 rfl (CellsAt.own (j := 0) (m := 3) (hS.at_ 0 rfl) rfl) rfl ?_
  refine op_call (vs := [_]) hS goes_42 rfl (copySpace1 t9 d9 a9 c9 _) rfl ?_
  rintro e W5 ⟨rfl, hb⟩
  refine ⟨_, rfl, hb, fun hS' => ?_⟩
  clear hS; have hS := hS'; clear hS' hb
  refine op_buildSlice (us := [(0, .agg (List.toArray [_, _, _]))]) hS Try.underlying23 Try.sizeOf25 Try.zeroValue25 rfl rfl rfl (bs_23_1 _ _ _) rfl ?_
  clear hS; intro B6 W6 hS
  refine op_append (i := 0) (news := [_, _, _]) hS Try.underlying23 inf_25 rfl rfl (by show 0 < 3; decide) rfl rfl rfl rfl rfl (CellsAt.own (j := 0) (m := 3) (hS.at_ 0 rfl) rfl) rfl rfl (by dsimp only; simp only [maxLen]; omega) (by dsimp only; show _ * 40 ≤ _; omega) rfl ?_
  clear hS; intro v7 W7 hS
  refine op_assign rfl rfl ?_
  refine endF ?_
  refine XF.blkN ?_
  refine XF.thenN ?_
  refine regF ?_
  refine op_add rfl rfl (IntWalk.i64_in _ (by omega)) rfl ?_
  refine op_move rfl rfl ?_
  refine endF ?_
  exact XF.round (slen - (i + 1)) [(1, _), (2, _), (3, _), (7, _), (8, _), (9, _)] (by omega) ⟨rfl, rfl, rfl, rfl, rfl, rfl, trivial⟩ ⟨i + 1, _, by omega, rfl, rfl, hS.tail.tail.clear.castG (by simp [List.take_add_one, hq, bare3])⟩
 ·have hc10 := of_decide_eq_false hc; clear hc
  have hil : i = slen := by omega
  rw [List.take_of_length_le (by omega), hil] at hS
  obtain ⟨a9, c9, rfl⟩ := hS.headSl
  refine exitF ?_
  refine XF.thenX ?_
  refine XF.thenX ?_
  refine XF.blkX ?_
  refine XF.thenN ?_
  refine seqF (regF ?_)
  refine op_move rfl rfl ?_
  refine op_field (o' := 2) fa_25_2 rfl rfl rfl ?_
  refine op_store (i := 1) (cs' := [_, _, _]) (O' := [_, _]) hS Try.sizeOf23 rfl rfl rfl rfl rfl rfl rfl ?_
  clear hS; intro W8 hS
  refine endF (XF.thenN ?_)
  refine seqF (regF ?_)
  refine op_loadA (vs := [_, _, _]) Try.isAgg25 Try.sizeOf25 rfl (CellsAt.own (j := 0) (m := 3) (hS.at_ 1 rfl) rfl) rfl ?_
  refine op_storeA (i := 0) (vs := [_, _, _]) (cs' := [_, _, _]) (O' := [_, _]) hS Try.sizeOf25 rfl rfl rfl rfl rfl rfl rfl ?_
  clear hS; intro W9 hS
  refine endF (XF.thenN ?_)
  refine retF ?_
  refine XF.res (resC1 (vs := [_, _, _]) Try.results42 Try.isAgg25 Try.sizeOf25 rfl (CellsAt.own (j := 0) (m := 3) (hS.at_ 0 rfl) rfl)) ?_
  exact ⟨_, rfl, hS.row 0 rfl, hS.below⟩
end Go.Proofs.Ytnhnedifekejpaa
