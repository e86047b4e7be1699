import Derived.Test.YtfkbkekgnoanaaaGreatDoorPV8
import Derived.Test.YtfkbkekgnoanaaaGreatDoorProg
import Derived.Test.YtfkbkekgnoanaaaGreatDoorRows
import Derived.Lib.ItoaLen
import Derived.Lib.UnsafeStr
import Derived.Lib.AppendIntMem
import Derived.Test.YtfkbkekgnoanaaaGreatDoorBaseA
import Derived.Test.YtfkbkekgnoanaaaGreatDoorBaseB
import Derived.Test.YtfkbkekgnoanaaaGreatDoorBaseC
import Derived.Test.YtfkbkekgnoanaaaGreatDoorBaseD
import Derived.Test.YtfkbkekgnoanaaaGreatDoorRunsA
set_option maxRecDepth 100000
set_option maxHeartbeats 4000000
set_option linter.unusedVariables false
set_option linter.unusedSimpArgs false
set_option linter.unusedSectionVars false
set_option linter.unnecessarySimpa false
namespace Go.Proofs.YtfkbkekgnoanaaaGreatDoor
open Go Go.RowKit
theorem extA_pair (t n u m : Int) (a1 a2 : Option Addr) (c1 c2 b off sc : Nat) (w : World) (hs1 : S3 w b off ⟨t, n, a1, 0, c1⟩) (hs2 : S3 w b (off + 3) ⟨u, m, a2, 0, c2⟩) (hp1 : plainB t n 0 = true) (hp2 : plainB u m 0 = true)(fra fca : Option Addr) (frc fcc fpc fb fo : Nat) (f1 f2 : WF) (x1 x2 : PF) (hf6 : W6 w fb fo f1) (hf7 : W6 w fb (fo + 6) f2) (hx1 : PIs w t n f1 x1) (hx2 : PIs w u m f2 x2)(gra gca : Option Addr) (grc gcc gpc gb go : Nat) (g1 g2 : WF) (y1 y2 : PF) (hg6 : W6 w gb go g1) (hg7 : W6 w gb (go + 6) g2) (hy1 : PIs w t n g1 y1) (hy2 : PIs w u m g2 y2)(ht : Tabs w) :
  Calls Tryz.prog 70 #[.agg #[.int .i64 5, .int .i64 0, .slice (some ⟨b, off, none⟩) 2 sc], .agg #[.bool false, .int .i64 0, .int .u64 0, .slice fra 0 frc, .slice fca 0 fcc, .slice (some ⟨fb, fo, none⟩) 2 fpc], .agg #[.bool false, .int .i64 0, .int .u64 0, .slice gra 0 grc, .slice gca 0 gcc, .slice (some ⟨gb, go, none⟩) 2 gpc]] w (WRet (.two t n u m) (.two (extP t n x1 y1) (extP u m x2 y2)) w) := by
 refine enterF (args := [.agg #[.int .i64 5, .int .i64 0, .slice (some ⟨b, off, none⟩) 2 sc], .agg #[.bool false, .int .i64 0, .int .u64 0, .slice fra 0 frc, .slice fca 0 fcc, .slice (some ⟨fb, fo, none⟩) 2 fpc], .agg #[.bool false, .int .i64 0, .int .u64 0, .slice gra 0 grc, .slice gca 0 gcc, .slice (some ⟨gb, go, none⟩) 2 gpc]]) Tryz.func70 rfl Tryz.ntmps70 rfl ?_
 have hS := St.start w
 refine seqF (regF ?_)
 refine op_box (cs := [_, _, _]) hS rfl rfl rfl ?_
 clear hS; intro B1 W1 hS
 refine op_box (cs := [_, _, _, _, _, _]) hS rfl rfl rfl ?_
 clear hS; intro B2 W2 hS
 refine op_box (cs := [_, _, _, _, _, _]) hS rfl rfl rfl ?_
 clear hS; intro B3 W3 hS
 refine op_alloc (cs := [_, _, _, _, _, _]) hS Tryz.zeroValue48 rfl rfl ?_
 clear hS; intro B4 W4 hS
 refine endF (XF.thenN ?_)
 refine seqF ?_
 refine seqF (regF ?_)
 refine op_field (o' := 0) fa_48_0 rfl rfl rfl ?_
 refine op_load Tryz.isAgg4 rfl (cell_own (hS.at_ 2 rfl) rfl) rfl ?_
 refine op_move rfl rfl ?_
 refine op_cases (d := 10) rfl (fun hc => absurd hc (by decide)) (fun hc => ?_)
 skip
 refine op_wantedF (d := 10) rfl rfl ?_
 refine op_field (o' := 0) fa_48_0 rfl rfl rfl ?_
 refine op_wantedF (d := 10) rfl rfl ?_
 refine op_load Tryz.isAgg4 rfl (cell_own (hS.at_ 1 rfl) rfl) rfl ?_
 refine op_pickF rfl rfl rfl ?_
 refine endF (XF.thenN ?_)
 refine condF rfl (fun hc => absurd hc (by decide)) (fun hc => ?_)
 skip
 refine skipF ?_
 refine XF.thenN ?_
 refine seqF (regF ?_)
 refine op_alloc (cs := [_, _, _, _, _, _]) hS Tryz.zeroValue48 rfl rfl ?_
 clear hS; intro B5 W5 hS
 refine endF (XF.thenN ?_)
 refine seqF ?_
 refine seqF (regF ?_)
 refine op_field (o' := 0) fa_25_0 rfl rfl rfl ?_
 refine op_load Tryz.isAgg22 rfl (cell_own (hS.at_ 4 rfl) rfl) rfl ?_
 refine endF (XF.thenN ?_)
 refine blockF ?_
 refine seqF (regF ?_)
 refine op_eql rfl rfl rfl ?_
 refine op_assign rfl rfl ?_
 refine endF (XF.thenN ?_)
 refine condF rfl (fun hc => absurd (of_decide_eq_true hc) (by omega)) (fun hc => ?_)
 have hc := of_decide_eq_false hc
 refine seqF (regF ?_)
 refine op_eql rfl rfl rfl ?_
 refine op_assign rfl rfl ?_
 refine endF (XF.thenN ?_)
 refine condF rfl (fun hc => absurd (of_decide_eq_true hc) (by omega)) (fun hc => ?_)
 have hc := of_decide_eq_false hc
 refine seqF (regF ?_)
 refine op_eql rfl rfl rfl ?_
 refine op_assign rfl rfl ?_
 refine endF (XF.thenN ?_)
 refine condF rfl (fun hc => absurd (of_decide_eq_true hc) (by omega)) (fun hc => ?_)
 have hc := of_decide_eq_false hc
 refine seqF (regF ?_)
 refine op_eql rfl rfl rfl ?_
 refine op_assign rfl rfl ?_
 refine endF (XF.thenN ?_)
 refine condF rfl (fun hc => ?_) (fun hc => absurd (of_decide_eq_false hc) (by omega))
 have hc := of_decide_eq_true hc
 have hsz := hS.below.size
 have k1 := CellsAt.agree hS.agree (Nat.zero_le _) hs1.cells
 have k2 := CellsAt.agree hS.agree (Nat.zero_le _) hs2.cells
 have kf1 := CellsAt.agree hS.agree (Nat.zero_le _) hf6.cells
 have kf2 := CellsAt.agree hS.agree (Nat.zero_le _) hf7.cells
 have kg1 := CellsAt.agree hS.agree (Nat.zero_le _) hg6.cells
 have kg2 := CellsAt.agree hS.agree (Nat.zero_le _) hg7.cells
 refine regBK followsM 27 hS rfl rfl (by kernel_rfl) (by kernel_rfl) (by kernel_rfl) (fun d hd => by cases hd) ?_
 refine bl_cons 1 rfl (isV _) (stab_isV _) (rgV (li := [(3, _)]) rfl (w_free rfl) ⟨g_fr (by kernel_rfl) rfl, trivial⟩ (fun w hw => rn_field (o' := 2) fa_25_2 rfl rfl) (at_top rfl)) ?_
 refine bl_cons 2 rfl (isV _) (stab_isV _) (rgV (li := [(59, _)]) rfl (w_free rfl) ⟨g_dep 0 (by kernel_rfl) (at_dep rfl rfl rfl), trivial⟩ (fun w hw => rn_load Tryz.isAgg23 rfl ((below_agree hw 0).cell (Nat.zero_le _) (cell_own (hS.at_ 4 rfl) rfl))) (at_top rfl)) ?_
 refine bl_cons 3 rfl (isV _) (stab_isV _) (rgV (li := [(60, _)]) rfl (w_free rfl) ⟨g_dep 1 (by kernel_rfl) (at_dep rfl rfl rfl), trivial⟩ (fun w hw => rn_indexA (j := 0) Tryz.underlying23 Tryz.sizeOf25 rfl rfl rfl (by omega) (Nat.add_zero _)) (at_top rfl)) ?_
 refine bl_cons 4 rfl (isV _) (stab_isV _) (rgV (li := [(61, _)]) rfl (w_free rfl) ⟨g_dep 2 (by kernel_rfl) (at_dep rfl rfl rfl), trivial⟩ (fun w hw => rn_loadA (vs := [_, _, _]) Tryz.isAgg25 Tryz.sizeOf25 rfl (CellsAt.agree (below_agree hw 0) (Nat.zero_le _) (by assumption))) (at_top rfl)) ?_
 refine bl_cons 5 rfl (isV _) (stab_isV _) (rgV (li := [(4, _)]) rfl (w_free rfl) ⟨g_fr (by kernel_rfl) rfl, trivial⟩ (fun w hw => rn_field (o' := 5) fa_48_4 rfl rfl) (at_top rfl)) ?_
 refine bl_cons 6 rfl (isV _) (stab_isV _) (rgV (li := [(63, _)]) rfl (w_free rfl) ⟨g_dep 4 (by kernel_rfl) (at_dep rfl rfl rfl), trivial⟩ (fun w hw => rn_load Tryz.isAgg46 rfl ((below_agree hw 0).cell (Nat.zero_le _) (cell_own (hS.at_ 3 rfl) rfl))) (at_top rfl)) ?_
 refine bl_cons 7 rfl (isV _) (stab_isV _) (rgV (li := [(64, _)]) rfl (w_free rfl) ⟨g_dep 5 (by kernel_rfl) (at_dep rfl rfl rfl), trivial⟩ (fun w hw => rn_indexA (j := 0) Tryz.underlying46 Tryz.sizeOf48 rfl rfl rfl (by omega) (Nat.add_zero _)) (at_top rfl)) ?_
 refine bl_cons 8 rfl (isV _) (stab_isV _) (rgV (li := [(65, _)]) rfl (w_free rfl) ⟨g_dep 6 (by kernel_rfl) (at_dep rfl rfl rfl), trivial⟩ (fun w hw => rn_loadA (vs := [_, _, _, _, _, _]) Tryz.isAgg48 Tryz.sizeOf48 rfl (CellsAt.agree (below_agree hw 0) (Nat.zero_le _) (by assumption))) (at_top rfl)) ?_
 refine bl_cons 9 rfl (isV _) (stab_isV _) (rgV (li := [(5, _)]) rfl (w_free rfl) ⟨g_fr (by kernel_rfl) rfl, trivial⟩ (fun w hw => rn_field (o' := 5) fa_48_4 rfl rfl) (at_top rfl)) ?_
 refine bl_cons 10 rfl (isV _) (stab_isV _) (rgV (li := [(67, _)]) rfl (w_free rfl) ⟨g_dep 8 (by kernel_rfl) (at_dep rfl rfl rfl), trivial⟩ (fun w hw => rn_load Tryz.isAgg46 rfl ((below_agree hw 0).cell (Nat.zero_le _) (cell_own (hS.at_ 2 rfl) rfl))) (at_top rfl)) ?_
 refine bl_cons 11 rfl (isV _) (stab_isV _) (rgV (li := [(68, _)]) rfl (w_free rfl) ⟨g_dep 9 (by kernel_rfl) (at_dep rfl rfl rfl), trivial⟩ (fun w hw => rn_indexA (j := 0) Tryz.underlying46 Tryz.sizeOf48 rfl rfl rfl (by omega) (Nat.add_zero _)) (at_top rfl)) ?_
 refine bl_cons 12 rfl (isV _) (stab_isV _) (rgV (li := [(69, _)]) rfl (w_free rfl) ⟨g_dep 10 (by kernel_rfl) (at_dep rfl rfl rfl), trivial⟩ (fun w hw => rn_loadA (vs := [_, _, _, _, _, _]) Tryz.isAgg48 Tryz.sizeOf48 rfl (CellsAt.agree (below_agree hw 0) (Nat.zero_le _) (by assumption))) (at_top rfl)) ?_
 refine bl_cons 13 rfl (isNew W5.heap.size (.one t n) (.one (extP t n x1 y1))) (stab_isNew) (rg_call [isV _, isV _, isV _] rfl goes_70 (w_free rfl) ⟨p_tmp (g_dep 3 (by kernel_rfl) (at_dep rfl rfl rfl)), p_tmp (g_dep 7 (by kernel_rfl) (at_dep rfl rfl rfl)), p_tmp (g_dep 11 (by kernel_rfl) (at_dep rfl rfl rfl)), trivial⟩ (fun vs w' hb hh => by have e := holds_isV (us := [_, _, _]) hh; subst e; exact wret_gives hb.size (extA_plain _ _ _ _ _ _ _ _ _ hp1 (hx1.below (hS.below.trans (hb.mono hS.below.size))) (hy1.below (hS.below.trans (hb.mono hS.below.size))) (ht.below (hS.below.trans (hb.mono hS.below.size))))) (at_top rfl)) ?_
 refine bl_cons 14 rfl (isV _) (stab_isV _) (rgV (li := [(3, _)]) rfl (w_free rfl) ⟨g_fr (by kernel_rfl) rfl, trivial⟩ (fun w hw => rn_field (o' := 2) fa_25_2 rfl rfl) (at_top rfl)) ?_
 refine bl_cons 15 rfl (isV _) (stab_isV _) (rgV (li := [(72, _)]) rfl (w_free rfl) ⟨g_dep 13 (by kernel_rfl) (at_dep rfl rfl rfl), trivial⟩ (fun w hw => rn_load Tryz.isAgg23 rfl ((below_agree hw 0).cell (Nat.zero_le _) (cell_own (hS.at_ 4 rfl) rfl))) (at_top rfl)) ?_
 refine bl_cons 16 rfl (isV _) (stab_isV _) (rgV (li := [(73, _)]) rfl (w_free rfl) ⟨g_dep 14 (by kernel_rfl) (at_dep rfl rfl rfl), trivial⟩ (fun w hw => rn_indexA (j := 1) Tryz.underlying23 Tryz.sizeOf25 rfl rfl rfl (by omega) rfl) (at_top rfl)) ?_
 refine bl_cons 17 rfl (isV _) (stab_isV _) (rgV (li := [(74, _)]) rfl (w_free rfl) ⟨g_dep 15 (by kernel_rfl) (at_dep rfl rfl rfl), trivial⟩ (fun w hw => rn_loadA (vs := [_, _, _]) Tryz.isAgg25 Tryz.sizeOf25 rfl (CellsAt.agree (below_agree hw 0) (Nat.zero_le _) (by assumption))) (at_top rfl)) ?_
 refine bl_cons 18 rfl (isV _) (stab_isV _) (rgV (li := [(4, _)]) rfl (w_free rfl) ⟨g_fr (by kernel_rfl) rfl, trivial⟩ (fun w hw => rn_field (o' := 5) fa_48_4 rfl rfl) (at_top rfl)) ?_
 refine bl_cons 19 rfl (isV _) (stab_isV _) (rgV (li := [(76, _)]) rfl (w_free rfl) ⟨g_dep 17 (by kernel_rfl) (at_dep rfl rfl rfl), trivial⟩ (fun w hw => rn_load Tryz.isAgg46 rfl ((below_agree hw 0).cell (Nat.zero_le _) (cell_own (hS.at_ 3 rfl) rfl))) (at_top rfl)) ?_
 refine bl_cons 20 rfl (isV _) (stab_isV _) (rgV (li := [(77, _)]) rfl (w_free rfl) ⟨g_dep 18 (by kernel_rfl) (at_dep rfl rfl rfl), trivial⟩ (fun w hw => rn_indexA (j := 1) Tryz.underlying46 Tryz.sizeOf48 rfl rfl rfl (by omega) rfl) (at_top rfl)) ?_
 refine bl_cons 21 rfl (isV _) (stab_isV _) (rgV (li := [(78, _)]) rfl (w_free rfl) ⟨g_dep 19 (by kernel_rfl) (at_dep rfl rfl rfl), trivial⟩ (fun w hw => rn_loadA (vs := [_, _, _, _, _, _]) Tryz.isAgg48 Tryz.sizeOf48 rfl (CellsAt.agree (below_agree hw 0) (Nat.zero_le _) (by assumption))) (at_top rfl)) ?_
 refine bl_cons 22 rfl (isV _) (stab_isV _) (rgV (li := [(5, _)]) rfl (w_free rfl) ⟨g_fr (by kernel_rfl) rfl, trivial⟩ (fun w hw => rn_field (o' := 5) fa_48_4 rfl rfl) (at_top rfl)) ?_
 refine bl_cons 23 rfl (isV _) (stab_isV _) (rgV (li := [(80, _)]) rfl (w_free rfl) ⟨g_dep 21 (by kernel_rfl) (at_dep rfl rfl rfl), trivial⟩ (fun w hw => rn_load Tryz.isAgg46 rfl ((below_agree hw 0).cell (Nat.zero_le _) (cell_own (hS.at_ 2 rfl) rfl))) (at_top rfl)) ?_
 refine bl_cons 24 rfl (isV _) (stab_isV _) (rgV (li := [(81, _)]) rfl (w_free rfl) ⟨g_dep 22 (by kernel_rfl) (at_dep rfl rfl rfl), trivial⟩ (fun w hw => rn_indexA (j := 1) Tryz.underlying46 Tryz.sizeOf48 rfl rfl rfl (by omega) rfl) (at_top rfl)) ?_
 refine bl_cons 25 rfl (isV _) (stab_isV _) (rgV (li := [(82, _)]) rfl (w_free rfl) ⟨g_dep 23 (by kernel_rfl) (at_dep rfl rfl rfl), trivial⟩ (fun w hw => rn_loadA (vs := [_, _, _, _, _, _]) Tryz.isAgg48 Tryz.sizeOf48 rfl (CellsAt.agree (below_agree hw 0) (Nat.zero_le _) (by assumption))) (at_top rfl)) ?_
 refine bl_cons 26 rfl (isNew W5.heap.size (.one u m) (.one (extP u m x2 y2))) (stab_isNew) (rg_call [isV _, isV _, isV _] rfl goes_70 (w_free rfl) ⟨p_tmp (g_dep 16 (by kernel_rfl) (at_dep rfl rfl rfl)), p_tmp (g_dep 20 (by kernel_rfl) (at_dep rfl rfl rfl)), p_tmp (g_dep 24 (by kernel_rfl) (at_dep rfl rfl rfl)), trivial⟩ (fun vs w' hb hh => by have e := holds_isV (us := [_, _, _]) hh; subst e; exact wret_gives hb.size (extA_plain _ _ _ _ _ _ _ _ _ hp2 (hx2.below (hS.below.trans (hb.mono hS.below.size))) (hy2.below (hS.below.trans (hb.mono hS.below.size))) (ht.below (hS.below.trans (hb.mono hS.below.size))))) (at_top rfl)) ?_
 refine bl_cons 27 rfl (isNew W5.heap.size (.two t n u m) (.two (extP t n x1 y1) (extP u m x2 y2))) (stab_isNew) (rg_call [isNew _ (.one t n) (.one (extP t n x1 y1)), isNew _ (.one u m) (.one (extP u m x2 y2))] rfl goes_83 (w_free rfl) ⟨p_tmp (g_dep 12 (by kernel_rfl) (at_dep rfl rfl rfl)), p_tmp (g_dep 25 (by kernel_rfl) (at_dep rfl rfl rfl)), trivial⟩ (fun vs w' hb hh => pair_gives hb.size hh) (at_top rfl)) ?_
 refine bl_nil ?_
 intro W6 hbR hS'
 clear hS; have hS := hS'; clear hS'
 refine fin_v ?_
 refine fin_v ?_
 refine fin_v ?_
 refine fin_v ?_
 refine fin_v ?_
 refine fin_v ?_
 refine fin_v ?_
 refine fin_v ?_
 refine fin_v ?_
 refine fin_v ?_
 refine fin_v ?_
 refine fin_v ?_
 refine fin_p ?_; rintro _ ⟨v1, rfl, hn1⟩
 refine fin_v ?_
 refine fin_v ?_
 refine fin_v ?_
 refine fin_v ?_
 refine fin_v ?_
 refine fin_v ?_
 refine fin_v ?_
 refine fin_v ?_
 refine fin_v ?_
 refine fin_v ?_
 refine fin_v ?_
 refine fin_v ?_
 refine fin_p ?_; rintro _ ⟨v2, rfl, hn2⟩
 refine fin_p ?_; rintro _ ⟨v3, rfl, hn3⟩
 refine fin_nil ?_
 refine op_storeA (i := 0) (vs := [_, _, _, _, _, _]) (cs' := [_, _, _, _, _, _]) (O' := [_, _, _, _, _]) hS Tryz.sizeOf48 rfl rfl rfl rfl rfl rfl rfl ?_
 clear hS; intro W7 hS
 refine endF ?_
 refine XF.blkN ?_
 refine XF.thenN ?_
 refine seqF (regF ?_)
 refine op_loadA (vs := [_, _, _, _, _, _]) Tryz.isAgg48 Tryz.sizeOf48 rfl (CellsAt.own (j := 0) (m := 6) (hS.at_ 0 rfl) rfl) rfl ?_
 refine op_storeA (i := 1) (vs := [_, _, _, _, _, _]) (cs' := [_, _, _, _, _, _]) (O' := [_, _, _, _, _]) hS Tryz.sizeOf48 rfl rfl rfl rfl rfl rfl rfl ?_
 clear hS; intro W8 hS
 refine endF (XF.thenN ?_)
 refine retF ?_
 refine XF.res (resC1 (vs := [_, _, _, _, _, _]) Tryz.results70 Tryz.isAgg48 Tryz.sizeOf48 rfl (CellsAt.own (j := 0) (m := 6) (hS.at_ 1 rfl) rfl)) ?_
 exact ⟨v3, rfl, (hn3.agree (hS.since 0 rfl)).mono hsz, hS.below⟩
theorem oneA_pair (t n u m : Int) (a1 a2 : Option Addr) (c1 c2 b off sc : Nat) (w : World) (hs1 : S3 w b off ⟨t, n, a1, 0, c1⟩) (hs2 : S3 w b (off + 3) ⟨u, m, a2, 0, c2⟩) (hp1 : plainB t n 0 = true) (hp2 : plainB u m 0 = true) :
  Calls Tryz.prog 68 #[.agg #[.int .i64 5, .int .i64 0, .slice (some ⟨b, off, none⟩) 2 sc]] w (WRet (.two t n u m) (.two (oneP t n) (oneP u m)) w) := by
 refine enterF (args := [.agg #[.int .i64 5, .int .i64 0, .slice (some ⟨b, off, none⟩) 2 sc]]) Tryz.func68 rfl Tryz.ntmps68 rfl ?_
 have hS := St.start w
 refine seqF (regF ?_)
 refine op_box (cs := [_, _, _]) hS rfl rfl rfl ?_
 clear hS; intro B1 W1 hS
 refine op_alloc (cs := [_, _, _, _, _, _]) hS Tryz.zeroValue48 rfl rfl ?_
 clear hS; intro B2 W2 hS
 refine endF (XF.thenN ?_)
 refine seqF (regF ?_)
 refine op_alloc (cs := [_, _, _, _, _, _]) hS Tryz.zeroValue48 rfl rfl ?_
 clear hS; intro B3 W3 hS
 refine endF (XF.thenN ?_)
 refine seqF ?_
 refine seqF (regF ?_)
 refine op_field (o' := 0) fa_25_0 rfl rfl rfl ?_
 refine op_load Tryz.isAgg22 rfl (cell_own (hS.at_ 2 rfl) rfl) rfl ?_
 refine endF (XF.thenN ?_)
 refine blockF ?_
 refine seqF (regF ?_)
 refine op_eql rfl rfl rfl ?_
 refine op_assign rfl rfl ?_
 refine endF (XF.thenN ?_)
 refine condF rfl (fun hc => absurd (of_decide_eq_true hc) (by omega)) (fun hc => ?_)
 have hc := of_decide_eq_false hc
 refine seqF (regF ?_)
 refine op_eql rfl rfl rfl ?_
 refine op_assign rfl rfl ?_
 refine endF (XF.thenN ?_)
 refine condF rfl (fun hc => absurd (of_decide_eq_true hc) (by omega)) (fun hc => ?_)
 have hc := of_decide_eq_false hc
 refine seqF (regF ?_)
 refine op_eql rfl rfl rfl ?_
 refine op_assign rfl rfl ?_
 refine endF (XF.thenN ?_)
 refine condF rfl (fun hc => ?_) (fun hc => absurd (of_decide_eq_false hc) (by omega))
 have hc := of_decide_eq_true hc
 have hsz := hS.below.size
 have k1 := CellsAt.agree hS.agree (Nat.zero_le _) hs1.cells
 have k2 := CellsAt.agree hS.agree (Nat.zero_le _) hs2.cells
 refine regBK followsM 11 hS rfl rfl (by kernel_rfl) (by kernel_rfl) (by kernel_rfl) (fun d hd => by cases hd) ?_
 refine bl_cons 1 rfl (isV _) (stab_isV _) (rgV (li := [(1, _)]) rfl (w_free rfl) ⟨g_fr (by kernel_rfl) rfl, trivial⟩ (fun w hw => rn_field (o' := 2) fa_25_2 rfl rfl) (at_top rfl)) ?_
 refine bl_cons 2 rfl (isV _) (stab_isV _) (rgV (li := [(26, _)]) rfl (w_free rfl) ⟨g_dep 0 (by kernel_rfl) (at_dep rfl rfl rfl), trivial⟩ (fun w hw => rn_load Tryz.isAgg23 rfl ((below_agree hw 0).cell (Nat.zero_le _) (cell_own (hS.at_ 2 rfl) rfl))) (at_top rfl)) ?_
 refine bl_cons 3 rfl (isV _) (stab_isV _) (rgV (li := [(27, _)]) rfl (w_free rfl) ⟨g_dep 1 (by kernel_rfl) (at_dep rfl rfl rfl), trivial⟩ (fun w hw => rn_indexA (j := 0) Tryz.underlying23 Tryz.sizeOf25 rfl rfl rfl (by omega) (Nat.add_zero _)) (at_top rfl)) ?_
 refine bl_cons 4 rfl (isV _) (stab_isV _) (rgV (li := [(28, _)]) rfl (w_free rfl) ⟨g_dep 2 (by kernel_rfl) (at_dep rfl rfl rfl), trivial⟩ (fun w hw => rn_loadA (vs := [_, _, _]) Tryz.isAgg25 Tryz.sizeOf25 rfl (CellsAt.agree (below_agree hw 0) (Nat.zero_le _) (by assumption))) (at_top rfl)) ?_
 refine bl_cons 5 rfl (isNew W3.heap.size (.one t n) (.one (oneP t n))) (stab_isNew) (rg_call [isV _] rfl goes_68 (w_free rfl) ⟨p_tmp (g_dep 3 (by kernel_rfl) (at_dep rfl rfl rfl)), trivial⟩ (fun vs w' hb hh => by have e := holds_isV (us := [_]) hh; subst e; exact wret_gives hb.size (oneA_plain _ _ _ _ _ hp1)) (at_top rfl)) ?_
 refine bl_cons 6 rfl (isV _) (stab_isV _) (rgV (li := [(1, _)]) rfl (w_free rfl) ⟨g_fr (by kernel_rfl) rfl, trivial⟩ (fun w hw => rn_field (o' := 2) fa_25_2 rfl rfl) (at_top rfl)) ?_
 refine bl_cons 7 rfl (isV _) (stab_isV _) (rgV (li := [(31, _)]) rfl (w_free rfl) ⟨g_dep 5 (by kernel_rfl) (at_dep rfl rfl rfl), trivial⟩ (fun w hw => rn_load Tryz.isAgg23 rfl ((below_agree hw 0).cell (Nat.zero_le _) (cell_own (hS.at_ 2 rfl) rfl))) (at_top rfl)) ?_
 refine bl_cons 8 rfl (isV _) (stab_isV _) (rgV (li := [(32, _)]) rfl (w_free rfl) ⟨g_dep 6 (by kernel_rfl) (at_dep rfl rfl rfl), trivial⟩ (fun w hw => rn_indexA (j := 1) Tryz.underlying23 Tryz.sizeOf25 rfl rfl rfl (by omega) rfl) (at_top rfl)) ?_
 refine bl_cons 9 rfl (isV _) (stab_isV _) (rgV (li := [(33, _)]) rfl (w_free rfl) ⟨g_dep 7 (by kernel_rfl) (at_dep rfl rfl rfl), trivial⟩ (fun w hw => rn_loadA (vs := [_, _, _]) Tryz.isAgg25 Tryz.sizeOf25 rfl (CellsAt.agree (below_agree hw 0) (Nat.zero_le _) (by assumption))) (at_top rfl)) ?_
 refine bl_cons 10 rfl (isNew W3.heap.size (.one u m) (.one (oneP u m))) (stab_isNew) (rg_call [isV _] rfl goes_68 (w_free rfl) ⟨p_tmp (g_dep 8 (by kernel_rfl) (at_dep rfl rfl rfl)), trivial⟩ (fun vs w' hb hh => by have e := holds_isV (us := [_]) hh; subst e; exact wret_gives hb.size (oneA_plain _ _ _ _ _ hp2)) (at_top rfl)) ?_
 refine bl_cons 11 rfl (isNew W3.heap.size (.two t n u m) (.two (oneP t n) (oneP u m))) (stab_isNew) (rg_call [isNew _ (.one t n) (.one (oneP t n)), isNew _ (.one u m) (.one (oneP u m))] rfl goes_83 (w_free rfl) ⟨p_tmp (g_dep 4 (by kernel_rfl) (at_dep rfl rfl rfl)), p_tmp (g_dep 9 (by kernel_rfl) (at_dep rfl rfl rfl)), trivial⟩ (fun vs w' hb hh => pair_gives hb.size hh) (at_top rfl)) ?_
 refine bl_nil ?_
 intro W4 hbR hS'
 clear hS; have hS := hS'; clear hS'
 refine fin_v ?_
 refine fin_v ?_
 refine fin_v ?_
 refine fin_v ?_
 refine fin_p ?_; rintro _ ⟨v1, rfl, hn1⟩
 refine fin_v ?_
 refine fin_v ?_
 refine fin_v ?_
 refine fin_v ?_
 refine fin_p ?_; rintro _ ⟨v2, rfl, hn2⟩
 refine fin_p ?_; rintro _ ⟨v3, rfl, hn3⟩
 refine fin_nil ?_
 refine op_storeA (i := 0) (vs := [_, _, _, _, _, _]) (cs' := [_, _, _, _, _, _]) (O' := [_, _, _]) hS Tryz.sizeOf48 rfl rfl rfl rfl rfl rfl rfl ?_
 clear hS; intro W5 hS
 refine endF ?_
 refine XF.blkN ?_
 refine XF.thenN ?_
 refine seqF (regF ?_)
 refine op_loadA (vs := [_, _, _, _, _, _]) Tryz.isAgg48 Tryz.sizeOf48 rfl (CellsAt.own (j := 0) (m := 6) (hS.at_ 0 rfl) rfl) rfl ?_
 refine op_storeA (i := 1) (vs := [_, _, _, _, _, _]) (cs' := [_, _, _, _, _, _]) (O' := [_, _, _]) hS Tryz.sizeOf48 rfl rfl rfl rfl rfl rfl rfl ?_
 clear hS; intro W6 hS
 refine endF (XF.thenN ?_)
 refine retF ?_
 refine XF.res (resC1 (vs := [_, _, _, _, _, _]) Tryz.results68 Tryz.isAgg48 Tryz.sizeOf48 rfl (CellsAt.own (j := 0) (m := 6) (hS.at_ 1 rfl) rfl)) ?_
 exact ⟨v3, rfl, (hn3.agree (hS.since 0 rfl)).mono hsz, hS.below⟩
end Go.Proofs.YtfkbkekgnoanaaaGreatDoor
namespace Go.Proofs.YtfkbkekgnoanaaaGreatDoor
open Go.RowKit
attribute [local go_sem ↓] Go.wp_at_zero Go.wp_at_succ
theorem zeroA_lit (t n : Int) (a : Option Addr) (l c0 : Nat) (ht : t ≠ 5) (w : World) :
  Calls Tryz.prog 67 #[.agg #[.int .i64 t, .int .i64 n, .slice a l c0]] w fun e w' => e = .returned (.agg #[.bool true, .int .i64 0, .int .u64 0, .slice none 0 0, .slice none 0 0, .slice none 0 0]) ∧ Below w.heap.size w w' := zeroA_plain t n a l c0 ht w
theorem pair_zero (w : World) :
  Calls Tryz.prog 83 #[.agg #[.bool true, .int .i64 0, .int .u64 0, .slice none 0 0, .slice none 0 0, .slice none 0 0], .agg #[.bool true, .int .i64 0, .int .u64 0, .slice none 0 0, .slice none 0 0, .slice none 0 0]] w fun e w' => ∃ blk, e = .returned (.agg #[.bool false, .int .i64 0, .int .u64 0, .slice none 0 0, .slice none 0 0, .slice (some ⟨blk, 0, none⟩) 2 2]) ∧ W6 w' blk 0 zeroF ∧ W6 w' blk 6 zeroF ∧ w.heap.size ≤ blk ∧ Below w.heap.size w w' := pair_is zeroF zeroF w
set_option maxHeartbeats 8000000 in
theorem zeroA_pair (d : Nat) (sa : Option Addr) (sc : Nat) (p q : SV) (w : World) (hsp : SIn w (d + 1) (.mk ⟨5, 0, sa, 2, sc⟩ [p, q])) (hp : p.pl = true) (hq : q.pl = true) :
  Calls Tryz.prog 67 #[.agg #[.int .i64 5, .int .i64 0, .slice sa 2 sc]] w (WRet (.two p.f.tag p.f.dim q.f.tag q.f.dim) (.two zeroP zeroP) w) := by
 obtain ⟨_, b, off, ha, hb, hp3, hq3, _, _⟩ := hsp.two
 obtain rfl : sa = some ⟨b, off, none⟩ := ha
 obtain ⟨⟨pt, pn, pa, pl, pc⟩, pps⟩ := p
 obtain ⟨⟨qt, qn, qa, ql, qc⟩, qps⟩ := q
 have hp5 := Lib.hid (pl_pair (show plainB pt pn pl = true from hp)); have hq5 := Lib.hid (pl_pair (show plainB qt qn ql = true from hq))
 obtain ⟨t0, t1⟩ := two_boxes2 w #[.int .i64 5, .int .i64 0, .slice (some ⟨b, off, none⟩) 2 sc] #[.bool false, .int .i64 0, .int .u64 0, .slice none 0 0, .slice none 0 0, .slice none 0 0] 25 48
 have T0 := Lib.hid t0; have T1 := Lib.hid t1
 have hB := Lib.hid (wbox w #[.int .i64 5, .int .i64 0, .slice (some ⟨b, off, none⟩) 2 sc] #[.bool false, .int .i64 0, .int .u64 0, .slice none 0 0, .slice none 0 0, .slice none 0 0] 25 48)
 have hsz : ((w.alloc (.cells #[.int .i64 5, .int .i64 0, .slice (some ⟨b, off, none⟩) 2 sc] 25)).alloc (.cells #[.bool false, .int .i64 0, .int .u64 0, .slice none 0 0, .slice none 0 0, .slice none 0 0] 48)).heap.size = w.heap.size + 1 + 1 := by simp
 have n1 : ¬ (w.heap.size + 1 = w.heap.size) := by omega
 have n2 : ¬ (w.heap.size + 1 = b) := by omega
 obtain ⟨W0, hW0⟩ : ∃ W, (w.alloc (.cells #[.int .i64 5, .int .i64 0, .slice (some ⟨b, off, none⟩) 2 sc] 25)).alloc (.cells #[.bool false, .int .i64 0, .int .u64 0, .slice none 0 0, .slice none 0 0, .slice none 0 0] 48) = W := ⟨_, rfl⟩
 rw [hW0] at hB T0 T1 hsz
 have HSZ := Lib.hid hsz
 have HP3 := Lib.hid (S3.below hp3 hB.out); have HQ3 := Lib.hid (S3.below hq3 hB.out)
 obtain ⟨x0, x1, x2⟩ := tri_cells T0.out
 obtain ⟨y0, y1, y2, y3, y4, y5⟩ := six_cells T1.out
 have EN : Hid (∀ W : World, Below W0.heap.size W0 W → W.cell? ⟨w.heap.size, 2, none⟩ = some (.slice (some ⟨b, off, none⟩) 2 sc) ∧ W.cell? ⟨b, off, none⟩ = some (.int .i64 pt) ∧ W.cell? ⟨b, off + 1, none⟩ = some (.int .i64 pn) ∧ W.cell? ⟨b, off + 2, none⟩ = some (.slice pa pl pc) ∧ W.cell? ⟨b, off + 3, none⟩ = some (.int .i64 qt) ∧ W.cell? ⟨b, off + 4, none⟩ = some (.int .i64 qn) ∧ W.cell? ⟨b, off + 5, none⟩ = some (.slice qa ql qc)) := fun W h => by
  obtain ⟨a0, a1, a2⟩ := tri_cells (heap_old T0.out h)
  obtain ⟨d0, d1, d2⟩ := HP3.out.below h; obtain ⟨e0, e1, e2⟩ := HQ3.out.below h
  exact ⟨a2, d0, d1, d2, e0, e1, e2⟩
 obtain ⟨m0, m1, m2, m3, m4, m5, m6⟩ := EN.out _ (Below.refl _ _)
 clear hsp hp hq hp3 hq3 t0 t1 hsz hb
 have D0 : Hid (Below W0.heap.size W0 W0.drew) := (Below.refl _ _).drew
 go_enter Tryz.func67, Tryz.ntmps67
 go_wp2_with fail
 go_region_held3 (fun w' => w'.cell? ⟨w.heap.size, 2, none⟩ = some (.slice (some ⟨b, off, none⟩) 2 sc) ∧ w'.cell? ⟨b, off, none⟩ = some (.int .i64 pt) ∧ w'.cell? ⟨b, off + 1, none⟩ = some (.int .i64 pn) ∧ w'.cell? ⟨b, off + 2, none⟩ = some (.slice pa pl pc) ∧ w'.cell? ⟨b, off + 3, none⟩ = some (.int .i64 qt) ∧ w'.cell? ⟨b, off + 4, none⟩ = some (.int .i64 qn) ∧ w'.cell? ⟨b, off + 5, none⟩ = some (.slice qa ql qc))
  (first | (simp only [World.cell?_setCell_far, ne_eq, n1, n2, not_false_eq_true]; with_reducible exact EN.out _ D3.out) | with_reducible exact EN.out _ D0.out | with_reducible exact EN.out _ D1.out | with_reducible exact EN.out _ D2.out | with_reducible exact EN.out _ D3.out | with_reducible exact EN.out _ (Below.refl _ _) | fail)
  (first | (go_at_call 67; with_reducible refine (zeroA_lit pt pn pa pl pc hp5.out W0.drew).mono ?_; rintro e z1 ⟨rfl, hz1⟩; have D1 := Lib.hid (D0.out.trans (hz1.mono D0.out.size))) | (go_at_call 67; with_reducible refine (zeroA_lit qt qn qa ql qc hq5.out z1).mono ?_; rintro e z2 ⟨rfl, hz2⟩; have D2 := Lib.hid (D1.out.trans (hz2.mono D1.out.size))) | (go_at_call 83; with_reducible refine (pair_zero z2).mono ?_; rintro e z3 ⟨blk, rfl, hx6, hy6, hge, hz3⟩; have D3 := Lib.hid (D2.out.trans (hz3.mono D2.out.size)); have XO := Lib.hid (heap_old T1.out D3.out); obtain ⟨o0, o1, o2, o3, o4, o5⟩ := six_cells XO.out; have f0 := six_frozen XO.out 0; have f1 := six_frozen XO.out 1; have f2 := six_frozen XO.out 2; have f3 := six_frozen XO.out 3; have f4 := six_frozen XO.out 4; have f5 := six_frozen XO.out 5) | fail)
 all_goals
  have NS := Lib.hid (six_set (v0 := .bool false) (v1 := .int .i64 0) (v2 := .int .u64 0) (v3 := .slice none 0 0) (v4 := .slice none 0 0) (v5 := .slice (some ⟨blk, 0, none⟩) 2 2) XO.out)
  obtain ⟨s0, s1, s2, s3, s4, s5⟩ := six_cells NS.out
  have hle := D2.out.size
  have hge2 : w.heap.size + 1 + 1 ≤ blk := by have := HSZ.out; omega
  have HX6 := Lib.hid hx6; have HY6 := Lib.hid hy6
  have HB3 := Lib.hid (hB.out.trans (D3.out.mono hB.out.size))
  clear hx6 hy6 f0 f1 f2 f3 f4 f5 o0 o1 o2 o3 o4 o5
  go_wp2_with fail
  refine bodyPost_ret (v := .agg #[.bool false, .int .i64 0, .int .u64 0, .slice none 0 0, .slice none 0 0, .slice (some ⟨blk, 0, none⟩) 2 2]) ?_ rfl ⟨pairF blk, rfl, ?_, ?_⟩
  rotate_left
  ·exact (pair_new (HX6.out.above (n := w.heap.size + 1 + 1) hge2 (put6_above _ _ _ _ _ _ (Above.refl _ _) (by omega))) (HY6.out.above (n := w.heap.size + 1 + 1) hge2 (put6_above _ _ _ _ _ _ (Above.refl _ _) (by omega))) hge2 (zero_new _ _ _ _) (zero_new _ _ _ _)).mono (by omega)
  ·exact put6_below _ _ _ _ _ _ HB3.out (by omega)
  ·simp [results, Tryz.results67, go_sem, s0, s1, s2, s3, s4, s5]
end Go.Proofs.YtfkbkekgnoanaaaGreatDoor
namespace Go.Proofs.YtfkbkekgnoanaaaGreatDoor
open Go Go.RowKit
theorem PIs.pw {w : World} {t n : Int} {f : WF} {x : PF} (h : PIs w t n f x) : pwOk t n f = true := by
 obtain ⟨ez, ec, eg, er, ex⟩ := pf_inj h.pf
 have hrl := h.at_.rl; have hcl := h.at_.cl; have hpl := h.pl
 rw [er] at hrl; rw [ex] at hcl
 unfold pwOk bareB onlyB
 rw [ez, ec, eg, er, ex, hpl, ← hrl, ← hcl]
 cases h.ok with
 | zero => simp [zeroP]
 | bool ht => rw [ht]; simp [pC]
 | cost c ht h0 h1 => rw [ht]; simp [pC, h0, h1]
 | facts m g rows ht hn hg => rw [ht, hn]; simp [pF, good_check hg]
 | cells m cs ht hn hv => rw [ht, hn]; simp [pX, hv.chk]
theorem PIs.rl100 {w : World} {t n : Int} {f : WF} {x : PF} (h : PIs w t n f x) : f.rl ≤ 100 := by have := h.rows64 (l := 0); omega
theorem two_win {w : World} {t n u m : Int} {ra ca : Option Addr} {rc cc pc fb fo : Nat} {f1 f2 : WF} {a b : PF} (h6 : W6 w fb fo f1) (h7 : W6 w fb (fo + 6) f2) (h8 : PIs w t n f1 a) (h9 : PIs w u m f2 b) :
  WIn w 2 (.mk ⟨false, 0, 0, ra, 0, rc, [], ca, 0, cc, [], some ⟨fb, fo, none⟩, 2, pc⟩ [.mk f1 [], .mk f2 []]) := by
 refine ⟨⟨.inl rfl, rfl, (by show (0 : Nat) < _; decide), (fun r hr => by cases hr), .inl rfl, rfl, (fun c hc => by cases hc), (by show (0 : Nat) ≤ _; decide)⟩, rfl, .inr ⟨fb, fo, rfl, fun i p hi => ?_⟩, fun p hp => ?_⟩
 ·match i, hi with
  | 0, hi => simp at hi; subst hi; simpa [WV.f] using h6
  | 1, hi => simp at hi; subst hi; simpa [WV.f] using h7
 ·simp at hp
  rcases hp with rfl | rfl
  ·exact ⟨h8.at_, h8.pl.symm, .inl rfl, by simp⟩
  ·exact ⟨h9.at_, h9.pl.symm, .inl rfl, by simp⟩
theorem two_pairOk {w : World} {t n u m : Int} {ra ca : Option Addr} {a1 a2 : Option Addr} {c1 c2 rc cc pc fb fo : Nat} {f1 f2 : WF} {a b : PF} (h8 : PIs w t n f1 a) (h9 : PIs w u m f2 b) :
  pairOk (.mk ⟨t, n, a1, 0, c1⟩ []) (.mk ⟨u, m, a2, 0, c2⟩ []) ⟨false, 0, 0, ra, 0, rc, [], ca, 0, cc, [], some ⟨fb, fo, none⟩, 2, pc⟩ [.mk f1 [], .mk f2 []] = true := by
 have e1 : pwOk t n f1 = true := h8.pw
 have e2 : pwOk u m f2 = true := h9.pw
 simp [pairOk, bareB, onlyB, pwAt, SV.f, WV.f, e1, e2]
section
variable {w : World} {S : PS} {sf : SF} {f g : WF} {x y : PX}
theorem sin_two {t n u m : Int} {b off sc : Nat} {a1 a2 : Option Addr} {c1 c2 : Nat} (h1 : S3 w b off ⟨t, n, a1, 0, c1⟩) (h2 : S3 w b (off + 3) ⟨u, m, a2, 0, c2⟩) : SIn w 2 (.mk ⟨5, 0, some ⟨b, off, none⟩, 2, sc⟩ [.mk ⟨t, n, a1, 0, c1⟩ [], .mk ⟨u, m, a2, 0, c2⟩ []]) := by
 refine ⟨rfl, .inr ⟨b, off, rfl, fun i p hi => ?_⟩, ?_⟩
 ·match i, hi with
  | 0, hi => simp at hi; subst hi; simpa [SV.f] using h1
  | 1, hi => simp at hi; subst hi; simpa [SV.f] using h2
 ·intro p hp
  simp at hp
  rcases hp with rfl | rfl <;> exact ⟨rfl, .inl rfl, by simp⟩
theorem isA_ok (hs : SIs w S sf) (hok : S.ok) (hx : XIs w S f x) : Calls Tryz.prog 78 #[sf.val, f.val] w fun e w' => e = .returned (.bool true) ∧ Below w.heap.size w w' := by
 cases S <;> cases x <;> first | exact hx.elim | skip
 ·obtain ⟨a, c, rfl⟩ := hs
  exact isA_plain _ _ _ _ _ _ hok (PIs.rl100 hx) w (PIs.at_ hx) true (PIs.pw hx)
 ·obtain ⟨b, off, c, a1, c1, a2, c2, rfl, h1, h2⟩ := hs
  obtain ⟨ra, ca, rc, cc, pc, fb, fo, f1, f2, rfl, h6, h7, h8, h9⟩ := hx.two
  exact isA_pair 1 _ _ _ _ _ _ w (sin_two h1 h2) hok.1 hok.2 1 (two_win h6 h7 h8 h9) (by intro p hp; simp at hp; rcases hp with rfl | rfl <;> first | exact h8.rl100 | exact h9.rl100) true (two_pairOk h8 h9)
theorem spaceA_ok (hs : SIs w S sf) (hok : S.ok) : Calls Tryz.prog 46 #[sf.val] w fun e w' => e = .returned (.int .i64 0) ∧ Below w.heap.size w w' := by
 obtain ⟨s, rfl, h1, h2⟩ := hs.sin hok
 exact spaceA_is 2 s 0 w h1 h2
theorem wExt_is (hs : SIs w S sf) (hok : S.ok) (hx : XIs w S f x) (hy : XIs w S g y) (ht : Tabs w) : Calls Tryz.prog 70 #[sf.val, f.val, g.val] w (WRet S (extX S x y) w) := by
 cases S <;> cases x <;> cases y <;> first | exact hx.elim | exact hy.elim | skip
 ·obtain ⟨a, c, rfl⟩ := hs
  exact extA_plain _ _ _ _ _ _ _ _ _ hok hx hy ht
 ·obtain ⟨b, off, c, a1, c1, a2, c2, rfl, h1, h2⟩ := hs
  obtain ⟨ra, ca, rc, cc, pc, fb, fo, f1, f2, rfl, h6, h7, h8, h9⟩ := hx.two
  obtain ⟨ra', ca', rc', cc', pc', gb, go, g1, g2, rfl, h6', h7', h8', h9'⟩ := hy.two
  exact extA_pair _ _ _ _ _ _ _ _ _ _ _ _ h1 h2 hok.1 hok.2 _ _ _ _ _ _ _ _ _ _ _ h6 h7 h8 h9 _ _ _ _ _ _ _ _ _ _ _ h6' h7' h8' h9' ht
theorem oneA_ok (hs : SIs w S sf) (hok : S.ok) : Calls Tryz.prog 68 #[sf.val] w (WRet S (oneX S) w) := by
 cases S with
 | one t n =>
  obtain ⟨a, c, rfl⟩ := hs
  exact oneA_plain _ _ _ _ _ hok
 | two t n u m =>
  obtain ⟨b, off, c, a1, c1, a2, c2, rfl, h1, h2⟩ := hs
  exact oneA_pair _ _ _ _ _ _ _ _ _ _ _ _ h1 h2 hok.1 hok.2
theorem zeroA_ok (hs : SIs w S sf) (hok : S.ok) : Calls Tryz.prog 67 #[sf.val] w (WRet S (zeroX S) w) := by
 cases S with
 | one t n =>
  obtain ⟨a, c, rfl⟩ := hs
  refine (zeroA_plain t n a 0 c (pl_pair hok) w).mono ?_
  rintro e w' ⟨rfl, hb⟩
  exact ⟨zeroF, rfl, zero_new _ _ _ _, hb⟩
 | two t n u m =>
  obtain ⟨b, off, c, a1, c1, a2, c2, rfl, h1, h2⟩ := hs
  exact zeroA_pair 1 _ _ _ _ w (sin_two h1 h2) hok.1 hok.2
end
end Go.Proofs.YtfkbkekgnoanaaaGreatDoor
namespace Go.Proofs.YtfkbkekgnoanaaaGreatDoor
open Go Go.RowKit
theorem own_two {w : World} {base : Nat} {v : Value} {g h : WF} (hr : w.ownsRow base 48 6 v 2 (g.six ++ h.six)) : ∃ b c, v = .slice (some ⟨b, 0, none⟩) 2 c ∧ base ≤ b ∧ W6 w b 0 g ∧ W6 w b 6 h := by
 rcases hr.2 with ⟨_, h2⟩ | ⟨b, cap, cur, rfl, hb, hh, h1, h2, h3, h4⟩
 ·cases h2
 ·have key : ∀ i v, (g.six ++ h.six)[i]? = some v → w.cell? ⟨b, i, none⟩ = some v := fun i v hi => by
   rw [← h4, List.getElem?_take] at hi
   split at hi
   ·unfold World.cell?; simp only [hh]; simpa using hi
   ·cases hi
  exact ⟨b, cap, rfl, hb, ⟨key 0 _ rfl, key 1 _ rfl, key 2 _ rfl, key 3 _ rfl, key 4 _ rfl, key 5 _ rfl⟩, ⟨key 6 _ rfl, key 7 _ rfl, key 8 _ rfl, key 9 _ rfl, key 10 _ rfl, key 11 _ rfl⟩⟩
theorem copied_fin {w W : World} {t n u m : Int} {ra ca : Option Addr} {rc cc lo1 lo2 : Nat} {v : Value} {g h : WF} {x y : PF} (hb : Below w.heap.size w W) (hr : W.ownsRow w.heap.size 48 6 v 2 (g.six ++ h.six)) (h1 : w.heap.size ≤ lo1) (k1 : PNew lo1 W t n g x) (h2 : w.heap.size ≤ lo2) (k2 : PNew lo2 W u m h y) :
  WRet (.two t n u m) (.two x y) w (.returned (.agg (List.toArray [.bool false, .int .i64 0, .int .u64 0, .slice ra 0 rc, .slice ca 0 cc, v]))) W := by
 obtain ⟨b, c, rfl, hb0, h6, h7⟩ := own_two hr
 exact ⟨⟨false, 0, 0, ra, 0, rc, [], ca, 0, cc, [], some ⟨b, 0, none⟩, 2, c⟩, rfl, ⟨rfl, rfl, rfl, rfl, b, g, h, rfl, hb0, h6, h7, k1.mono h1, k2.mono h2⟩, hb⟩
theorem copied_pair (t n u m0 : Int) (w : World) (fra fca : Option Addr) (frc fcc fpc fb fo : Nat) (f1 f2 : WF) (x1 x2 : PF) (hf6 : W6 w fb fo f1) (hf7 : W6 w fb (fo + 6) f2) (hx1 : PIs w t n f1 x1) (hx2 : PIs w u m0 f2 x2) :
  Calls Tryz.prog 69 #[.agg #[.bool false, .int .i64 0, .int .u64 0, .slice fra 0 frc, .slice fca 0 fcc, .slice (some ⟨fb, fo, none⟩) 2 fpc]] w (WRet (.two t n u m0) (.two x1 x2) w) := by
 refine enterF (args := [.agg #[.bool false, .int .i64 0, .int .u64 0, .slice fra 0 frc, .slice fca 0 fcc, .slice (some ⟨fb, fo, none⟩) 2 fpc]]) Tryz.func69 rfl Tryz.ntmps69 rfl ?_
 have hS := St.start w
 refine seqF (regF ?_)
 refine op_box (cs := [_, _, _, _, _, _]) hS rfl rfl rfl ?_
 clear hS; intro B1 W1 hS
 refine op_alloc (cs := [_, _, _, _, _, _]) hS Tryz.zeroValue48 rfl rfl ?_
 clear hS; intro B2 W2 hS
 refine endF (XF.thenN ?_)
 refine seqF (regF ?_)
 refine op_field (o' := 2) fa_48_2 rfl rfl rfl ?_
 refine op_field (o' := 3) fa_44_1 rfl rfl rfl ?_
 refine op_load Tryz.isAgg42 rfl (cell_own (hS.at_ 1 rfl) rfl) rfl ?_
 refine op_call (vs := [_]) hS goes_86 rfl (clone_is _ _ [] _ (by simp) (.inl rfl) 0 rfl) rfl ?_
 rintro e W3 ⟨v, rfl, hown, hb⟩
 refine ⟨_, rfl, hb, fun hS' => ?_⟩
 clear hS; have hS := hS'; clear hS' hb
 obtain ⟨ra1, rc1, rfl, _, _⟩ := (urow_of_own (rows := []) hown).2
 clear hown
 refine op_field (o' := 2) fa_48_2 rfl rfl rfl ?_
 refine op_field (o' := 3) fa_44_1 rfl rfl rfl ?_
 refine op_store (i := 1) (cs' := [_, _, _, _, _, _]) (O' := [_, _]) hS Tryz.sizeOf42 rfl rfl rfl rfl rfl rfl rfl ?_
 clear hS; intro W4 hS
 refine endF (XF.thenN ?_)
 refine seqF (regF ?_)
 refine op_field (o' := 4) fa_48_3 rfl rfl rfl ?_
 refine op_load Tryz.isAgg45 rfl (cell_own (hS.at_ 1 rfl) rfl) rfl ?_
 refine op_call (vs := [_]) hS goes_87 rfl (cclone_is _ _ [] _ (by simp) (.inl rfl) 0 rfl) rfl ?_
 rintro e W5 ⟨ca1, cc1, rfl, _, _, hb⟩
 refine ⟨_, rfl, hb, fun hS' => ?_⟩
 clear hS; have hS := hS'; clear hS' hb
 refine op_field (o' := 4) fa_48_3 rfl rfl rfl ?_
 refine op_store (i := 1) (cs' := [_, _, _, _, _, _]) (O' := [_, _]) hS Tryz.sizeOf45 rfl rfl rfl rfl rfl rfl rfl ?_
 clear hS; intro W6 hS
 refine endF (XF.thenN ?_)
 refine seqF (regF ?_)
 refine op_assign rfl rfl ?_
 refine endF (XF.thenN ?_)
 refine seqF ?_
 refine seqF ?_
 have hS := (hS.newG 48 6).clear
 refine regF ?_
 refine op_field (o' := 5) fa_48_4 rfl rfl rfl ?_
 refine op_load Tryz.isAgg46 rfl (cell_own (hS.at_ 1 rfl) rfl) rfl ?_
 refine op_len Tryz.underlying46 rfl rfl ?_
 refine op_move rfl rfl ?_
 refine endF (XF.thenN ?_)
 refine blockF ?_
 refine loopF (fun m l W => (m = 2 ∧ l = [(1, .pointer (some ⟨B1, 0, none⟩)), (2, .pointer (some ⟨B2, 0, none⟩)), (3, .slice none 0 0), (17, .slice (some ⟨fb, fo, none⟩) 2 fpc), (18, .int .i64 2), (19, .int .i64 0)] ∧ St w [(B2, [.bool false, .int .i64 0, .int .u64 0, .slice none 0 0, .slice none 0 0, .slice none 0 0], 48), (B1, [.bool false, .int .i64 0, .int .u64 0, .slice ra1 0 rc1, .slice ca1 0 cc1, .slice (some ⟨fb, fo, none⟩) 2 fpc], 48)] [⟨.slice none 0 0, 0, [], 48, 6⟩] [] W) ∨ (∃ v1 lo1 A1 h1, m = 1 ∧ l = [(1, .pointer (some ⟨B1, 0, none⟩)), (2, .pointer (some ⟨B2, 0, none⟩)), (3, v1), (17, .slice (some ⟨fb, fo, none⟩) 2 fpc), (18, .int .i64 2), (19, .int .i64 1)] ∧ w.heap.size ≤ lo1 ∧ PNew lo1 A1 t n h1 x1 ∧ St w [(B2, [.bool false, .int .i64 0, .int .u64 0, .slice none 0 0, .slice none 0 0, .slice none 0 0], 48), (B1, [.bool false, .int .i64 0, .int .u64 0, .slice ra1 0 rc1, .slice ca1 0 cc1, .slice (some ⟨fb, fo, none⟩) 2 fpc], 48)] [⟨v1, 1, h1.six, 48, 6⟩] [(lo1, A1)] W) ∨ (∃ v2 lo1 A1 h1 lo2 A2 h2, m = 0 ∧ l = [(1, .pointer (some ⟨B1, 0, none⟩)), (2, .pointer (some ⟨B2, 0, none⟩)), (3, v2), (17, .slice (some ⟨fb, fo, none⟩) 2 fpc), (18, .int .i64 2), (19, .int .i64 2)] ∧ w.heap.size ≤ lo1 ∧ PNew lo1 A1 t n h1 x1 ∧ w.heap.size ≤ lo2 ∧ PNew lo2 A2 u m0 h2 x2 ∧ St w [(B2, [.bool false, .int .i64 0, .int .u64 0, .slice none 0 0, .slice none 0 0, .slice none 0 0], 48), (B1, [.bool false, .int .i64 0, .int .u64 0, .slice ra1 0 rc1, .slice ca1 0 cc1, .slice (some ⟨fb, fo, none⟩) 2 fpc], 48)] [⟨v2, 2, h1.six ++ h2.six, 48, 6⟩] [(lo2, A2), (lo1, A1)] W)) (2) ([(1, _), (2, _), (3, _), (17, _), (18, _), (19, _)]) ⟨rfl, rfl, rfl, rfl, rfl, rfl, trivial⟩ (.inl ⟨rfl, rfl, hS⟩) ?_
 clear hS
 rintro m l W (⟨rfl, rfl, hS⟩ | ⟨v1, lo1, A1, h1, rfl, rfl, hlo1, hn1, hS⟩ | ⟨v2, lo1, A1, h1, lo2, A2, h2, rfl, rfl, hlo1, hn1, hlo2, hn2, hS⟩)
 ·have k1 := CellsAt.agree hS.agree (Nat.zero_le _) hf6.cells
  refine seqF (regF ?_)
  refine op_lss rfl rfl rfl ?_
  refine endF (XF.thenN ?_)
  refine seqF ?_
  refine condF rfl (fun hc => ?_) (fun hc => absurd (of_decide_eq_false hc) (by omega))
  have hc := of_decide_eq_true hc
  refine skipF ?_
  refine XF.thenN ?_
  refine seqF ?_
  refine blockF ?_
  refine seqF (regF ?_)
  refine op_indexA (j := 0) Tryz.underlying46 Tryz.sizeOf48 rfl rfl rfl (by omega) (Nat.add_zero _) rfl ?_
  refine op_loadA (vs := [_, _, _, _, _, _]) Tryz.isAgg48 Tryz.sizeOf48 rfl (by assumption) rfl ?_
  refine op_alloc (cs := [_, _, _, _, _, _]) hS Tryz.zeroValue48 rfl rfl ?_
  clear hS; intro B7 W7 hS
  refine op_storeA (i := 0) (vs := [_, _, _, _, _, _]) (cs' := [_, _, _, _, _, _]) (O' := [_, _, _]) hS Tryz.sizeOf48 rfl rfl rfl rfl rfl rfl rfl ?_
  clear hS; intro W8 hS
  refine endF (XF.thenN ?_)
  refine regF ?_
  refine op_move rfl rfl ?_
  refine op_loadA (vs := [_, _, _, _, _, _]) Tryz.isAgg48 Tryz.sizeOf48 rfl (CellsAt.own (j := 0) (m := 6) (hS.at_ 0 rfl) rfl) rfl ?_
  have hsz := hS.below.size
  refine op_call (vs := [_]) hS goes_69 rfl (copied_plain t n f1 _ _ (hx1.below hS.below)) rfl ?_
  rintro e W9 ⟨h1, rfl, hn, hb⟩
  refine ⟨_, rfl, hb, fun hS' => ?_⟩
  clear hS; have hS := hS'; clear hS'
  refine op_buildSlice (us := [(0, .agg (List.toArray [_, _, _, _, _, _]))]) hS Tryz.underlying46 Tryz.sizeOf48 Tryz.zeroValue48 rfl rfl rfl (bs_46_1 _ _ _ _ _ _) rfl ?_
  clear hS; intro B10 W10 hS
  refine op_append (i := 0) (news := [_, _, _, _, _, _]) hS Tryz.underlying46 inf_48 rfl rfl (by show 0 < 6; decide) rfl rfl rfl rfl rfl (CellsAt.own (j := 0) (m := 6) (hS.at_ 0 rfl) rfl) rfl rfl (by dsimp only; simp only [maxLen]; omega) (by dsimp only; show _ * 96 ≤ _; omega) rfl ?_
  clear hS; intro v11 W11 hS
  refine op_assign rfl rfl ?_
  refine endF ?_
  refine XF.blkN ?_
  refine XF.thenN ?_
  refine regF ?_
  refine op_add rfl rfl (IntWalk.i64_in _ (by omega)) rfl ?_
  refine op_move rfl rfl ?_
  refine endF ?_
  exact XF.round 1 [(1, _), (2, _), (3, _), (17, _), (18, _), (19, _)] (by omega) ⟨rfl, rfl, rfl, rfl, rfl, rfl, trivial⟩ (.inr (.inl ⟨_, _, _, h1, rfl, rfl, hsz, hn, hS.tail.tail⟩))
 ·have k1 := CellsAt.agree hS.agree (Nat.zero_le _) hf7.cells
  refine seqF (regF ?_)
  refine op_lss rfl rfl rfl ?_
  refine endF (XF.thenN ?_)
  refine seqF ?_
  refine condF rfl (fun hc => ?_) (fun hc => absurd (of_decide_eq_false hc) (by omega))
  have hc := of_decide_eq_true hc
  refine skipF ?_
  refine XF.thenN ?_
  refine seqF ?_
  refine blockF ?_
  refine seqF (regF ?_)
  refine op_indexA (j := 1) Tryz.underlying46 Tryz.sizeOf48 rfl rfl rfl (by omega) rfl rfl ?_
  refine op_loadA (vs := [_, _, _, _, _, _]) Tryz.isAgg48 Tryz.sizeOf48 rfl (by assumption) rfl ?_
  refine op_alloc (cs := [_, _, _, _, _, _]) hS Tryz.zeroValue48 rfl rfl ?_
  clear hS; intro B12 W12 hS
  refine op_storeA (i := 0) (vs := [_, _, _, _, _, _]) (cs' := [_, _, _, _, _, _]) (O' := [_, _, _]) hS Tryz.sizeOf48 rfl rfl rfl rfl rfl rfl rfl ?_
  clear hS; intro W13 hS
  refine endF (XF.thenN ?_)
  refine regF ?_
  refine op_move rfl rfl ?_
  refine op_loadA (vs := [_, _, _, _, _, _]) Tryz.isAgg48 Tryz.sizeOf48 rfl (CellsAt.own (j := 0) (m := 6) (hS.at_ 0 rfl) rfl) rfl ?_
  have hsz := hS.below.size
  refine op_call (vs := [_]) hS goes_69 rfl (copied_plain u m0 f2 _ _ (hx2.below hS.below)) rfl ?_
  rintro e W14 ⟨h2, rfl, hn, hb⟩
  refine ⟨_, rfl, hb, fun hS' => ?_⟩
  clear hS; have hS := hS'; clear hS'
  refine op_buildSlice (us := [(0, .agg (List.toArray [_, _, _, _, _, _]))]) hS Tryz.underlying46 Tryz.sizeOf48 Tryz.zeroValue48 rfl rfl rfl (bs_46_1 _ _ _ _ _ _) rfl ?_
  clear hS; intro B15 W15 hS
  refine op_append (i := 0) (news := [_, _, _, _, _, _]) hS Tryz.underlying46 inf_48 rfl rfl (by show 0 < 6; decide) rfl rfl rfl rfl rfl (CellsAt.own (j := 0) (m := 6) (hS.at_ 0 rfl) rfl) rfl rfl (by dsimp only; simp only [maxLen]; omega) (by dsimp only; show _ * 96 ≤ _; omega) rfl ?_
  clear hS; intro v16 W16 hS
  refine op_assign rfl rfl ?_
  refine endF ?_
  refine XF.blkN ?_
  refine XF.thenN ?_
  refine regF ?_
  refine op_add rfl rfl (IntWalk.i64_in _ (by omega)) rfl ?_
  refine op_move rfl rfl ?_
  refine endF ?_
  exact XF.round 0 [(1, _), (2, _), (3, _), (17, _), (18, _), (19, _)] (by omega) ⟨rfl, rfl, rfl, rfl, rfl, rfl, trivial⟩ (.inr (.inr ⟨_, _, _, h1, _, _, h2, rfl, rfl, hlo1, hn1, hsz, hn, hS.tail.tail⟩))
 ·skip
  refine seqF (regF ?_)
  refine op_lss rfl rfl rfl ?_
  refine endF (XF.thenN ?_)
  refine seqF ?_
  refine condF rfl (fun hc => absurd (of_decide_eq_true hc) (by omega)) (fun hc => ?_)
  have hc := of_decide_eq_false hc
  refine exitF ?_
  refine XF.thenX ?_
  refine XF.thenX ?_
  refine XF.blkX ?_
  refine XF.thenN ?_
  refine seqF ?_
  obtain ⟨gb, gc, rfl, hgb, hg6, hg7⟩ := own_two (hS.row 0 rfl)
  clear hgb hg6 hg7
  refine regF ?_
  refine op_move rfl rfl ?_
  refine op_field (o' := 5) fa_48_4 rfl rfl rfl ?_
  refine op_store (i := 1) (cs' := [_, _, _, _, _, _]) (O' := [_, _]) hS Tryz.sizeOf46 rfl rfl rfl rfl rfl rfl rfl ?_
  clear hS; intro W17 hS
  refine endF (XF.thenN ?_)
  refine seqF (regF ?_)
  refine op_loadA (vs := [_, _, _, _, _, _]) Tryz.isAgg48 Tryz.sizeOf48 rfl (CellsAt.own (j := 0) (m := 6) (hS.at_ 1 rfl) rfl) rfl ?_
  refine op_storeA (i := 0) (vs := [_, _, _, _, _, _]) (cs' := [_, _, _, _, _, _]) (O' := [_, _]) hS Tryz.sizeOf48 rfl rfl rfl rfl rfl rfl rfl ?_
  clear hS; intro W18 hS
  refine endF (XF.thenN ?_)
  refine retF ?_
  refine XF.res (resC1 (vs := [_, _, _, _, _, _]) Tryz.results69 Tryz.isAgg48 Tryz.sizeOf48 rfl (CellsAt.own (j := 0) (m := 6) (hS.at_ 0 rfl) rfl)) ?_
  exact copied_fin hS.below (hS.row 0 rfl) hlo1 (hn1.agree (hS.since 1 rfl)) hlo2 (hn2.agree (hS.since 0 rfl))
end Go.Proofs.YtfkbkekgnoanaaaGreatDoor
namespace Go.Proofs.YtfkbkekgnoanaaaGreatDoor
open Go Go.RowKit
section
variable {w : World} {S : PS} {sf : SF} {f g : WF} {x y : PX}
theorem copied_ok (hx : XIs w S f x) : Calls Tryz.prog 69 #[f.val] w (WRet S x w) := by
 cases S <;> cases x <;> first | exact hx.elim | skip
 ·exact copied_plain _ _ _ _ _ hx
 ·obtain ⟨ra, ca, rc, cc, pc, fb, fo, f1, f2, rfl, h6, h7, h8, h9⟩ := hx.two
  exact copied_pair _ _ _ _ _ _ _ _ _ _ _ _ _ _ _ _ h6 h7 h8 h9
end
theorem FRow.at_ {w : World} {a : Option Addr} {fs : List WF} (h : FRow w a fs) {i : Nat} {f : WF} (hi : fs[i]? = some f) : ∃ b off, a = some ⟨b, off, none⟩ ∧ W6 w b (off + i * 6) f := by
 rcases h with rfl | ⟨b, off, ha, hc⟩
 ·simp at hi
 ·exact ⟨b, off, ha, hc i f hi⟩
def XL (w : World) (S : PS) (fs : List WF) (xs : List PX) : Prop := fs.length = xs.length ∧ ∀ (i : Nat) f x, fs[i]? = some f → xs[i]? = some x → XIs w S f x
theorem XL.at_ {w : World} {S : PS} {fs : List WF} {xs : List PX} (h : XL w S fs xs) {k : Nat} (hk : k < fs.length) : ∃ f x, fs[k]? = some f ∧ xs[k]? = some x ∧ XIs w S f x :=
 ⟨fs[k], xs[k]'(by have := h.1; omega), by simp [hk], by have := h.1; simp [show k < xs.length by omega], h.2 k _ _ (by simp [hk]) (by have := h.1; simp [show k < xs.length by omega])⟩
theorem take_fold {α β : Type} {f : β → α → β} {b : β} {xs : List α} {k : Nat} {x : α} (h : xs[k]? = some x) : (xs.take (k + 1)).foldl f b = f ((xs.take k).foldl f b) x := by
 rw [List.take_add_one, h]; simp [List.foldl_append]
theorem FRow.below {w w' : World} {a : Option Addr} {fs : List WF} (h : FRow w a fs) (hb : Below w.heap.size w w') : FRow w' a fs := by
 rcases h with h | ⟨b, off, rfl, hc⟩
 ·exact .inl h
 ·exact .inr ⟨b, off, rfl, fun i f hi => (hc i f hi).below hb⟩
theorem XL.below {w w' : World} {S : PS} {fs : List WF} {xs : List PX} (h : XL w S fs xs) (hb : Below w.heap.size w w') : XL w' S fs xs := ⟨h.1, fun i f x hf hx => (h.2 i f x hf hx).below hb⟩
theorem checkAllW_ok (S : PS) (sf : SF) (w : World) (hs : SIs w S sf) (hok : S.ok) (a : Option Addr) (c m : Nat) (fs : List WF) (xs : List PX) (hr : FRow w a fs) (hx : XL w S fs xs) (hm : fs.length = m) (hmx : m ≤ 9223372036854775807) :
  Calls Tryz.prog 63 #[sf.val, .slice a m c] w (fun e w' => e = .returned (.int .i64 0) ∧ Below w.heap.size w w') := by
 refine enterF (args := [sf.val, .slice a m c]) Tryz.func63 rfl Tryz.ntmps63 rfl ?_
 have hS := St.start w
 refine seqF (regF ?_)
 refine op_box (cs := [_, _, _]) hS rfl rfl rfl ?_
 clear hS; intro B1 W1 hS
 refine op_assign rfl rfl ?_
 refine endF (XF.thenN ?_)
 refine seqF ?_
 refine seqF (regF ?_)
 refine op_loadA (vs := [_, _, _]) Tryz.isAgg25 Tryz.sizeOf25 rfl (CellsAt.own (j := 0) (m := 3) (hS.at_ 0 rfl) rfl) rfl ?_
 refine op_call (vs := [_]) hS goes_46 rfl (spaceA_ok (hs.below hS.below) hok) rfl ?_
 rintro e W2 ⟨rfl, hb⟩
 refine ⟨_, rfl, hb, fun hS' => ?_⟩
 clear hS; have hS := hS'; clear hS' hb
 refine op_assign rfl rfl ?_
 refine endF (XF.thenN ?_)
 refine seqF (regF ?_)
 refine op_move rfl rfl ?_
 refine op_neq rfl rfl rfl ?_
 refine endF (XF.thenN ?_)
 refine condF rfl (fun hc => absurd (of_decide_eq_true hc) (by omega)) (fun hc => ?_)
 have hc := of_decide_eq_false hc
 refine skipF ?_
 refine XF.thenN ?_
 refine seqF ?_
 refine seqF (regF ?_)
 refine op_move rfl rfl ?_
 refine op_len Tryz.underlying46 rfl rfl ?_
 refine op_move rfl rfl ?_
 refine endF (XF.thenN ?_)
 refine blockF ?_
 refine loopF (fun q l W => ∃ k : Nat, k ≤ m ∧ q = m - k ∧ l = [(2, .pointer (some ⟨B1, 0, none⟩)), (13, .slice a m c), (14, .int .i64 (m : Int)), (15, .int .i64 (k : Int))] ∧ St w [(B1, [.int .i64 sf.tag, .int .i64 sf.dim, .slice sf.a sf.len sf.cap], 25)] [] [] W) (m - 0) ([(2, _), (13, _), (14, _), (15, _)]) ⟨rfl, rfl, rfl, rfl, trivial⟩ (⟨0, Nat.zero_le _, rfl, rfl, hS.clear⟩) ?_
 clear hS
 rintro q l W ⟨k, hkm, rfl, rfl, hS⟩
 refine seqF (regF ?_)
 refine op_lss rfl rfl rfl ?_
 refine endF (XF.thenN ?_)
 refine seqF ?_
 refine condF rfl (fun hc => ?_) (fun hc => ?_)
 ·have hc16 := of_decide_eq_true hc; clear hc
  have hk : k < m := by omega
  obtain ⟨f, x, hf, hxk, hxx⟩ := hx.at_ (k := k) (by omega)
  obtain ⟨b, off, rfl, h6⟩ := hr.at_ hf
  have k1 := CellsAt.agree hS.agree (Nat.zero_le _) h6.cells
  refine skipF ?_
  refine XF.thenN ?_
  refine seqF ?_
  refine blockF ?_
  refine seqF (regF ?_)
  refine op_indexA  Tryz.underlying46 Tryz.sizeOf48 rfl rfl rfl (by omega) rfl rfl ?_
  refine op_loadA (vs := [_, _, _, _, _, _]) Tryz.isAgg48 Tryz.sizeOf48 rfl (by assumption) rfl ?_
  refine op_alloc (cs := [_, _, _, _, _, _]) hS Tryz.zeroValue48 rfl rfl ?_
  clear hS; intro B3 W3 hS
  refine op_storeA (i := 0) (vs := [_, _, _, _, _, _]) (cs' := [_, _, _, _, _, _]) (O' := [_, _]) hS Tryz.sizeOf48 rfl rfl rfl rfl rfl rfl rfl ?_
  clear hS; intro W4 hS
  refine endF (XF.thenN ?_)
  refine seqF (regF ?_)
  refine op_loadA (vs := [_, _, _]) Tryz.isAgg25 Tryz.sizeOf25 rfl (CellsAt.own (j := 0) (m := 3) (hS.at_ 1 rfl) rfl) rfl ?_
  refine op_loadA (vs := [_, _, _, _, _, _]) Tryz.isAgg48 Tryz.sizeOf48 rfl (CellsAt.own (j := 0) (m := 6) (hS.at_ 0 rfl) rfl) rfl ?_
  refine op_call (vs := [_, _]) hS goes_78 rfl (isA_ok (hs.below hS.below) hok (hxx.below hS.below)) rfl ?_
  rintro e W5 ⟨rfl, hb⟩
  refine ⟨_, rfl, hb, fun hS' => ?_⟩
  clear hS; have hS := hS'; clear hS' hb
  refine op_not rfl rfl ?_
  refine endF (XF.thenN ?_)
  refine condN rfl ?_
  refine skipF ?_
  refine XF.blkN ?_
  refine XF.thenN ?_
  refine regF ?_
  refine op_add rfl rfl (IntWalk.i64_in _ (by omega)) rfl ?_
  refine op_move rfl rfl ?_
  refine endF ?_
  exact XF.round (m - (k + 1)) [(2, _), (13, _), (14, _), (15, _)] (by omega) ⟨rfl, rfl, rfl, rfl, trivial⟩ ⟨k + 1, by omega, rfl, rfl, hS.tail.clear⟩
 ·have hc16 := of_decide_eq_false hc; clear hc
  refine exitF ?_
  refine XF.thenX ?_
  refine XF.thenX ?_
  refine XF.blkX ?_
  refine XF.thenN ?_
  refine seqF (regF ?_)
  refine op_assign rfl rfl ?_
  refine endF (XF.thenN ?_)
  refine retF ?_
  refine XF.res (res1 Tryz.results63 rfl) ?_
  exact ⟨rfl, hS.below⟩
end Go.Proofs.YtfkbkekgnoanaaaGreatDoor
namespace Go.Proofs.YtfkbkekgnoanaaaGreatDoor
open Go Go.RowKit
theorem XL.tail {w : World} {S : PS} {f : WF} {fs : List WF} {x : PX} {xs : List PX} (h : XL w S (f :: fs) (x :: xs)) : XL w S fs xs :=
 ⟨by have := h.1; simpa using this, fun i g y hg hy => h.2 (i + 1) g y (by simpa using hg) (by simpa using hy)⟩
theorem FRow.tail {w : World} {a a' : Option Addr} {f : WF} {fs : List WF} {m c : Nat} (h : FRow w a (f :: fs)) (hm : fs.length + 1 = m) (hmc : m ≤ c) (h1 : c = 1 → a' = a) (h2 : c ≠ 1 → a' = a.map (·.add (1 * 6))) : FRow w a' fs := by
 by_cases hc : c = 1
 ·exact .inl (List.eq_nil_of_length_eq_zero (by omega))
 ·rcases h with h | ⟨b, off, rfl, hh⟩
  ·cases h
  ·refine .inr ⟨b, off + 6, by rw [h2 hc, Option.map_some, Addr.add_lit], fun i g hg => ?_⟩
   have := hh (i + 1) g (by simpa using hg)
   rwa [show off + (i + 1) * 6 = off + 6 + i * 6 by omega] at this
theorem ExtendW_ok (S : PS) (sf : SF) (w : World) (hs : SIs w S sf) (hok : S.ok) (a : Option Addr) (c m : Nat) (f0 : WF) (x0 : PX) (ft : List WF) (xt : List PX) (hr : FRow w a (f0 :: ft)) (hx : XL w S (f0 :: ft) (x0 :: xt)) (hm : ft.length + 1 = m) (hmc : m ≤ c) (hmx : m ≤ 9223372036854775807) (ht : Tabs w) :
  Calls Tryz.prog 55 #[sf.val, .slice a m c] w (WRet2 S (xt.foldl (extX S) x0) 0 w) := by
 refine enterF (args := [sf.val, .slice a m c]) Tryz.func55 rfl Tryz.ntmps55 rfl ?_
 have hS := St.start w
 refine seqF (regF ?_)
 refine op_box (cs := [_, _, _]) hS rfl rfl rfl ?_
 clear hS; intro B1 W1 hS
 refine op_alloc (cs := [_, _, _, _, _, _]) hS Tryz.zeroValue48 rfl rfl ?_
 clear hS; intro B2 W2 hS
 refine op_assign rfl rfl ?_
 refine endF (XF.thenN ?_)
 refine seqF ?_
 refine seqF (regF ?_)
 refine op_loadA (vs := [_, _, _]) Tryz.isAgg25 Tryz.sizeOf25 rfl (CellsAt.own (j := 0) (m := 3) (hS.at_ 1 rfl) rfl) rfl ?_
 refine op_move rfl rfl ?_
 refine op_call (vs := [_, _]) hS goes_63 rfl (checkAllW_ok S sf _ (hs.below hS.below) hok a c m _ _ (hr.below hS.below) (hx.below hS.below) (by simpa using hm) hmx) rfl ?_
 rintro e W3 ⟨rfl, hb⟩
 refine ⟨_, rfl, hb, fun hS' => ?_⟩
 clear hS; have hS := hS'; clear hS' hb
 refine op_assign rfl rfl ?_
 refine endF (XF.thenN ?_)
 refine seqF (regF ?_)
 refine op_move rfl rfl ?_
 refine op_neq rfl rfl rfl ?_
 refine endF (XF.thenN ?_)
 refine condF rfl (fun hc => absurd (of_decide_eq_true hc) (by omega)) (fun hc => ?_)
 have hc := of_decide_eq_false hc
 refine skipF ?_
 refine XF.thenN ?_
 refine seqF ?_
 refine seqF (regF ?_)
 refine op_move rfl rfl ?_
 refine op_len Tryz.underlying46 rfl rfl ?_
 refine op_eql rfl rfl rfl ?_
 refine endF (XF.thenN ?_)
 refine condF rfl (fun hc => absurd (of_decide_eq_true hc) (by omega)) (fun hc => ?_)
 have hc := of_decide_eq_false hc
 refine skipF ?_
 refine XF.thenN ?_
 refine seqF ?_
 obtain ⟨b, off, rfl, h6⟩ := hr.at_ (i := 0) rfl
 have k0 : CellsAt W3 b off f0.six := CellsAt.agree hS.agree (Nat.zero_le _) (show W6 w b off f0 by simpa using h6).cells
 have hsz := hS.below.size
 refine regF ?_
 refine op_move rfl rfl ?_
 refine op_indexA (j := 0) Tryz.underlying46 Tryz.sizeOf48 rfl rfl rfl (by omega) (Nat.add_zero _) rfl ?_
 refine op_loadA (vs := [_, _, _, _, _, _]) Tryz.isAgg48 Tryz.sizeOf48 rfl (by assumption) rfl ?_
 refine op_call (vs := [_]) hS goes_69 rfl (copied_ok ((hx.2 0 f0 x0 rfl rfl).below hS.below)) rfl ?_
 rintro e W4 ⟨f1, rfl, hn, hb⟩
 refine ⟨_, rfl, hb, fun hS' => ?_⟩
 clear hS; have hS := hS'; clear hS'
 refine op_alloc (cs := [_, _, _, _, _, _]) hS Tryz.zeroValue48 rfl rfl ?_
 clear hS; intro B5 W5 hS
 refine op_storeA (i := 0) (vs := [_, _, _, _, _, _]) (cs' := [_, _, _, _, _, _]) (O' := [_, _, _]) hS Tryz.sizeOf48 rfl rfl rfl rfl rfl rfl rfl ?_
 clear hS; intro W6 hS
 refine endF (XF.thenN ?_)
 refine seqF ?_
 refine seqF (regF ?_)
 refine op_move rfl rfl ?_
 refine op_sliceFrom (j := 1) Tryz.underlying46 Tryz.sizeOf48 rfl rfl rfl (by omega) rfl ?_
 intro ad7 hadE7 hadN7
 have hrt := FRow.tail hr hm hmc hadE7 hadN7
 have hxt := XL.tail hx
 clear hadE7 hadN7
 refine op_len Tryz.underlying46 rfl rfl ?_
 refine op_move rfl rfl ?_
 refine endF (XF.thenN ?_)
 refine blockF ?_
 refine loopF (fun q l W => ∃ (k : Nat) (g : WF) (lo : Nat) (A : World), k ≤ m - 1 ∧ q = m - 1 - k ∧ l = [(2, .pointer (some ⟨B1, 0, none⟩)), (4, .pointer (some ⟨B2, 0, none⟩)), (7, .pointer (some ⟨B5, 0, none⟩)), (27, .slice ad7 (m - 1) (c - 1)), (28, .int .i64 ((m - 1 : Nat) : Int)), (29, .int .i64 (k : Int))] ∧ w.heap.size ≤ lo ∧ XNew lo A S g ((xt.take k).foldl (extX S) x0) ∧ St w [(B5, g.six, 48), (B2, [.bool false, .int .i64 0, .int .u64 0, .slice none 0 0, .slice none 0 0, .slice none 0 0], 48), (B1, [.int .i64 sf.tag, .int .i64 sf.dim, .slice sf.a sf.len sf.cap], 25)] [] [(lo, A)] W) (m - 1 - 0) ([(2, _), (4, _), (7, _), (27, _), (28, _), (29, _)]) ⟨rfl, rfl, rfl, rfl, rfl, rfl, trivial⟩ (⟨0, f1, _, _, Nat.zero_le _, rfl, rfl, hsz, hn, hS.keep [_] (fun q hq => by simp at hq; subst hq; exact List.mem_cons_self)⟩) ?_
 clear hS
 rintro q l W ⟨k, g, lo, A, hkm, rfl, rfl, hlo, hn0, hS⟩
 refine seqF (regF ?_)
 refine op_lss rfl rfl rfl ?_
 refine endF (XF.thenN ?_)
 refine seqF ?_
 refine condF rfl (fun hc => ?_) (fun hc => ?_)
 ·have hc30 := of_decide_eq_true hc; clear hc
  have hk : k < m - 1 := by omega
  obtain ⟨f, x, hf, hxk, hxx⟩ := hxt.at_ (k := k) (by omega)
  obtain ⟨b2, off2, rfl, h62⟩ := hrt.at_ hf
  have k1 := CellsAt.agree hS.agree (Nat.zero_le _) h62.cells
  refine skipF ?_
  refine XF.thenN ?_
  refine seqF ?_
  refine blockF ?_
  refine seqF (regF ?_)
  refine op_indexA  Tryz.underlying46 Tryz.sizeOf48 rfl rfl rfl (by omega) rfl rfl ?_
  refine op_loadA (vs := [_, _, _, _, _, _]) Tryz.isAgg48 Tryz.sizeOf48 rfl (by assumption) rfl ?_
  refine op_alloc (cs := [_, _, _, _, _, _]) hS Tryz.zeroValue48 rfl rfl ?_
  clear hS; intro B8 W8 hS
  refine op_storeA (i := 0) (vs := [_, _, _, _, _, _]) (cs' := [_, _, _, _, _, _]) (O' := [_, _, _, _]) hS Tryz.sizeOf48 rfl rfl rfl rfl rfl rfl rfl ?_
  clear hS; intro W9 hS
  refine endF (XF.thenN ?_)
  refine regF ?_
  refine op_loadA (vs := [_, _, _]) Tryz.isAgg25 Tryz.sizeOf25 rfl (CellsAt.own (j := 0) (m := 3) (hS.at_ 3 rfl) rfl) rfl ?_
  refine op_loadA (vs := [_, _, _, _, _, _]) Tryz.isAgg48 Tryz.sizeOf48 rfl (CellsAt.own (j := 0) (m := 6) (hS.at_ 1 rfl) rfl) rfl ?_
  refine op_loadA (vs := [_, _, _, _, _, _]) Tryz.isAgg48 Tryz.sizeOf48 rfl (CellsAt.own (j := 0) (m := 6) (hS.at_ 0 rfl) rfl) rfl ?_
  have hsz2 := hS.below.size
  refine op_call (vs := [_, _, _]) hS goes_70 rfl (wExt_is (hs.below hS.below) hok ((hn0.agree (hS.since 0 rfl)).is) (hxx.below hS.below) (ht.below hS.below)) rfl ?_
  rintro e W10 ⟨f2, rfl, hn2, hb⟩
  refine ⟨_, rfl, hb, fun hS' => ?_⟩
  clear hS; have hS := hS'; clear hS'
  refine op_storeA (i := 1) (vs := [_, _, _, _, _, _]) (cs' := [_, _, _, _, _, _]) (O' := [_, _, _, _]) hS Tryz.sizeOf48 rfl rfl rfl rfl rfl rfl rfl ?_
  clear hS; intro W11 hS
  refine endF ?_
  refine XF.blkN ?_
  refine XF.thenN ?_
  refine regF ?_
  refine op_add rfl rfl (IntWalk.i64_in _ (by omega)) rfl ?_
  refine op_move rfl rfl ?_
  refine endF ?_
  exact XF.round (m - 1 - (k + 1)) [(2, _), (4, _), (7, _), (27, _), (28, _), (29, _)] (by omega) ⟨rfl, rfl, rfl, rfl, rfl, rfl, trivial⟩ ⟨k + 1, f2, _, _, by omega, rfl, rfl, hsz2, by rw [take_fold hxk]; exact hn2, hS.tail.keep [_] (fun q hq => by simp at hq; subst hq; exact List.mem_cons_self)⟩
 ·have hc30 := of_decide_eq_false hc; clear hc
  refine exitF ?_
  refine XF.thenX ?_
  refine XF.thenX ?_
  refine XF.blkX ?_
  refine XF.thenN ?_
  refine seqF (regF ?_)
  refine op_loadA (vs := [_, _, _, _, _, _]) Tryz.isAgg48 Tryz.sizeOf48 rfl (CellsAt.own (j := 0) (m := 6) (hS.at_ 0 rfl) rfl) rfl ?_
  refine op_storeA (i := 1) (vs := [_, _, _, _, _, _]) (cs' := [_, _, _, _, _, _]) (O' := [_, _, _]) hS Tryz.sizeOf48 rfl rfl rfl rfl rfl rfl rfl ?_
  clear hS; intro W12 hS
  refine op_assign rfl rfl ?_
  refine endF (XF.thenN ?_)
  refine retF ?_
  refine XF.res (resCT (vs := [_, _, _, _, _, _]) Tryz.results55 Tryz.isAgg48 Tryz.sizeOf48 rfl (CellsAt.own (j := 0) (m := 6) (hS.at_ 1 rfl) rfl) rfl) ?_
  have e1 : xt.take k = xt := List.take_of_length_le (by have := hxt.1; omega)
  rw [e1] at hn0
  exact ⟨g, rfl, (hn0.agree (hS.since 0 rfl)).mono hlo, hS.below⟩
theorem OneW_ok (S : PS) (sf : SF) (w : World) (hs : SIs w S sf) (hok : S.ok) :
  Calls Tryz.prog 54 #[sf.val] w (WRet2 S (oneX S) 0 w) := by
 refine enterF (args := [sf.val]) Tryz.func54 rfl Tryz.ntmps54 rfl ?_
 have hS := St.start w
 refine seqF (regF ?_)
 refine op_box (cs := [_, _, _]) hS rfl rfl rfl ?_
 clear hS; intro B1 W1 hS
 refine op_alloc (cs := [_, _, _, _, _, _]) hS Tryz.zeroValue48 rfl rfl ?_
 clear hS; intro B2 W2 hS
 refine op_assign rfl rfl ?_
 refine endF (XF.thenN ?_)
 refine seqF ?_
 refine seqF (regF ?_)
 refine op_loadA (vs := [_, _, _]) Tryz.isAgg25 Tryz.sizeOf25 rfl (CellsAt.own (j := 0) (m := 3) (hS.at_ 1 rfl) rfl) rfl ?_
 refine op_call (vs := [_]) hS goes_46 rfl (spaceA_ok (hs.below hS.below) hok) rfl ?_
 rintro e W3 ⟨rfl, hb⟩
 refine ⟨_, rfl, hb, fun hS' => ?_⟩
 clear hS; have hS := hS'; clear hS' hb
 refine op_assign rfl rfl ?_
 refine endF (XF.thenN ?_)
 refine seqF (regF ?_)
 refine op_move rfl rfl ?_
 refine op_neq rfl rfl rfl ?_
 refine endF (XF.thenN ?_)
 refine condF rfl (fun hc => absurd (of_decide_eq_true hc) (by omega)) (fun hc => ?_)
 have hc := of_decide_eq_false hc
 refine skipF ?_
 refine XF.thenN ?_
 refine seqF (regF ?_)
 refine op_loadA (vs := [_, _, _]) Tryz.isAgg25 Tryz.sizeOf25 rfl (CellsAt.own (j := 0) (m := 3) (hS.at_ 1 rfl) rfl) rfl ?_
 have hsz := hS.below.size
 refine op_call (vs := [_]) hS goes_68 rfl (oneA_ok (hs.below hS.below) hok) rfl ?_
 rintro e W4 ⟨f, rfl, hn, hb⟩
 refine ⟨_, rfl, hb, fun hS' => ?_⟩
 clear hS; have hS := hS'; clear hS'
 refine op_storeA (i := 0) (vs := [_, _, _, _, _, _]) (cs' := [_, _, _, _, _, _]) (O' := [_, _]) hS Tryz.sizeOf48 rfl rfl rfl rfl rfl rfl rfl ?_
 clear hS; intro W5 hS
 refine op_assign rfl rfl ?_
 refine endF (XF.thenN ?_)
 refine retF ?_
 refine XF.res (resCT (vs := [_, _, _, _, _, _]) Tryz.results54 Tryz.isAgg48 Tryz.sizeOf48 rfl (CellsAt.own (j := 0) (m := 6) (hS.at_ 0 rfl) rfl) rfl) ?_
 exact ⟨f, rfl, (hn.agree (hS.since 0 rfl)).mono hsz, hS.below⟩
theorem ZeroW_ok (S : PS) (sf : SF) (w : World) (hs : SIs w S sf) (hok : S.ok) :
  Calls Tryz.prog 53 #[sf.val] w (WRet2 S (zeroX S) 0 w) := by
 refine enterF (args := [sf.val]) Tryz.func53 rfl Tryz.ntmps53 rfl ?_
 have hS := St.start w
 refine seqF (regF ?_)
 refine op_box (cs := [_, _, _]) hS rfl rfl rfl ?_
 clear hS; intro B1 W1 hS
 refine op_alloc (cs := [_, _, _, _, _, _]) hS Tryz.zeroValue48 rfl rfl ?_
 clear hS; intro B2 W2 hS
 refine op_assign rfl rfl ?_
 refine endF (XF.thenN ?_)
 refine seqF ?_
 refine seqF (regF ?_)
 refine op_loadA (vs := [_, _, _]) Tryz.isAgg25 Tryz.sizeOf25 rfl (CellsAt.own (j := 0) (m := 3) (hS.at_ 1 rfl) rfl) rfl ?_
 refine op_call (vs := [_]) hS goes_46 rfl (spaceA_ok (hs.below hS.below) hok) rfl ?_
 rintro e W3 ⟨rfl, hb⟩
 refine ⟨_, rfl, hb, fun hS' => ?_⟩
 clear hS; have hS := hS'; clear hS' hb
 refine op_assign rfl rfl ?_
 refine endF (XF.thenN ?_)
 refine seqF (regF ?_)
 refine op_move rfl rfl ?_
 refine op_neq rfl rfl rfl ?_
 refine endF (XF.thenN ?_)
 refine condF rfl (fun hc => absurd (of_decide_eq_true hc) (by omega)) (fun hc => ?_)
 have hc := of_decide_eq_false hc
 refine skipF ?_
 refine XF.thenN ?_
 refine seqF (regF ?_)
 refine op_loadA (vs := [_, _, _]) Tryz.isAgg25 Tryz.sizeOf25 rfl (CellsAt.own (j := 0) (m := 3) (hS.at_ 1 rfl) rfl) rfl ?_
 have hsz := hS.below.size
 refine op_call (vs := [_]) hS goes_67 rfl (zeroA_ok (hs.below hS.below) hok) rfl ?_
 rintro e W4 ⟨f, rfl, hn, hb⟩
 refine ⟨_, rfl, hb, fun hS' => ?_⟩
 clear hS; have hS := hS'; clear hS'
 refine op_storeA (i := 0) (vs := [_, _, _, _, _, _]) (cs' := [_, _, _, _, _, _]) (O' := [_, _]) hS Tryz.sizeOf48 rfl rfl rfl rfl rfl rfl rfl ?_
 clear hS; intro W5 hS
 refine op_assign rfl rfl ?_
 refine endF (XF.thenN ?_)
 refine retF ?_
 refine XF.res (resCT (vs := [_, _, _, _, _, _]) Tryz.results53 Tryz.isAgg48 Tryz.sizeOf48 rfl (CellsAt.own (j := 0) (m := 6) (hS.at_ 0 rfl) rfl) rfl) ?_
 exact ⟨f, rfl, (hn.agree (hS.since 0 rfl)).mono hsz, hS.below⟩
end Go.Proofs.YtfkbkekgnoanaaaGreatDoor
namespace Go.Proofs.YtfkbkekgnoanaaaGreatDoor
open Go Go.RowKit
def smN : Nat → WV → Bool
 | 0, _ => false
 | k + 1, .mk f ps => decide (f.rl ≤ 70) && (decide (f.cl ≤ 70) && (decide (f.pl ≤ 3) && ps.all (smN k)))
end Go.Proofs.YtfkbkekgnoanaaaGreatDoor
namespace Go.Proofs.YtfkbkekgnoanaaaGreatDoor
open Go Go.RowKit
theorem r_false {r : Bool} {C : Prop} (hr : r = true ↔ C) (h : ¬ C) : false = r := by
 cases r
 ·rfl
 ·exact absurd (hr.1 rfl) h
theorem r_true {r : Bool} {C : Prop} (hr : r = true ↔ C) (h : C) : true = r := (hr.2 h).symm
theorem sameW_one (az : Bool) (ac : Int) (ag : Nat) (ara : Option Addr) (arl arc : Nat) (arows : List Nat) (aca : Option Addr) (acl acc : Nat) (acells : List Cl) (apa : Option Addr) (apc : Nat)(bz : Bool) (bc : Int) (bg : Nat) (bra : Option Addr) (brl brc : Nat) (brows : List Nat) (bca : Option Addr) (bcl bcc : Nat) (bcells : List Cl) (bpa : Option Addr) (bpc : Nat)(w : World) (hra : VRow w ara (u64s arows)) (hla : arows.length = arl) (hma : arl ≤ 100) (hca : CRow w aca acells) (hka : acells.length = acl) (hna : acl ≤ 100)(hrb : VRow w bra (u64s brows)) (hlb : brows.length = brl) (hmb : brl ≤ 100) (hcb : CRow w bca bcells) (hkb : bcells.length = bcl) (hnb : bcl ≤ 100)(r : Bool) (hr : r = true ↔ (az = bz ∧ ac = bc ∧ ag = bg ∧ arows = brows ∧ acells = bcells)) :
  Calls Tryz.prog 18 #[.agg #[.bool az, .int .i64 ac, .int .u64 (ag : Int), .slice ara arl arc, .slice aca acl acc, .slice apa 0 apc], .agg #[.bool bz, .int .i64 bc, .int .u64 (bg : Int), .slice bra brl brc, .slice bca bcl bcc, .slice bpa 0 bpc]] w (fun e w' => e = .returned (.bool r) ∧ Below w.heap.size w w') := by
 refine enterF (args := [.agg #[.bool az, .int .i64 ac, .int .u64 (ag : Int), .slice ara arl arc, .slice aca acl acc, .slice apa 0 apc], .agg #[.bool bz, .int .i64 bc, .int .u64 (bg : Int), .slice bra brl brc, .slice bca bcl bcc, .slice bpa 0 bpc]]) Tryz.func18 rfl Tryz.ntmps18 rfl ?_
 have hS := St.start w
 refine seqF (regF ?_)
 refine op_box (cs := [_, _, _, _, _, _]) hS rfl rfl rfl ?_
 clear hS; intro B1 W1 hS
 refine op_box (cs := [_, _, _, _, _, _]) hS rfl rfl rfl ?_
 clear hS; intro B2 W2 hS
 refine op_assign rfl rfl ?_
 refine endF (XF.thenN ?_)
 refine seqF ?_
 refine seqF (regF ?_)
 refine op_field (o' := 0) fa_48_0 rfl rfl rfl ?_
 refine op_load Tryz.isAgg4 rfl (cell_own (hS.at_ 1 rfl) rfl) rfl ?_
 refine op_field (o' := 0) fa_48_0 rfl rfl rfl ?_
 refine op_load Tryz.isAgg4 rfl (cell_own (hS.at_ 0 rfl) rfl) rfl ?_
 refine op_neqB Tryz.underlying4 rfl rfl rfl ?_
 refine op_move rfl rfl ?_
 refine op_cases (d := 12) rfl (fun hc => ?_) (fun hc => ?_)
 ·have hg12 := hc; clear hc
  refine op_notF (d := 12) rfl rfl rfl rfl ?_
  refine op_notF (d := 12) rfl rfl rfl rfl ?_
  refine op_notF (d := 12) rfl rfl rfl rfl ?_
  refine op_notF (d := 12) rfl rfl rfl rfl ?_
  refine op_notF (d := 12) rfl rfl rfl rfl ?_
  refine op_pickT rfl rfl rfl ?_
  refine op_move rfl rfl ?_
  refine op_notF (d := 19) rfl rfl rfl rfl ?_
  refine op_notF (d := 19) rfl rfl rfl rfl ?_
  refine op_notF (d := 19) rfl rfl rfl rfl ?_
  refine op_notF (d := 19) rfl rfl rfl rfl ?_
  refine op_notF (d := 19) rfl rfl rfl rfl ?_
  refine op_notF (d := 19) rfl rfl rfl rfl ?_
  refine op_pickT rfl rfl rfl ?_
  refine op_move rfl rfl ?_
  refine op_notF (d := 27) rfl rfl rfl rfl ?_
  refine op_notF (d := 27) rfl rfl rfl rfl ?_
  refine op_notF (d := 27) rfl rfl rfl rfl ?_
  refine op_notF (d := 27) rfl rfl rfl rfl ?_
  refine op_notF (d := 27) rfl rfl rfl rfl ?_
  refine op_notF (d := 27) rfl rfl rfl rfl ?_
  refine op_notF (d := 27) rfl rfl rfl rfl ?_
  refine op_pickT rfl rfl rfl ?_
  refine op_move rfl rfl ?_
  refine op_notF (d := 36) rfl rfl rfl rfl ?_
  refine op_notF (d := 36) rfl rfl rfl rfl ?_
  refine op_notF (d := 36) rfl rfl rfl rfl ?_
  refine op_notF (d := 36) rfl rfl rfl rfl ?_
  refine op_notF (d := 36) rfl rfl rfl rfl ?_
  refine op_notF (d := 36) rfl rfl rfl rfl ?_
  refine op_notF (d := 36) rfl rfl rfl rfl ?_
  refine op_pickT rfl rfl rfl ?_
  refine endF (XF.thenN ?_)
  refine condT rfl ?_
  refine seqF (regF ?_)
  refine op_assign rfl rfl ?_
  refine endF (XF.thenN ?_)
  refine retF ?_
  refine XF.thenR ?_
  refine XF.res (res1 Tryz.results18 rfl) ?_
  exact ⟨rbool (r_false hr (fun h => by have h1 := h.1; subst h1; simp at hg12)), hS.below⟩
 ·have hg12 := hc; clear hc
  refine op_wantedF (d := 12) rfl rfl ?_
  refine op_field (o' := 1) fa_48_1 rfl rfl rfl ?_
  refine op_wantedF (d := 12) rfl rfl ?_
  refine op_load Tryz.isAgg3 rfl (cell_own (hS.at_ 1 rfl) rfl) rfl ?_
  refine op_wantedF (d := 12) rfl rfl ?_
  refine op_field (o' := 1) fa_48_1 rfl rfl rfl ?_
  refine op_wantedF (d := 12) rfl rfl ?_
  refine op_load Tryz.isAgg3 rfl (cell_own (hS.at_ 0 rfl) rfl) rfl ?_
  refine op_wantedF (d := 12) rfl rfl ?_
  refine op_neq rfl rfl rfl ?_
  refine op_pickF rfl rfl rfl ?_
  refine op_move rfl rfl ?_
  refine op_cases (d := 19) rfl (fun hc => ?_) (fun hc => ?_)
  ·have hg19 := of_decide_eq_true hc; clear hc
   refine op_notF (d := 19) rfl rfl rfl rfl ?_
   refine op_notF (d := 19) rfl rfl rfl rfl ?_
   refine op_notF (d := 19) rfl rfl rfl rfl ?_
   refine op_notF (d := 19) rfl rfl rfl rfl ?_
   refine op_notF (d := 19) rfl rfl rfl rfl ?_
   refine op_notF (d := 19) rfl rfl rfl rfl ?_
   refine op_pickT rfl rfl rfl ?_
   refine op_move rfl rfl ?_
   refine op_notF (d := 27) rfl rfl rfl rfl ?_
   refine op_notF (d := 27) rfl rfl rfl rfl ?_
   refine op_notF (d := 27) rfl rfl rfl rfl ?_
   refine op_notF (d := 27) rfl rfl rfl rfl ?_
   refine op_notF (d := 27) rfl rfl rfl rfl ?_
   refine op_notF (d := 27) rfl rfl rfl rfl ?_
   refine op_notF (d := 27) rfl rfl rfl rfl ?_
   refine op_pickT rfl rfl rfl ?_
   refine op_move rfl rfl ?_
   refine op_notF (d := 36) rfl rfl rfl rfl ?_
   refine op_notF (d := 36) rfl rfl rfl rfl ?_
   refine op_notF (d := 36) rfl rfl rfl rfl ?_
   refine op_notF (d := 36) rfl rfl rfl rfl ?_
   refine op_notF (d := 36) rfl rfl rfl rfl ?_
   refine op_notF (d := 36) rfl rfl rfl rfl ?_
   refine op_notF (d := 36) rfl rfl rfl rfl ?_
   refine op_pickT rfl rfl rfl ?_
   refine endF (XF.thenN ?_)
   refine condT rfl ?_
   refine seqF (regF ?_)
   refine op_assign rfl rfl ?_
   refine endF (XF.thenN ?_)
   refine retF ?_
   refine XF.thenR ?_
   refine XF.res (res1 Tryz.results18 rfl) ?_
   exact ⟨rbool (r_false hr (fun h => hg19 h.2.1)), hS.below⟩
  ·have hg19 := of_decide_eq_false hc; clear hc
   refine op_wantedF (d := 19) rfl rfl ?_
   refine op_field (o' := 2) fa_48_2 rfl rfl rfl ?_
   refine op_wantedF (d := 19) rfl rfl ?_
   refine op_loadA (vs := [_, _]) Tryz.isAgg44 Tryz.sizeOf44 rfl (CellsAt.own (j := 2) (m := 2) (hS.at_ 1 rfl) rfl) rfl ?_
   refine op_wantedF (d := 19) rfl rfl ?_
   refine op_field (o' := 2) fa_48_2 rfl rfl rfl ?_
   refine op_wantedF (d := 19) rfl rfl ?_
   refine op_loadA (vs := [_, _]) Tryz.isAgg44 Tryz.sizeOf44 rfl (CellsAt.own (j := 2) (m := 2) (hS.at_ 0 rfl) rfl) rfl ?_
   refine op_wantedF (d := 19) rfl rfl ?_
   refine op_call (vs := [_, _]) hS goes_42 rfl (sameR_is _ _ _ _ _ _ _ _ _ (by omega) (by omega) (VRow.below hra hS.below) (VRow.below hrb hS.below) _ rfl _ _ hla hlb) rfl ?_
   rintro e W3 ⟨rfl, hb⟩
   refine ⟨_, rfl, hb, fun hS' => ?_⟩
   clear hS; have hS := hS'; clear hS' hb
   refine op_wantedF (d := 19) rfl rfl ?_
   refine op_not rfl rfl ?_
   refine op_pickF rfl rfl rfl ?_
   refine op_move rfl rfl ?_
   refine op_cases (d := 27) rfl (fun hc => ?_) (fun hc => ?_)
   ·have hg27 := hc; clear hc
    refine op_notF (d := 27) rfl rfl rfl rfl ?_
    refine op_notF (d := 27) rfl rfl rfl rfl ?_
    refine op_notF (d := 27) rfl rfl rfl rfl ?_
    refine op_notF (d := 27) rfl rfl rfl rfl ?_
    refine op_notF (d := 27) rfl rfl rfl rfl ?_
    refine op_notF (d := 27) rfl rfl rfl rfl ?_
    refine op_notF (d := 27) rfl rfl rfl rfl ?_
    refine op_pickT rfl rfl rfl ?_
    refine op_move rfl rfl ?_
    refine op_notF (d := 36) rfl rfl rfl rfl ?_
    refine op_notF (d := 36) rfl rfl rfl rfl ?_
    refine op_notF (d := 36) rfl rfl rfl rfl ?_
    refine op_notF (d := 36) rfl rfl rfl rfl ?_
    refine op_notF (d := 36) rfl rfl rfl rfl ?_
    refine op_notF (d := 36) rfl rfl rfl rfl ?_
    refine op_notF (d := 36) rfl rfl rfl rfl ?_
    refine op_pickT rfl rfl rfl ?_
    refine endF (XF.thenN ?_)
    refine condT rfl ?_
    refine seqF (regF ?_)
    refine op_assign rfl rfl ?_
    refine endF (XF.thenN ?_)
    refine retF ?_
    refine XF.thenR ?_
    refine XF.res (res1 Tryz.results18 rfl) ?_
    exact ⟨rbool (r_false hr (fun h => by obtain ⟨_, _, h3, h4, _⟩ := h; subst h3; subst h4; rw [same_self] at hg27; cases hg27)), hS.below⟩
   ·have hg27 := hc; clear hc
    refine op_wantedF (d := 27) rfl rfl ?_
    refine op_field (o' := 4) fa_48_3 rfl rfl rfl ?_
    refine op_wantedF (d := 27) rfl rfl ?_
    refine op_load Tryz.isAgg45 rfl (cell_own (hS.at_ 1 rfl) rfl) rfl ?_
    refine op_wantedF (d := 27) rfl rfl ?_
    refine op_len Tryz.underlying45 rfl rfl ?_
    refine op_wantedF (d := 27) rfl rfl ?_
    refine op_field (o' := 4) fa_48_3 rfl rfl rfl ?_
    refine op_wantedF (d := 27) rfl rfl ?_
    refine op_load Tryz.isAgg45 rfl (cell_own (hS.at_ 0 rfl) rfl) rfl ?_
    refine op_wantedF (d := 27) rfl rfl ?_
    refine op_len Tryz.underlying45 rfl rfl ?_
    refine op_wantedF (d := 27) rfl rfl ?_
    refine op_neq rfl rfl rfl ?_
    refine op_pickF rfl rfl rfl ?_
    refine op_move rfl rfl ?_
    refine op_cases (d := 36) rfl (fun hc => ?_) (fun hc => ?_)
    ·have hg36 := of_decide_eq_true hc; clear hc
     refine op_notF (d := 36) rfl rfl rfl rfl ?_
     refine op_notF (d := 36) rfl rfl rfl rfl ?_
     refine op_notF (d := 36) rfl rfl rfl rfl ?_
     refine op_notF (d := 36) rfl rfl rfl rfl ?_
     refine op_notF (d := 36) rfl rfl rfl rfl ?_
     refine op_notF (d := 36) rfl rfl rfl rfl ?_
     refine op_notF (d := 36) rfl rfl rfl rfl ?_
     refine op_pickT rfl rfl rfl ?_
     refine endF (XF.thenN ?_)
     refine condT rfl ?_
     refine seqF (regF ?_)
     refine op_assign rfl rfl ?_
     refine endF (XF.thenN ?_)
     refine retF ?_
     refine XF.thenR ?_
     refine XF.res (res1 Tryz.results18 rfl) ?_
     exact ⟨rbool (r_false hr (fun h => by have h5 := h.2.2.2.2; subst h5; omega)), hS.below⟩
    ·have hg36 := of_decide_eq_false hc; clear hc
     have hz : az = bz := by simpa using hg12
     have hcc : ac = bc := by omega
     have hff : ag = bg ∧ arows = brows := by simpa [sameB] using hg27
     have hcl : acl = bcl := by omega
     refine op_wantedF (d := 36) rfl rfl ?_
     refine op_field (o' := 5) fa_48_4 rfl rfl rfl ?_
     refine op_wantedF (d := 36) rfl rfl ?_
     refine op_load Tryz.isAgg46 rfl (cell_own (hS.at_ 1 rfl) rfl) rfl ?_
     refine op_wantedF (d := 36) rfl rfl ?_
     refine op_len Tryz.underlying46 rfl rfl ?_
     refine op_wantedF (d := 36) rfl rfl ?_
     refine op_field (o' := 5) fa_48_4 rfl rfl rfl ?_
     refine op_wantedF (d := 36) rfl rfl ?_
     refine op_load Tryz.isAgg46 rfl (cell_own (hS.at_ 0 rfl) rfl) rfl ?_
     refine op_wantedF (d := 36) rfl rfl ?_
     refine op_len Tryz.underlying46 rfl rfl ?_
     refine op_wantedF (d := 36) rfl rfl ?_
     refine op_neq rfl rfl rfl ?_
     refine op_pickF rfl rfl rfl ?_
     refine endF (XF.thenN ?_)
     refine condF rfl (fun hc => absurd (of_decide_eq_true hc) (by omega)) (fun hc => ?_)
     have hc := of_decide_eq_false hc
     refine skipF ?_
     refine XF.thenN ?_
     refine seqF ?_
     refine seqF (regF ?_)
     refine op_assign rfl rfl ?_
     refine endF (XF.thenN ?_)
     refine blockF ?_
     refine loopF (fun q l W => ∃ i : Nat, i ≤ acl ∧ q = acl - i ∧ l = [(2, .pointer (some ⟨B1, 0, none⟩)), (3, .pointer (some ⟨B2, 0, none⟩)), (5, .int .i64 (i : Int))] ∧ acells.take i = bcells.take i ∧ St w [(B2, [.bool bz, .int .i64 bc, .int .u64 (bg : Int), .slice bra brl brc, .slice bca bcl bcc, .slice bpa 0 bpc], 48), (B1, [.bool az, .int .i64 ac, .int .u64 (ag : Int), .slice ara arl arc, .slice aca acl acc, .slice apa 0 apc], 48)] [] [] W) (acl - 0) ([(2, _), (3, _), (5, _)]) ⟨rfl, rfl, rfl, trivial⟩ (⟨0, Nat.zero_le _, rfl, rfl, rfl, hS.clear⟩) ?_
     clear hS
     rintro q l W ⟨i, hi, rfl, rfl, hall, hS⟩
     refine seqF ?_
     refine seqF (regF ?_)
     refine op_move rfl rfl ?_
     refine op_field (o' := 4) fa_48_3 rfl rfl rfl ?_
     refine op_load Tryz.isAgg45 rfl (cell_own (hS.at_ 1 rfl) rfl) rfl ?_
     refine op_len Tryz.underlying45 rfl rfl ?_
     refine op_lss rfl rfl rfl ?_
     refine endF (XF.thenN ?_)
     refine condF rfl (fun hc => ?_) (fun hc => ?_)
     ·have hc49 := of_decide_eq_true hc; clear hc
      have hk : i < acl := by omega
      obtain ⟨b1, o1, x, hx1, hx2, _, x0, x1, x2⟩ := hca.at_ (k := i) (by omega)
      obtain ⟨b2, o2, y, hy1, hy2, _, y0, y1, y2⟩ := hcb.at_ (k := i) (by omega)
      subst hx1; subst hy1
      have k1 : CellsAt W b1 (o1 + i * 3) [.int .u64 (x.f : Int), .int .i64 x.k, .int .i64 x.v] := CellsAt.agree hS.agree (Nat.zero_le _) ⟨x0, x1, x2, trivial⟩
      have k2 : CellsAt W b2 (o2 + i * 3) [.int .u64 (y.f : Int), .int .i64 y.k, .int .i64 y.v] := CellsAt.agree hS.agree (Nat.zero_le _) ⟨y0, y1, y2, trivial⟩
      refine skipF ?_
      refine XF.thenN ?_
      refine seqF ?_
      refine blockF ?_
      refine seqF ?_
      refine regB (m := 11) followsM hS (by kernel_rfl) (by kernel_rfl) rfl ?_
      refine bl_cons 1 rfl (isV _) (stab_isV _) (rgV (li := [(2, _)]) rfl (w_free rfl) ⟨g_fr (by kernel_rfl) rfl, trivial⟩ (fun w hw => rn_field (o' := 4) fa_48_3 rfl rfl) (at_top rfl)) ?_
      refine bl_cons 2 rfl (isV _) (stab_isV _) (rgV (li := [(52, _)]) rfl (w_free rfl) ⟨g_dep 0 (by kernel_rfl) (at_dep rfl rfl rfl), trivial⟩ (fun w hw => rn_load Tryz.isAgg45 rfl ((below_agree hw 0).cell (Nat.zero_le _) (cell_own (hS.at_ 1 rfl) rfl))) (at_top rfl)) ?_
      refine bl_cons 3 rfl (isV _) (stab_isV _) (rgV (li := [(5, _)]) rfl (w_free rfl) ⟨g_fr (by kernel_rfl) rfl, trivial⟩ (fun w hw => rn_move rfl) (at_top rfl)) ?_
      refine bl_cons 4 rfl (isV _) (stab_isV _) (rgV (li := [(53, _), (54, _)]) rfl (w_free rfl) ⟨g_dep 1 (by kernel_rfl) (at_dep rfl rfl rfl), g_dep 2 (by kernel_rfl) (at_dep rfl rfl rfl), trivial⟩ (fun w hw => rn_indexA  Tryz.underlying45 Tryz.sizeOf89 rfl rfl rfl (by omega) rfl) (at_top rfl)) ?_
      refine bl_cons 5 rfl (isV _) (stab_isV _) (rgV (li := [(55, _)]) rfl (w_free rfl) ⟨g_dep 3 (by kernel_rfl) (at_dep rfl rfl rfl), trivial⟩ (fun w hw => rn_loadA (vs := [_, _, _]) Tryz.isAgg89 Tryz.sizeOf89 rfl (CellsAt.agree (below_agree hw 0) (Nat.zero_le _) (by assumption))) (at_top rfl)) ?_
      refine bl_cons 6 rfl (isV _) (stab_isV _) (rgV (li := [(3, _)]) rfl (w_free rfl) ⟨g_fr (by kernel_rfl) rfl, trivial⟩ (fun w hw => rn_field (o' := 4) fa_48_3 rfl rfl) (at_top rfl)) ?_
      refine bl_cons 7 rfl (isV _) (stab_isV _) (rgV (li := [(57, _)]) rfl (w_free rfl) ⟨g_dep 5 (by kernel_rfl) (at_dep rfl rfl rfl), trivial⟩ (fun w hw => rn_load Tryz.isAgg45 rfl ((below_agree hw 0).cell (Nat.zero_le _) (cell_own (hS.at_ 0 rfl) rfl))) (at_top rfl)) ?_
      refine bl_cons 8 rfl (isV _) (stab_isV _) (rgV (li := [(5, _)]) rfl (w_free rfl) ⟨g_fr (by kernel_rfl) rfl, trivial⟩ (fun w hw => rn_move rfl) (at_top rfl)) ?_
      refine bl_cons 9 rfl (isV _) (stab_isV _) (rgV (li := [(58, _), (59, _)]) rfl (w_free rfl) ⟨g_dep 6 (by kernel_rfl) (at_dep rfl rfl rfl), g_dep 7 (by kernel_rfl) (at_dep rfl rfl rfl), trivial⟩ (fun w hw => rn_indexA  Tryz.underlying45 Tryz.sizeOf89 rfl rfl rfl (by omega) rfl) (at_top rfl)) ?_
      refine bl_cons 10 rfl (isV _) (stab_isV _) (rgV (li := [(60, _)]) rfl (w_free rfl) ⟨g_dep 8 (by kernel_rfl) (at_dep rfl rfl rfl), trivial⟩ (fun w hw => rn_loadA (vs := [_, _, _]) Tryz.isAgg89 Tryz.sizeOf89 rfl (CellsAt.agree (below_agree hw 0) (Nat.zero_le _) (by assumption))) (at_top rfl)) ?_
      refine bl_cons 11 rfl (isV _) (stab_isV _) (rgV (li := [(56, _), (61, _)]) rfl (w_free rfl) ⟨g_dep 4 (by kernel_rfl) (at_dep rfl rfl rfl), g_dep 9 (by kernel_rfl) (at_dep rfl rfl rfl), trivial⟩ (fun w hw => rn_binG rfl rfl (run_eqGuard_agg _ _ _ _ _ _ _ (by kernel_rfl)) (neq_is x y _ rfl w)) (at_top rfl)) ?_
      refine bl_nil ?_
      intro W4 hbR hS'
      clear hS; have hS := hS'; clear hS'
      refine fin_v ?_
      refine fin_v ?_
      refine fin_v ?_
      refine fin_v ?_
      refine fin_v ?_
      refine fin_v ?_
      refine fin_v ?_
      refine fin_v ?_
      refine fin_v ?_
      refine fin_v ?_
      refine fin_v ?_
      refine fin_nil ?_
      refine XF.thenN ?_
      refine condF rfl (fun hc => ?_) (fun hc => ?_)
      ·have hc62 := hc; clear hc
       refine seqF (regF ?_)
       refine op_assign rfl rfl ?_
       refine endF (XF.thenN ?_)
       refine retF ?_
       refine XF.blkR ?_
       refine XF.thenR ?_
       refine XF.thenR ?_
       refine XF.blkR ?_
       refine XF.thenR ?_
       refine XF.res (res1 Tryz.results18 rfl) ?_
       exact ⟨rbool (r_false hr (fun h => by have h5 := h.2.2.2.2; subst h5; rw [hx2] at hy2; cases hy2; simp [sameCl] at hc62)), hS.below⟩
      ·have hc62 := hc; clear hc
       have hxy : x = y := by
        obtain ⟨xf, xk, xv⟩ := x
        obtain ⟨yf, yk, yv⟩ := y
        simp [sameCl] at hc62
        simp [hc62]
       subst hxy
       refine skipF ?_
       refine XF.blkN ?_
       refine XF.thenN ?_
       refine regF ?_
       refine op_move rfl rfl ?_
       refine op_add rfl rfl (IntWalk.i64_in _ (by omega)) rfl ?_
       refine op_assign rfl rfl ?_
       refine endF ?_
       exact XF.round (acl - (i + 1)) [(2, _), (3, _), (5, _)] (by omega) ⟨rfl, rfl, rfl, trivial⟩ ⟨i + 1, by omega, rfl, rfl, by rw [List.take_add_one, List.take_add_one, hx2, hy2, hall], hS.clear⟩
     ·have hc49 := of_decide_eq_false hc; clear hc
      have hce : acells = bcells := by
       rw [List.take_of_length_le (by omega), List.take_of_length_le (by omega)] at hall
       exact hall
      refine exitF ?_
      refine XF.thenX ?_
      refine XF.thenX ?_
      refine XF.blkX ?_
      refine XF.thenN ?_
      refine seqF ?_
      refine seqF (regF ?_)
      refine op_assign rfl rfl ?_
      refine endF (XF.thenN ?_)
      refine blockF ?_
      refine loopF (fun q l W => l = [(2, .pointer (some ⟨B1, 0, none⟩)), (3, .pointer (some ⟨B2, 0, none⟩)), (6, .int .i64 0)] ∧ St w [(B2, [.bool bz, .int .i64 bc, .int .u64 (bg : Int), .slice bra brl brc, .slice bca bcl bcc, .slice bpa 0 bpc], 48), (B1, [.bool az, .int .i64 ac, .int .u64 (ag : Int), .slice ara arl arc, .slice aca acl acc, .slice apa 0 apc], 48)] [] [] W) (0) ([(2, _), (3, _), (6, _)]) ⟨rfl, rfl, rfl, trivial⟩ (⟨rfl, hS⟩) ?_
      clear hS
      rintro q l W ⟨rfl, hS⟩
      refine seqF ?_
      refine seqF (regF ?_)
      refine op_move rfl rfl ?_
      refine op_field (o' := 5) fa_48_4 rfl rfl rfl ?_
      refine op_load Tryz.isAgg46 rfl (cell_own (hS.at_ 1 rfl) rfl) rfl ?_
      refine op_len Tryz.underlying46 rfl rfl ?_
      refine op_lss rfl rfl rfl ?_
      refine endF (XF.thenN ?_)
      refine condF rfl (fun hc => absurd (of_decide_eq_true hc) (by omega)) (fun hc => ?_)
      have hc := of_decide_eq_false hc
      refine exitF ?_
      refine XF.thenX ?_
      refine XF.thenX ?_
      refine XF.blkX ?_
      refine XF.thenN ?_
      refine seqF (regF ?_)
      refine op_assign rfl rfl ?_
      refine endF (XF.thenN ?_)
      refine retF ?_
      refine XF.res (res1 Tryz.results18 rfl) ?_
      exact ⟨rbool (r_true hr ⟨hz, hcc, hff.1, hff.2, hce⟩), hS.below⟩
theorem sameW_plain {w : World} {t n : Int} {f g : WF} {x y : PF} (hx : PIs w t n f x) (hy : PIs w t n g y) (r : Bool) (hr : r = true ↔ x = y) : Calls Tryz.prog 18 #[f.val, g.val] w fun e w' => e = .returned (.bool r) ∧ Below w.heap.size w w' := by
 have h1 := hx.rows64 (l := 0); have h2 := hy.rows64 (l := 0)
 have e1 := hx.pl; have e2 := hy.pl
 have a1 := hx.at_; have a2 := hy.at_
 obtain rfl := hx.pf
 obtain rfl := hy.pf
 obtain ⟨az, ac, ag, ara, arl, arc, arows, aca, acl, acc, acells, apa, apl, apc⟩ := f
 obtain ⟨bz, bc, bg, bra, brl, brc, brows, bca, bcl, bcc, bcells, bpa, bpl, bpc⟩ := g
 dsimp only at e1 e2 h1 h2
 subst e1; subst e2
 refine sameW_one _ _ _ _ _ _ _ _ _ _ _ _ _ _ _ _ _ _ _ _ _ _ _ _ _ _ w a1.rows a1.rl (by dsimp only; omega) a1.cells a1.cl (by dsimp only; omega) a2.rows a2.rl (by dsimp only; omega) a2.cells a2.cl (by dsimp only; omega) r ?_
 rw [hr]
 simp [WF.pf]
theorem sameW_two (t n u m : Int) (fra fca : Option Addr) (frc fcc fpc fb fo : Nat) (f1 f2 : WF)(gra gca : Option Addr) (grc gcc gpc gb go : Nat) (g1 g2 : WF)(x1 x2 y1 y2 : PF) (w : World) (hf6 : W6 w fb fo f1) (hf7 : W6 w fb (fo + 6) f2) (hg6 : W6 w gb go g1) (hg7 : W6 w gb (go + 6) g2) (hx1 : PIs w t n f1 x1) (hx2 : PIs w u m f2 x2) (hy1 : PIs w t n g1 y1) (hy2 : PIs w u m g2 y2) (r r1 r2 : Bool) (hr : r = true ↔ (x1 = y1 ∧ x2 = y2)) (hr1 : r1 = true ↔ x1 = y1) (hr2 : r2 = true ↔ x2 = y2) :
  Calls Tryz.prog 18 #[.agg #[.bool false, .int .i64 0, .int .u64 0, .slice fra 0 frc, .slice fca 0 fcc, .slice (some ⟨fb, fo, none⟩) 2 fpc], .agg #[.bool false, .int .i64 0, .int .u64 0, .slice gra 0 grc, .slice gca 0 gcc, .slice (some ⟨gb, go, none⟩) 2 gpc]] w (fun e w' => e = .returned (.bool r) ∧ Below w.heap.size w w') := by
 refine enterF (args := [.agg #[.bool false, .int .i64 0, .int .u64 0, .slice fra 0 frc, .slice fca 0 fcc, .slice (some ⟨fb, fo, none⟩) 2 fpc], .agg #[.bool false, .int .i64 0, .int .u64 0, .slice gra 0 grc, .slice gca 0 gcc, .slice (some ⟨gb, go, none⟩) 2 gpc]]) Tryz.func18 rfl Tryz.ntmps18 rfl ?_
 have hS := St.start w
 refine seqF (regF ?_)
 refine op_box (cs := [_, _, _, _, _, _]) hS rfl rfl rfl ?_
 clear hS; intro B1 W1 hS
 refine op_box (cs := [_, _, _, _, _, _]) hS rfl rfl rfl ?_
 clear hS; intro B2 W2 hS
 refine op_assign rfl rfl ?_
 refine endF (XF.thenN ?_)
 refine seqF ?_
 refine seqF (regF ?_)
 refine op_field (o' := 0) fa_48_0 rfl rfl rfl ?_
 refine op_load Tryz.isAgg4 rfl (cell_own (hS.at_ 1 rfl) rfl) rfl ?_
 refine op_field (o' := 0) fa_48_0 rfl rfl rfl ?_
 refine op_load Tryz.isAgg4 rfl (cell_own (hS.at_ 0 rfl) rfl) rfl ?_
 refine op_neqB Tryz.underlying4 rfl rfl rfl ?_
 refine op_move rfl rfl ?_
 refine op_cases (d := 12) rfl (fun hc => absurd hc (by decide)) (fun hc => ?_)
 skip
 refine op_wantedF (d := 12) rfl rfl ?_
 refine op_field (o' := 1) fa_48_1 rfl rfl rfl ?_
 refine op_wantedF (d := 12) rfl rfl ?_
 refine op_load Tryz.isAgg3 rfl (cell_own (hS.at_ 1 rfl) rfl) rfl ?_
 refine op_wantedF (d := 12) rfl rfl ?_
 refine op_field (o' := 1) fa_48_1 rfl rfl rfl ?_
 refine op_wantedF (d := 12) rfl rfl ?_
 refine op_load Tryz.isAgg3 rfl (cell_own (hS.at_ 0 rfl) rfl) rfl ?_
 refine op_wantedF (d := 12) rfl rfl ?_
 refine op_neq rfl rfl rfl ?_
 refine op_pickF rfl rfl rfl ?_
 refine op_move rfl rfl ?_
 refine op_cases (d := 19) rfl (fun hc => absurd (of_decide_eq_true hc) (by omega)) (fun hc => ?_)
 have hc := of_decide_eq_false hc
 refine op_wantedF (d := 19) rfl rfl ?_
 refine op_field (o' := 2) fa_48_2 rfl rfl rfl ?_
 refine op_wantedF (d := 19) rfl rfl ?_
 refine op_loadA (vs := [_, _]) Tryz.isAgg44 Tryz.sizeOf44 rfl (CellsAt.own (j := 2) (m := 2) (hS.at_ 1 rfl) rfl) rfl ?_
 refine op_wantedF (d := 19) rfl rfl ?_
 refine op_field (o' := 2) fa_48_2 rfl rfl rfl ?_
 refine op_wantedF (d := 19) rfl rfl ?_
 refine op_loadA (vs := [_, _]) Tryz.isAgg44 Tryz.sizeOf44 rfl (CellsAt.own (j := 2) (m := 2) (hS.at_ 0 rfl) rfl) rfl ?_
 refine op_wantedF (d := 19) rfl rfl ?_
 refine op_call (vs := [_, _]) hS goes_42 rfl (sameR_is _ _ _ _ 0 0 [] [] _ (by simp) (by simp) (.inl rfl) (.inl rfl) true rfl _ _ rfl rfl) rfl ?_
 rintro e W3 ⟨rfl, hb⟩
 refine ⟨_, rfl, hb, fun hS' => ?_⟩
 clear hS; have hS := hS'; clear hS' hb
 refine op_wantedF (d := 19) rfl rfl ?_
 refine op_not rfl rfl ?_
 refine op_pickF rfl rfl rfl ?_
 refine op_move rfl rfl ?_
 refine op_cases (d := 27) rfl (fun hc => absurd hc (by decide)) (fun hc => ?_)
 skip
 refine op_wantedF (d := 27) rfl rfl ?_
 refine op_field (o' := 4) fa_48_3 rfl rfl rfl ?_
 refine op_wantedF (d := 27) rfl rfl ?_
 refine op_load Tryz.isAgg45 rfl (cell_own (hS.at_ 1 rfl) rfl) rfl ?_
 refine op_wantedF (d := 27) rfl rfl ?_
 refine op_len Tryz.underlying45 rfl rfl ?_
 refine op_wantedF (d := 27) rfl rfl ?_
 refine op_field (o' := 4) fa_48_3 rfl rfl rfl ?_
 refine op_wantedF (d := 27) rfl rfl ?_
 refine op_load Tryz.isAgg45 rfl (cell_own (hS.at_ 0 rfl) rfl) rfl ?_
 refine op_wantedF (d := 27) rfl rfl ?_
 refine op_len Tryz.underlying45 rfl rfl ?_
 refine op_wantedF (d := 27) rfl rfl ?_
 refine op_neq rfl rfl rfl ?_
 refine op_pickF rfl rfl rfl ?_
 refine op_move rfl rfl ?_
 refine op_cases (d := 36) rfl (fun hc => absurd (of_decide_eq_true hc) (by omega)) (fun hc => ?_)
 have hc := of_decide_eq_false hc
 refine op_wantedF (d := 36) rfl rfl ?_
 refine op_field (o' := 5) fa_48_4 rfl rfl rfl ?_
 refine op_wantedF (d := 36) rfl rfl ?_
 refine op_load Tryz.isAgg46 rfl (cell_own (hS.at_ 1 rfl) rfl) rfl ?_
 refine op_wantedF (d := 36) rfl rfl ?_
 refine op_len Tryz.underlying46 rfl rfl ?_
 refine op_wantedF (d := 36) rfl rfl ?_
 refine op_field (o' := 5) fa_48_4 rfl rfl rfl ?_
 refine op_wantedF (d := 36) rfl rfl ?_
 refine op_load Tryz.isAgg46 rfl (cell_own (hS.at_ 0 rfl) rfl) rfl ?_
 refine op_wantedF (d := 36) rfl rfl ?_
 refine op_len Tryz.underlying46 rfl rfl ?_
 refine op_wantedF (d := 36) rfl rfl ?_
 refine op_neq rfl rfl rfl ?_
 refine op_pickF rfl rfl rfl ?_
 refine endF (XF.thenN ?_)
 refine condF rfl (fun hc => absurd (of_decide_eq_true hc) (by omega)) (fun hc => ?_)
 have hc := of_decide_eq_false hc
 refine skipF ?_
 refine XF.thenN ?_
 refine seqF ?_
 refine seqF (regF ?_)
 refine op_assign rfl rfl ?_
 refine endF (XF.thenN ?_)
 refine blockF ?_
 refine loopF (fun q l W => l = [(2, .pointer (some ⟨B1, 0, none⟩)), (3, .pointer (some ⟨B2, 0, none⟩)), (5, .int .i64 0)] ∧ St w [(B2, [.bool false, .int .i64 0, .int .u64 0, .slice gra 0 grc, .slice gca 0 gcc, .slice (some ⟨gb, go, none⟩) 2 gpc], 48), (B1, [.bool false, .int .i64 0, .int .u64 0, .slice fra 0 frc, .slice fca 0 fcc, .slice (some ⟨fb, fo, none⟩) 2 fpc], 48)] [] [] W) (0) ([(2, _), (3, _), (5, _)]) ⟨rfl, rfl, rfl, trivial⟩ (⟨rfl, hS.clear⟩) ?_
 clear hS
 rintro q l W ⟨rfl, hS⟩
 refine seqF ?_
 refine seqF (regF ?_)
 refine op_move rfl rfl ?_
 refine op_field (o' := 4) fa_48_3 rfl rfl rfl ?_
 refine op_load Tryz.isAgg45 rfl (cell_own (hS.at_ 1 rfl) rfl) rfl ?_
 refine op_len Tryz.underlying45 rfl rfl ?_
 refine op_lss rfl rfl rfl ?_
 refine endF (XF.thenN ?_)
 refine condF rfl (fun hc => absurd (of_decide_eq_true hc) (by omega)) (fun hc => ?_)
 have hc := of_decide_eq_false hc
 refine exitF ?_
 refine XF.thenX ?_
 refine XF.thenX ?_
 refine XF.blkX ?_
 refine XF.thenN ?_
 refine seqF ?_
 refine seqF (regF ?_)
 refine op_assign rfl rfl ?_
 refine endF (XF.thenN ?_)
 refine blockF ?_
 refine loopF (fun q l W => (q = 2 ∧ l = [(2, .pointer (some ⟨B1, 0, none⟩)), (3, .pointer (some ⟨B2, 0, none⟩)), (6, .int .i64 0)] ∧ St w [(B2, [.bool false, .int .i64 0, .int .u64 0, .slice gra 0 grc, .slice gca 0 gcc, .slice (some ⟨gb, go, none⟩) 2 gpc], 48), (B1, [.bool false, .int .i64 0, .int .u64 0, .slice fra 0 frc, .slice fca 0 fcc, .slice (some ⟨fb, fo, none⟩) 2 fpc], 48)] [] [] W) ∨ (q = 1 ∧ l = [(2, .pointer (some ⟨B1, 0, none⟩)), (3, .pointer (some ⟨B2, 0, none⟩)), (6, .int .i64 1)] ∧ r1 = true ∧ St w [(B2, [.bool false, .int .i64 0, .int .u64 0, .slice gra 0 grc, .slice gca 0 gcc, .slice (some ⟨gb, go, none⟩) 2 gpc], 48), (B1, [.bool false, .int .i64 0, .int .u64 0, .slice fra 0 frc, .slice fca 0 fcc, .slice (some ⟨fb, fo, none⟩) 2 fpc], 48)] [] [] W) ∨ (q = 0 ∧ l = [(2, .pointer (some ⟨B1, 0, none⟩)), (3, .pointer (some ⟨B2, 0, none⟩)), (6, .int .i64 2)] ∧ r1 = true ∧ r2 = true ∧ St w [(B2, [.bool false, .int .i64 0, .int .u64 0, .slice gra 0 grc, .slice gca 0 gcc, .slice (some ⟨gb, go, none⟩) 2 gpc], 48), (B1, [.bool false, .int .i64 0, .int .u64 0, .slice fra 0 frc, .slice fca 0 fcc, .slice (some ⟨fb, fo, none⟩) 2 fpc], 48)] [] [] W)) (2) ([(2, _), (3, _), (6, _)]) ⟨rfl, rfl, rfl, trivial⟩ (.inl ⟨rfl, rfl, hS⟩) ?_
 clear hS
 rintro q l W (⟨rfl, rfl, hS⟩ | ⟨rfl, rfl, hq1, hS⟩ | ⟨rfl, rfl, hq1, hq2, hS⟩)
 ·have k1 := CellsAt.agree hS.agree (Nat.zero_le _) hf6.cells
  have k2 := CellsAt.agree hS.agree (Nat.zero_le _) hg6.cells
  refine seqF ?_
  refine seqF (regF ?_)
  refine op_move rfl rfl ?_
  refine op_field (o' := 5) fa_48_4 rfl rfl rfl ?_
  refine op_load Tryz.isAgg46 rfl (cell_own (hS.at_ 1 rfl) rfl) rfl ?_
  refine op_len Tryz.underlying46 rfl rfl ?_
  refine op_lss rfl rfl rfl ?_
  refine endF (XF.thenN ?_)
  refine condF rfl (fun hc => ?_) (fun hc => absurd (of_decide_eq_false hc) (by omega))
  have hc := of_decide_eq_true hc
  refine skipF ?_
  refine XF.thenN ?_
  refine seqF ?_
  refine blockF ?_
  refine seqF ?_
  refine regB (m := 12) followsM hS (by kernel_rfl) (by kernel_rfl) rfl ?_
  refine bl_cons 1 rfl (isV _) (stab_isV _) (rgV (li := [(2, _)]) rfl (w_free rfl) ⟨g_fr (by kernel_rfl) rfl, trivial⟩ (fun w hw => rn_field (o' := 5) fa_48_4 rfl rfl) (at_top rfl)) ?_
  refine bl_cons 2 rfl (isV _) (stab_isV _) (rgV (li := [(70, _)]) rfl (w_free rfl) ⟨g_dep 0 (by kernel_rfl) (at_dep rfl rfl rfl), trivial⟩ (fun w hw => rn_load Tryz.isAgg46 rfl ((below_agree hw 0).cell (Nat.zero_le _) (cell_own (hS.at_ 1 rfl) rfl))) (at_top rfl)) ?_
  refine bl_cons 3 rfl (isV _) (stab_isV _) (rgV (li := [(6, _)]) rfl (w_free rfl) ⟨g_fr (by kernel_rfl) rfl, trivial⟩ (fun w hw => rn_move rfl) (at_top rfl)) ?_
  refine bl_cons 4 rfl (isV _) (stab_isV _) (rgV (li := [(71, _), (72, _)]) rfl (w_free rfl) ⟨g_dep 1 (by kernel_rfl) (at_dep rfl rfl rfl), g_dep 2 (by kernel_rfl) (at_dep rfl rfl rfl), trivial⟩ (fun w hw => rn_indexA (j := 0) Tryz.underlying46 Tryz.sizeOf48 rfl rfl rfl (by omega) (Nat.add_zero _)) (at_top rfl)) ?_
  refine bl_cons 5 rfl (isV _) (stab_isV _) (rgV (li := [(73, _)]) rfl (w_free rfl) ⟨g_dep 3 (by kernel_rfl) (at_dep rfl rfl rfl), trivial⟩ (fun w hw => rn_loadA (vs := [_, _, _, _, _, _]) Tryz.isAgg48 Tryz.sizeOf48 rfl (CellsAt.agree (below_agree hw 0) (Nat.zero_le _) (by assumption))) (at_top rfl)) ?_
  refine bl_cons 6 rfl (isV _) (stab_isV _) (rgV (li := [(3, _)]) rfl (w_free rfl) ⟨g_fr (by kernel_rfl) rfl, trivial⟩ (fun w hw => rn_field (o' := 5) fa_48_4 rfl rfl) (at_top rfl)) ?_
  refine bl_cons 7 rfl (isV _) (stab_isV _) (rgV (li := [(75, _)]) rfl (w_free rfl) ⟨g_dep 5 (by kernel_rfl) (at_dep rfl rfl rfl), trivial⟩ (fun w hw => rn_load Tryz.isAgg46 rfl ((below_agree hw 0).cell (Nat.zero_le _) (cell_own (hS.at_ 0 rfl) rfl))) (at_top rfl)) ?_
  refine bl_cons 8 rfl (isV _) (stab_isV _) (rgV (li := [(6, _)]) rfl (w_free rfl) ⟨g_fr (by kernel_rfl) rfl, trivial⟩ (fun w hw => rn_move rfl) (at_top rfl)) ?_
  refine bl_cons 9 rfl (isV _) (stab_isV _) (rgV (li := [(76, _), (77, _)]) rfl (w_free rfl) ⟨g_dep 6 (by kernel_rfl) (at_dep rfl rfl rfl), g_dep 7 (by kernel_rfl) (at_dep rfl rfl rfl), trivial⟩ (fun w hw => rn_indexA (j := 0) Tryz.underlying46 Tryz.sizeOf48 rfl rfl rfl (by omega) (Nat.add_zero _)) (at_top rfl)) ?_
  refine bl_cons 10 rfl (isV _) (stab_isV _) (rgV (li := [(78, _)]) rfl (w_free rfl) ⟨g_dep 8 (by kernel_rfl) (at_dep rfl rfl rfl), trivial⟩ (fun w hw => rn_loadA (vs := [_, _, _, _, _, _]) Tryz.isAgg48 Tryz.sizeOf48 rfl (CellsAt.agree (below_agree hw 0) (Nat.zero_le _) (by assumption))) (at_top rfl)) ?_
  refine bl_cons 11 rfl (isV (.bool r1)) (stab_isV _) (rg_call [isV _, isV _] rfl goes_18 (w_free rfl) ⟨p_tmp (g_dep 4 (by kernel_rfl) (at_dep rfl rfl rfl)), p_tmp (g_dep 9 (by kernel_rfl) (at_dep rfl rfl rfl)), trivial⟩ (fun vs w' hb hh => by have e := holds_isV (us := [_, _]) hh; subst e; exact (sameW_plain (hx1.below (hS.below.trans (hb.mono hS.below.size))) (hy1.below (hS.below.trans (hb.mono hS.below.size))) r1 hr1).mono fun e w2 h => ⟨.bool r1, h.1, rfl, h.2⟩) (at_top rfl)) ?_
  refine bl_cons 12 rfl (isV _) (stab_isV _) (rgV (li := [(80, _)]) rfl (w_free rfl) ⟨g_dep 10 (by kernel_rfl) (at_dep rfl rfl rfl), trivial⟩ (fun w hw => rn_not rfl) (at_top rfl)) ?_
  refine bl_nil ?_
  intro W4 hbR hS'
  clear hS; have hS := hS'; clear hS'
  refine fin_v ?_
  refine fin_v ?_
  refine fin_v ?_
  refine fin_v ?_
  refine fin_v ?_
  refine fin_v ?_
  refine fin_v ?_
  refine fin_v ?_
  refine fin_v ?_
  refine fin_v ?_
  refine fin_v ?_
  refine fin_v ?_
  refine fin_nil ?_
  refine XF.thenN ?_
  refine condF rfl (fun hc => ?_) (fun hc => ?_)
  ·have hc81 := hc; clear hc
   refine seqF (regF ?_)
   refine op_assign rfl rfl ?_
   refine endF (XF.thenN ?_)
   refine retF ?_
   refine XF.blkR ?_
   refine XF.thenR ?_
   refine XF.thenR ?_
   refine XF.blkR ?_
   refine XF.thenR ?_
   refine XF.res (res1 Tryz.results18 rfl) ?_
   exact ⟨rbool (r_false hr (fun h => by rw [hr1.2 h.1] at hc81; cases hc81)), hS.below⟩
  ·have hc81 := hc; clear hc
   refine skipF ?_
   refine XF.blkN ?_
   refine XF.thenN ?_
   refine regF ?_
   refine op_move rfl rfl ?_
   refine op_add rfl rfl (IntWalk.i64_in _ (by omega)) rfl ?_
   refine op_assign rfl rfl ?_
   refine endF ?_
   exact XF.round 1 [(2, _), (3, _), (6, _)] (by omega) ⟨rfl, rfl, rfl, trivial⟩ (.inr (.inl ⟨rfl, rfl, by simpa using hc81, hS.clear⟩))
 ·have k1 := CellsAt.agree hS.agree (Nat.zero_le _) hf7.cells
  have k2 := CellsAt.agree hS.agree (Nat.zero_le _) hg7.cells
  refine seqF ?_
  refine seqF (regF ?_)
  refine op_move rfl rfl ?_
  refine op_field (o' := 5) fa_48_4 rfl rfl rfl ?_
  refine op_load Tryz.isAgg46 rfl (cell_own (hS.at_ 1 rfl) rfl) rfl ?_
  refine op_len Tryz.underlying46 rfl rfl ?_
  refine op_lss rfl rfl rfl ?_
  refine endF (XF.thenN ?_)
  refine condF rfl (fun hc => ?_) (fun hc => absurd (of_decide_eq_false hc) (by omega))
  have hc := of_decide_eq_true hc
  refine skipF ?_
  refine XF.thenN ?_
  refine seqF ?_
  refine blockF ?_
  refine seqF ?_
  refine regB (m := 12) followsM hS (by kernel_rfl) (by kernel_rfl) rfl ?_
  refine bl_cons 1 rfl (isV _) (stab_isV _) (rgV (li := [(2, _)]) rfl (w_free rfl) ⟨g_fr (by kernel_rfl) rfl, trivial⟩ (fun w hw => rn_field (o' := 5) fa_48_4 rfl rfl) (at_top rfl)) ?_
  refine bl_cons 2 rfl (isV _) (stab_isV _) (rgV (li := [(70, _)]) rfl (w_free rfl) ⟨g_dep 0 (by kernel_rfl) (at_dep rfl rfl rfl), trivial⟩ (fun w hw => rn_load Tryz.isAgg46 rfl ((below_agree hw 0).cell (Nat.zero_le _) (cell_own (hS.at_ 1 rfl) rfl))) (at_top rfl)) ?_
  refine bl_cons 3 rfl (isV _) (stab_isV _) (rgV (li := [(6, _)]) rfl (w_free rfl) ⟨g_fr (by kernel_rfl) rfl, trivial⟩ (fun w hw => rn_move rfl) (at_top rfl)) ?_
  refine bl_cons 4 rfl (isV _) (stab_isV _) (rgV (li := [(71, _), (72, _)]) rfl (w_free rfl) ⟨g_dep 1 (by kernel_rfl) (at_dep rfl rfl rfl), g_dep 2 (by kernel_rfl) (at_dep rfl rfl rfl), trivial⟩ (fun w hw => rn_indexA (j := 1) Tryz.underlying46 Tryz.sizeOf48 rfl rfl rfl (by omega) rfl) (at_top rfl)) ?_
  refine bl_cons 5 rfl (isV _) (stab_isV _) (rgV (li := [(73, _)]) rfl (w_free rfl) ⟨g_dep 3 (by kernel_rfl) (at_dep rfl rfl rfl), trivial⟩ (fun w hw => rn_loadA (vs := [_, _, _, _, _, _]) Tryz.isAgg48 Tryz.sizeOf48 rfl (CellsAt.agree (below_agree hw 0) (Nat.zero_le _) (by assumption))) (at_top rfl)) ?_
  refine bl_cons 6 rfl (isV _) (stab_isV _) (rgV (li := [(3, _)]) rfl (w_free rfl) ⟨g_fr (by kernel_rfl) rfl, trivial⟩ (fun w hw => rn_field (o' := 5) fa_48_4 rfl rfl) (at_top rfl)) ?_
  refine bl_cons 7 rfl (isV _) (stab_isV _) (rgV (li := [(75, _)]) rfl (w_free rfl) ⟨g_dep 5 (by kernel_rfl) (at_dep rfl rfl rfl), trivial⟩ (fun w hw => rn_load Tryz.isAgg46 rfl ((below_agree hw 0).cell (Nat.zero_le _) (cell_own (hS.at_ 0 rfl) rfl))) (at_top rfl)) ?_
  refine bl_cons 8 rfl (isV _) (stab_isV _) (rgV (li := [(6, _)]) rfl (w_free rfl) ⟨g_fr (by kernel_rfl) rfl, trivial⟩ (fun w hw => rn_move rfl) (at_top rfl)) ?_
  refine bl_cons 9 rfl (isV _) (stab_isV _) (rgV (li := [(76, _), (77, _)]) rfl (w_free rfl) ⟨g_dep 6 (by kernel_rfl) (at_dep rfl rfl rfl), g_dep 7 (by kernel_rfl) (at_dep rfl rfl rfl), trivial⟩ (fun w hw => rn_indexA (j := 1) Tryz.underlying46 Tryz.sizeOf48 rfl rfl rfl (by omega) rfl) (at_top rfl)) ?_
  refine bl_cons 10 rfl (isV _) (stab_isV _) (rgV (li := [(78, _)]) rfl (w_free rfl) ⟨g_dep 8 (by kernel_rfl) (at_dep rfl rfl rfl), trivial⟩ (fun w hw => rn_loadA (vs := [_, _, _, _, _, _]) Tryz.isAgg48 Tryz.sizeOf48 rfl (CellsAt.agree (below_agree hw 0) (Nat.zero_le _) (by assumption))) (at_top rfl)) ?_
  refine bl_cons 11 rfl (isV (.bool r2)) (stab_isV _) (rg_call [isV _, isV _] rfl goes_18 (w_free rfl) ⟨p_tmp (g_dep 4 (by kernel_rfl) (at_dep rfl rfl rfl)), p_tmp (g_dep 9 (by kernel_rfl) (at_dep rfl rfl rfl)), trivial⟩ (fun vs w' hb hh => by have e := holds_isV (us := [_, _]) hh; subst e; exact (sameW_plain (hx2.below (hS.below.trans (hb.mono hS.below.size))) (hy2.below (hS.below.trans (hb.mono hS.below.size))) r2 hr2).mono fun e w2 h => ⟨.bool r2, h.1, rfl, h.2⟩) (at_top rfl)) ?_
  refine bl_cons 12 rfl (isV _) (stab_isV _) (rgV (li := [(80, _)]) rfl (w_free rfl) ⟨g_dep 10 (by kernel_rfl) (at_dep rfl rfl rfl), trivial⟩ (fun w hw => rn_not rfl) (at_top rfl)) ?_
  refine bl_nil ?_
  intro W5 hbR hS'
  clear hS; have hS := hS'; clear hS'
  refine fin_v ?_
  refine fin_v ?_
  refine fin_v ?_
  refine fin_v ?_
  refine fin_v ?_
  refine fin_v ?_
  refine fin_v ?_
  refine fin_v ?_
  refine fin_v ?_
  refine fin_v ?_
  refine fin_v ?_
  refine fin_v ?_
  refine fin_nil ?_
  refine XF.thenN ?_
  refine condF rfl (fun hc => ?_) (fun hc => ?_)
  ·have hc81 := hc; clear hc
   refine seqF (regF ?_)
   refine op_assign rfl rfl ?_
   refine endF (XF.thenN ?_)
   refine retF ?_
   refine XF.blkR ?_
   refine XF.thenR ?_
   refine XF.thenR ?_
   refine XF.blkR ?_
   refine XF.thenR ?_
   refine XF.res (res1 Tryz.results18 rfl) ?_
   exact ⟨rbool (r_false hr (fun h => by rw [hr2.2 h.2] at hc81; cases hc81)), hS.below⟩
  ·have hc81 := hc; clear hc
   refine skipF ?_
   refine XF.blkN ?_
   refine XF.thenN ?_
   refine regF ?_
   refine op_move rfl rfl ?_
   refine op_add rfl rfl (IntWalk.i64_in _ (by omega)) rfl ?_
   refine op_assign rfl rfl ?_
   refine endF ?_
   exact XF.round 0 [(2, _), (3, _), (6, _)] (by omega) ⟨rfl, rfl, rfl, trivial⟩ (.inr (.inr ⟨rfl, rfl, hq1, by simpa using hc81, hS.clear⟩))
 ·skip
  refine seqF ?_
  refine seqF (regF ?_)
  refine op_move rfl rfl ?_
  refine op_field (o' := 5) fa_48_4 rfl rfl rfl ?_
  refine op_load Tryz.isAgg46 rfl (cell_own (hS.at_ 1 rfl) rfl) rfl ?_
  refine op_len Tryz.underlying46 rfl rfl ?_
  refine op_lss rfl rfl rfl ?_
  refine endF (XF.thenN ?_)
  refine condF rfl (fun hc => absurd (of_decide_eq_true hc) (by omega)) (fun hc => ?_)
  have hc := of_decide_eq_false hc
  refine exitF ?_
  refine XF.thenX ?_
  refine XF.thenX ?_
  refine XF.blkX ?_
  refine XF.thenN ?_
  refine seqF (regF ?_)
  refine op_assign rfl rfl ?_
  refine endF (XF.thenN ?_)
  refine retF ?_
  refine XF.res (res1 Tryz.results18 rfl) ?_
  exact ⟨rbool (r_true hr ⟨hr1.1 hq1, hr2.1 hq2⟩), hS.below⟩
theorem sameW_is {w : World} {S : PS} {f g : WF} {x y : PX} (hx : XIs w S f x) (hy : XIs w S g y) (r : Bool) (hr : r = true ↔ x = y) : Calls Tryz.prog 18 #[f.val, g.val] w fun e w' => e = .returned (.bool r) ∧ Below w.heap.size w w' := by
 classical
 cases S <;> cases x <;> cases y <;> first | exact hx.elim | exact hy.elim | skip
 ·exact sameW_plain hx hy r (by rw [hr]; simp)
 ·obtain ⟨ra, ca, rc, cc, pc, fb, fo, f1, f2, rfl, h6, h7, h8, h9⟩ := hx.two
  obtain ⟨ra', ca', rc', cc', pc', gb, go, g1, g2, rfl, h6', h7', h8', h9'⟩ := hy.two
  exact sameW_two _ _ _ _ _ _ _ _ _ _ _ _ _ _ _ _ _ _ _ _ _ _ _ _ _ _ w h6 h7 h6' h7' h8 h9 h8' h9' r (decide _) (decide _) (by rw [hr]; simp) decide_eq_true_iff decide_eq_true_iff
end Go.Proofs.YtfkbkekgnoanaaaGreatDoor
namespace Go.Proofs.YtfkbkekgnoanaaaGreatDoor
open Go Go.RowKit
theorem xl_cons {w : World} {S : PS} {f : WF} {x : PX} {fs : List WF} {xs : List PX} (h : XIs w S f x) (hx : XL w S fs xs) : XL w S (f :: fs) (x :: xs) :=
 ⟨by simp [hx.1], fun i g y hg hy => by
  match i, hg, hy with
  | 0, hg, hy => simp at hg hy; subst hg; subst hy; exact h
  | i + 1, hg, hy => exact hx.2 i g y (by simpa using hg) (by simpa using hy)⟩
theorem xl_nil {w : World} {S : PS} : XL w S [] [] := ⟨rfl, fun i g y hg => by simp at hg⟩
end Go.Proofs.YtfkbkekgnoanaaaGreatDoor
namespace Go.Proofs.YtfkbkekgnoanaaaGreatDoor
open Go Go.RowKit
def eqW : Nat → WV → WV → Bool
 | 0, _, _ => false
 | k + 1, .mk f ps, .mk g qs => decide (f.z = g.z ∧ f.c = g.c ∧ f.g = g.g ∧ f.rows = g.rows) && (sameC f.cells g.cells && (decide (ps.length = qs.length) && (ps.zip qs).all fun x => eqW k x.1 x.2))
theorem smN_succ {j : Nat} {f : WF} {ps : List WV} (h : smN (j + 1) (.mk f ps) = true) : f.rl ≤ 70 ∧ f.cl ≤ 70 ∧ f.pl ≤ 3 ∧ ∀ p ∈ ps, smN j p = true := by
 simp only [smN, Bool.and_eq_true, decide_eq_true_eq, List.all_eq_true] at h
 exact h
theorem sameWR_step (k j : Nat) (az : Bool) (ac : Int) (ag : Nat) (ara : Option Addr) (arl arc : Nat) (arows : List Nat) (aca : Option Addr) (acl acc : Nat) (acells : List Cl) (apa : Option Addr) (apl apc : Nat)(bz : Bool) (bc : Int) (bg : Nat) (bra : Option Addr) (brl brc : Nat) (brows : List Nat) (bca : Option Addr) (bcl bcc : Nat) (bcells : List Cl) (bpa : Option Addr) (bpl bpc : Nat)(ps qs : List WV) (w : World) (hra : VRow w ara (u64s arows)) (hla : arows.length = arl) (hma : arl ≤ 100) (hca : CRow w aca acells) (hka : acells.length = acl) (hna : acl ≤ 100)(hrb : VRow w bra (u64s brows)) (hlb : brows.length = brl) (hmb : brl ≤ 100) (hcb : CRow w bca bcells) (hkb : bcells.length = bcl) (hnb : bcl ≤ 100)(hps : ps.length = apl) (hqs : qs.length = bpl) (hrow : PRow w apa ps) (hrow2 : PRow w bpa qs) (hin : ∀ p ∈ ps, WIn w k p) (hin2 : ∀ p ∈ qs, WIn w k p) (hpl : apl ≤ 9223372036854775807) (hsm : ∀ p ∈ ps, smN j p = true) (hsm2 : ∀ p ∈ qs, smN j p = true) (ih : ∀ (p q : WV) (W : World), WIn W k p → WIn W k q → smN j p = true → smN j q = true → Calls Tryz.prog 18 #[p.f.val, q.f.val] W fun e w' => e = .returned (.bool (eqW k p q)) ∧ Below W.heap.size W w') (r : Bool) (hr : r = true ↔ (az = bz ∧ ac = bc ∧ ag = bg ∧ arows = brows ∧ acells = bcells ∧ (decide (ps.length = qs.length) && (ps.zip qs).all fun x => eqW k x.1 x.2) = true)) :
  Calls Tryz.prog 18 #[.agg #[.bool az, .int .i64 ac, .int .u64 (ag : Int), .slice ara arl arc, .slice aca acl acc, .slice apa apl apc], .agg #[.bool bz, .int .i64 bc, .int .u64 (bg : Int), .slice bra brl brc, .slice bca bcl bcc, .slice bpa bpl bpc]] w (fun e w' => e = .returned (.bool r) ∧ Below w.heap.size w w') := by
 refine enterF (args := [.agg #[.bool az, .int .i64 ac, .int .u64 (ag : Int), .slice ara arl arc, .slice aca acl acc, .slice apa apl apc], .agg #[.bool bz, .int .i64 bc, .int .u64 (bg : Int), .slice bra brl brc, .slice bca bcl bcc, .slice bpa bpl bpc]]) Tryz.func18 rfl Tryz.ntmps18 rfl ?_
 have hS := St.start w
 refine seqF (regF ?_)
 refine op_box (cs := [_, _, _, _, _, _]) hS rfl rfl rfl ?_
 clear hS; intro B1 W1 hS
 refine op_box (cs := [_, _, _, _, _, _]) hS rfl rfl rfl ?_
 clear hS; intro B2 W2 hS
 refine op_assign rfl rfl ?_
 refine endF (XF.thenN ?_)
 refine seqF ?_
 refine seqF (regF ?_)
 refine op_field (o' := 0) fa_48_0 rfl rfl rfl ?_
 refine op_load Tryz.isAgg4 rfl (cell_own (hS.at_ 1 rfl) rfl) rfl ?_
 refine op_field (o' := 0) fa_48_0 rfl rfl rfl ?_
 refine op_load Tryz.isAgg4 rfl (cell_own (hS.at_ 0 rfl) rfl) rfl ?_
 refine op_neqB Tryz.underlying4 rfl rfl rfl ?_
 refine op_move rfl rfl ?_
 refine op_cases (d := 12) rfl (fun hc => ?_) (fun hc => ?_)
 ·have hg12 := hc; clear hc
  refine op_notF (d := 12) rfl rfl rfl rfl ?_
  refine op_notF (d := 12) rfl rfl rfl rfl ?_
  refine op_notF (d := 12) rfl rfl rfl rfl ?_
  refine op_notF (d := 12) rfl rfl rfl rfl ?_
  refine op_notF (d := 12) rfl rfl rfl rfl ?_
  refine op_pickT rfl rfl rfl ?_
  refine op_move rfl rfl ?_
  refine op_notF (d := 19) rfl rfl rfl rfl ?_
  refine op_notF (d := 19) rfl rfl rfl rfl ?_
  refine op_notF (d := 19) rfl rfl rfl rfl ?_
  refine op_notF (d := 19) rfl rfl rfl rfl ?_
  refine op_notF (d := 19) rfl rfl rfl rfl ?_
  refine op_notF (d := 19) rfl rfl rfl rfl ?_
  refine op_pickT rfl rfl rfl ?_
  refine op_move rfl rfl ?_
  refine op_notF (d := 27) rfl rfl rfl rfl ?_
  refine op_notF (d := 27) rfl rfl rfl rfl ?_
  refine op_notF (d := 27) rfl rfl rfl rfl ?_
  refine op_notF (d := 27) rfl rfl rfl rfl ?_
  refine op_notF (d := 27) rfl rfl rfl rfl ?_
  refine op_notF (d := 27) rfl rfl rfl rfl ?_
  refine op_notF (d := 27) rfl rfl rfl rfl ?_
  refine op_pickT rfl rfl rfl ?_
  refine op_move rfl rfl ?_
  refine op_notF (d := 36) rfl rfl rfl rfl ?_
  refine op_notF (d := 36) rfl rfl rfl rfl ?_
  refine op_notF (d := 36) rfl rfl rfl rfl ?_
  refine op_notF (d := 36) rfl rfl rfl rfl ?_
  refine op_notF (d := 36) rfl rfl rfl rfl ?_
  refine op_notF (d := 36) rfl rfl rfl rfl ?_
  refine op_notF (d := 36) rfl rfl rfl rfl ?_
  refine op_pickT rfl rfl rfl ?_
  refine endF (XF.thenN ?_)
  refine condT rfl ?_
  refine seqF (regF ?_)
  refine op_assign rfl rfl ?_
  refine endF (XF.thenN ?_)
  refine retF ?_
  refine XF.thenR ?_
  refine XF.res (res1 Tryz.results18 rfl) ?_
  exact ⟨rbool (r_false hr (fun h => by have h1 := h.1; subst h1; simp at hg12)), hS.below⟩
 ·have hg12 := hc; clear hc
  refine op_wantedF (d := 12) rfl rfl ?_
  refine op_field (o' := 1) fa_48_1 rfl rfl rfl ?_
  refine op_wantedF (d := 12) rfl rfl ?_
  refine op_load Tryz.isAgg3 rfl (cell_own (hS.at_ 1 rfl) rfl) rfl ?_
  refine op_wantedF (d := 12) rfl rfl ?_
  refine op_field (o' := 1) fa_48_1 rfl rfl rfl ?_
  refine op_wantedF (d := 12) rfl rfl ?_
  refine op_load Tryz.isAgg3 rfl (cell_own (hS.at_ 0 rfl) rfl) rfl ?_
  refine op_wantedF (d := 12) rfl rfl ?_
  refine op_neq rfl rfl rfl ?_
  refine op_pickF rfl rfl rfl ?_
  refine op_move rfl rfl ?_
  refine op_cases (d := 19) rfl (fun hc => ?_) (fun hc => ?_)
  ·have hg19 := of_decide_eq_true hc; clear hc
   refine op_notF (d := 19) rfl rfl rfl rfl ?_
   refine op_notF (d := 19) rfl rfl rfl rfl ?_
   refine op_notF (d := 19) rfl rfl rfl rfl ?_
   refine op_notF (d := 19) rfl rfl rfl rfl ?_
   refine op_notF (d := 19) rfl rfl rfl rfl ?_
   refine op_notF (d := 19) rfl rfl rfl rfl ?_
   refine op_pickT rfl rfl rfl ?_
   refine op_move rfl rfl ?_
   refine op_notF (d := 27) rfl rfl rfl rfl ?_
   refine op_notF (d := 27) rfl rfl rfl rfl ?_
   refine op_notF (d := 27) rfl rfl rfl rfl ?_
   refine op_notF (d := 27) rfl rfl rfl rfl ?_
   refine op_notF (d := 27) rfl rfl rfl rfl ?_
   refine op_notF (d := 27) rfl rfl rfl rfl ?_
   refine op_notF (d := 27) rfl rfl rfl rfl ?_
   refine op_pickT rfl rfl rfl ?_
   refine op_move rfl rfl ?_
   refine op_notF (d := 36) rfl rfl rfl rfl ?_
   refine op_notF (d := 36) rfl rfl rfl rfl ?_
   refine op_notF (d := 36) rfl rfl rfl rfl ?_
   refine op_notF (d := 36) rfl rfl rfl rfl ?_
   refine op_notF (d := 36) rfl rfl rfl rfl ?_
   refine op_notF (d := 36) rfl rfl rfl rfl ?_
   refine op_notF (d := 36) rfl rfl rfl rfl ?_
   refine op_pickT rfl rfl rfl ?_
   refine endF (XF.thenN ?_)
   refine condT rfl ?_
   refine seqF (regF ?_)
   refine op_assign rfl rfl ?_
   refine endF (XF.thenN ?_)
   refine retF ?_
   refine XF.thenR ?_
   refine XF.res (res1 Tryz.results18 rfl) ?_
   exact ⟨rbool (r_false hr (fun h => hg19 h.2.1)), hS.below⟩
  ·have hg19 := of_decide_eq_false hc; clear hc
   refine op_wantedF (d := 19) rfl rfl ?_
   refine op_field (o' := 2) fa_48_2 rfl rfl rfl ?_
   refine op_wantedF (d := 19) rfl rfl ?_
   refine op_loadA (vs := [_, _]) Tryz.isAgg44 Tryz.sizeOf44 rfl (CellsAt.own (j := 2) (m := 2) (hS.at_ 1 rfl) rfl) rfl ?_
   refine op_wantedF (d := 19) rfl rfl ?_
   refine op_field (o' := 2) fa_48_2 rfl rfl rfl ?_
   refine op_wantedF (d := 19) rfl rfl ?_
   refine op_loadA (vs := [_, _]) Tryz.isAgg44 Tryz.sizeOf44 rfl (CellsAt.own (j := 2) (m := 2) (hS.at_ 0 rfl) rfl) rfl ?_
   refine op_wantedF (d := 19) rfl rfl ?_
   refine op_call (vs := [_, _]) hS goes_42 rfl (sameR_is _ _ _ _ _ _ _ _ _ (by omega) (by omega) (VRow.below hra hS.below) (VRow.below hrb hS.below) _ rfl _ _ hla hlb) rfl ?_
   rintro e W3 ⟨rfl, hb⟩
   refine ⟨_, rfl, hb, fun hS' => ?_⟩
   clear hS; have hS := hS'; clear hS' hb
   refine op_wantedF (d := 19) rfl rfl ?_
   refine op_not rfl rfl ?_
   refine op_pickF rfl rfl rfl ?_
   refine op_move rfl rfl ?_
   refine op_cases (d := 27) rfl (fun hc => ?_) (fun hc => ?_)
   ·have hg27 := hc; clear hc
    refine op_notF (d := 27) rfl rfl rfl rfl ?_
    refine op_notF (d := 27) rfl rfl rfl rfl ?_
    refine op_notF (d := 27) rfl rfl rfl rfl ?_
    refine op_notF (d := 27) rfl rfl rfl rfl ?_
    refine op_notF (d := 27) rfl rfl rfl rfl ?_
    refine op_notF (d := 27) rfl rfl rfl rfl ?_
    refine op_notF (d := 27) rfl rfl rfl rfl ?_
    refine op_pickT rfl rfl rfl ?_
    refine op_move rfl rfl ?_
    refine op_notF (d := 36) rfl rfl rfl rfl ?_
    refine op_notF (d := 36) rfl rfl rfl rfl ?_
    refine op_notF (d := 36) rfl rfl rfl rfl ?_
    refine op_notF (d := 36) rfl rfl rfl rfl ?_
    refine op_notF (d := 36) rfl rfl rfl rfl ?_
    refine op_notF (d := 36) rfl rfl rfl rfl ?_
    refine op_notF (d := 36) rfl rfl rfl rfl ?_
    refine op_pickT rfl rfl rfl ?_
    refine endF (XF.thenN ?_)
    refine condT rfl ?_
    refine seqF (regF ?_)
    refine op_assign rfl rfl ?_
    refine endF (XF.thenN ?_)
    refine retF ?_
    refine XF.thenR ?_
    refine XF.res (res1 Tryz.results18 rfl) ?_
    exact ⟨rbool (r_false hr (fun h => by obtain ⟨_, _, h3, h4, _⟩ := h; subst h3; subst h4; rw [same_self] at hg27; cases hg27)), hS.below⟩
   ·have hg27 := hc; clear hc
    refine op_wantedF (d := 27) rfl rfl ?_
    refine op_field (o' := 4) fa_48_3 rfl rfl rfl ?_
    refine op_wantedF (d := 27) rfl rfl ?_
    refine op_load Tryz.isAgg45 rfl (cell_own (hS.at_ 1 rfl) rfl) rfl ?_
    refine op_wantedF (d := 27) rfl rfl ?_
    refine op_len Tryz.underlying45 rfl rfl ?_
    refine op_wantedF (d := 27) rfl rfl ?_
    refine op_field (o' := 4) fa_48_3 rfl rfl rfl ?_
    refine op_wantedF (d := 27) rfl rfl ?_
    refine op_load Tryz.isAgg45 rfl (cell_own (hS.at_ 0 rfl) rfl) rfl ?_
    refine op_wantedF (d := 27) rfl rfl ?_
    refine op_len Tryz.underlying45 rfl rfl ?_
    refine op_wantedF (d := 27) rfl rfl ?_
    refine op_neq rfl rfl rfl ?_
    refine op_pickF rfl rfl rfl ?_
    refine op_move rfl rfl ?_
    refine op_cases (d := 36) rfl (fun hc => ?_) (fun hc => ?_)
    ·have hg36 := of_decide_eq_true hc; clear hc
     refine op_notF (d := 36) rfl rfl rfl rfl ?_
     refine op_notF (d := 36) rfl rfl rfl rfl ?_
     refine op_notF (d := 36) rfl rfl rfl rfl ?_
     refine op_notF (d := 36) rfl rfl rfl rfl ?_
     refine op_notF (d := 36) rfl rfl rfl rfl ?_
     refine op_notF (d := 36) rfl rfl rfl rfl ?_
     refine op_notF (d := 36) rfl rfl rfl rfl ?_
     refine op_pickT rfl rfl rfl ?_
     refine endF (XF.thenN ?_)
     refine condT rfl ?_
     refine seqF (regF ?_)
     refine op_assign rfl rfl ?_
     refine endF (XF.thenN ?_)
     refine retF ?_
     refine XF.thenR ?_
     refine XF.res (res1 Tryz.results18 rfl) ?_
     exact ⟨rbool (r_false hr (fun h => by have h5 := h.2.2.2.2.1; subst h5; omega)), hS.below⟩
    ·have hg36 := of_decide_eq_false hc; clear hc
     have hz : az = bz := by simpa using hg12
     have hcc : ac = bc := by omega
     have hff : ag = bg ∧ arows = brows := by simpa [sameB] using hg27
     have hcl : acl = bcl := by omega
     refine op_wantedF (d := 36) rfl rfl ?_
     refine op_field (o' := 5) fa_48_4 rfl rfl rfl ?_
     refine op_wantedF (d := 36) rfl rfl ?_
     refine op_load Tryz.isAgg46 rfl (cell_own (hS.at_ 1 rfl) rfl) rfl ?_
     refine op_wantedF (d := 36) rfl rfl ?_
     refine op_len Tryz.underlying46 rfl rfl ?_
     refine op_wantedF (d := 36) rfl rfl ?_
     refine op_field (o' := 5) fa_48_4 rfl rfl rfl ?_
     refine op_wantedF (d := 36) rfl rfl ?_
     refine op_load Tryz.isAgg46 rfl (cell_own (hS.at_ 0 rfl) rfl) rfl ?_
     refine op_wantedF (d := 36) rfl rfl ?_
     refine op_len Tryz.underlying46 rfl rfl ?_
     refine op_wantedF (d := 36) rfl rfl ?_
     refine op_neq rfl rfl rfl ?_
     refine op_pickF rfl rfl rfl ?_
     refine endF (XF.thenN ?_)
     refine condF rfl (fun hc => ?_) (fun hc => ?_)
     ·have hc44 := of_decide_eq_true hc; clear hc
      refine seqF (regF ?_)
      refine op_assign rfl rfl ?_
      refine endF (XF.thenN ?_)
      refine retF ?_
      refine XF.thenR ?_
      refine XF.res (res1 Tryz.results18 rfl) ?_
      exact ⟨rbool (r_false hr (fun h => by have h6 := h.2.2.2.2.2; rw [decide_eq_false (show ¬ ps.length = qs.length by omega)] at h6; cases h6)), hS.below⟩
     ·have hc44 := of_decide_eq_false hc; clear hc
      refine skipF ?_
      refine XF.thenN ?_
      refine seqF ?_
      refine seqF (regF ?_)
      refine op_assign rfl rfl ?_
      refine endF (XF.thenN ?_)
      refine blockF ?_
      refine loopF (fun q l W => ∃ i : Nat, i ≤ acl ∧ q = acl - i ∧ l = [(2, .pointer (some ⟨B1, 0, none⟩)), (3, .pointer (some ⟨B2, 0, none⟩)), (5, .int .i64 (i : Int))] ∧ acells.take i = bcells.take i ∧ St w [(B2, [.bool bz, .int .i64 bc, .int .u64 (bg : Int), .slice bra brl brc, .slice bca bcl bcc, .slice bpa bpl bpc], 48), (B1, [.bool az, .int .i64 ac, .int .u64 (ag : Int), .slice ara arl arc, .slice aca acl acc, .slice apa apl apc], 48)] [] [] W) (acl - 0) ([(2, _), (3, _), (5, _)]) ⟨rfl, rfl, rfl, trivial⟩ (⟨0, Nat.zero_le _, rfl, rfl, rfl, hS.clear⟩) ?_
      clear hS
      rintro q l W ⟨i, hi, rfl, rfl, hall, hS⟩
      refine seqF ?_
      refine seqF (regF ?_)
      refine op_move rfl rfl ?_
      refine op_field (o' := 4) fa_48_3 rfl rfl rfl ?_
      refine op_load Tryz.isAgg45 rfl (cell_own (hS.at_ 1 rfl) rfl) rfl ?_
      refine op_len Tryz.underlying45 rfl rfl ?_
      refine op_lss rfl rfl rfl ?_
      refine endF (XF.thenN ?_)
      refine condF rfl (fun hc => ?_) (fun hc => ?_)
      ·have hc49 := of_decide_eq_true hc; clear hc
       have hk : i < acl := by omega
       obtain ⟨b1, o1, x, hx1, hx2, _, x0, x1, x2⟩ := hca.at_ (k := i) (by omega)
       obtain ⟨b2, o2, y, hy1, hy2, _, y0, y1, y2⟩ := hcb.at_ (k := i) (by omega)
       subst hx1; subst hy1
       have k1 : CellsAt W b1 (o1 + i * 3) [.int .u64 (x.f : Int), .int .i64 x.k, .int .i64 x.v] := CellsAt.agree hS.agree (Nat.zero_le _) ⟨x0, x1, x2, trivial⟩
       have k2 : CellsAt W b2 (o2 + i * 3) [.int .u64 (y.f : Int), .int .i64 y.k, .int .i64 y.v] := CellsAt.agree hS.agree (Nat.zero_le _) ⟨y0, y1, y2, trivial⟩
       refine skipF ?_
       refine XF.thenN ?_
       refine seqF ?_
       refine blockF ?_
       refine seqF ?_
       refine regB (m := 11) followsM hS (by kernel_rfl) (by kernel_rfl) rfl ?_
       refine bl_cons 1 rfl (isV _) (stab_isV _) (rgV (li := [(2, _)]) rfl (w_free rfl) ⟨g_fr (by kernel_rfl) rfl, trivial⟩ (fun w hw => rn_field (o' := 4) fa_48_3 rfl rfl) (at_top rfl)) ?_
       refine bl_cons 2 rfl (isV _) (stab_isV _) (rgV (li := [(52, _)]) rfl (w_free rfl) ⟨g_dep 0 (by kernel_rfl) (at_dep rfl rfl rfl), trivial⟩ (fun w hw => rn_load Tryz.isAgg45 rfl ((below_agree hw 0).cell (Nat.zero_le _) (cell_own (hS.at_ 1 rfl) rfl))) (at_top rfl)) ?_
       refine bl_cons 3 rfl (isV _) (stab_isV _) (rgV (li := [(5, _)]) rfl (w_free rfl) ⟨g_fr (by kernel_rfl) rfl, trivial⟩ (fun w hw => rn_move rfl) (at_top rfl)) ?_
       refine bl_cons 4 rfl (isV _) (stab_isV _) (rgV (li := [(53, _), (54, _)]) rfl (w_free rfl) ⟨g_dep 1 (by kernel_rfl) (at_dep rfl rfl rfl), g_dep 2 (by kernel_rfl) (at_dep rfl rfl rfl), trivial⟩ (fun w hw => rn_indexA  Tryz.underlying45 Tryz.sizeOf89 rfl rfl rfl (by omega) rfl) (at_top rfl)) ?_
       refine bl_cons 5 rfl (isV _) (stab_isV _) (rgV (li := [(55, _)]) rfl (w_free rfl) ⟨g_dep 3 (by kernel_rfl) (at_dep rfl rfl rfl), trivial⟩ (fun w hw => rn_loadA (vs := [_, _, _]) Tryz.isAgg89 Tryz.sizeOf89 rfl (CellsAt.agree (below_agree hw 0) (Nat.zero_le _) (by assumption))) (at_top rfl)) ?_
       refine bl_cons 6 rfl (isV _) (stab_isV _) (rgV (li := [(3, _)]) rfl (w_free rfl) ⟨g_fr (by kernel_rfl) rfl, trivial⟩ (fun w hw => rn_field (o' := 4) fa_48_3 rfl rfl) (at_top rfl)) ?_
       refine bl_cons 7 rfl (isV _) (stab_isV _) (rgV (li := [(57, _)]) rfl (w_free rfl) ⟨g_dep 5 (by kernel_rfl) (at_dep rfl rfl rfl), trivial⟩ (fun w hw => rn_load Tryz.isAgg45 rfl ((below_agree hw 0).cell (Nat.zero_le _) (cell_own (hS.at_ 0 rfl) rfl))) (at_top rfl)) ?_
       refine bl_cons 8 rfl (isV _) (stab_isV _) (rgV (li := [(5, _)]) rfl (w_free rfl) ⟨g_fr (by kernel_rfl) rfl, trivial⟩ (fun w hw => rn_move rfl) (at_top rfl)) ?_
       refine bl_cons 9 rfl (isV _) (stab_isV _) (rgV (li := [(58, _), (59, _)]) rfl (w_free rfl) ⟨g_dep 6 (by kernel_rfl) (at_dep rfl rfl rfl), g_dep 7 (by kernel_rfl) (at_dep rfl rfl rfl), trivial⟩ (fun w hw => rn_indexA  Tryz.underlying45 Tryz.sizeOf89 rfl rfl rfl (by omega) rfl) (at_top rfl)) ?_
       refine bl_cons 10 rfl (isV _) (stab_isV _) (rgV (li := [(60, _)]) rfl (w_free rfl) ⟨g_dep 8 (by kernel_rfl) (at_dep rfl rfl rfl), trivial⟩ (fun w hw => rn_loadA (vs := [_, _, _]) Tryz.isAgg89 Tryz.sizeOf89 rfl (CellsAt.agree (below_agree hw 0) (Nat.zero_le _) (by assumption))) (at_top rfl)) ?_
       refine bl_cons 11 rfl (isV _) (stab_isV _) (rgV (li := [(56, _), (61, _)]) rfl (w_free rfl) ⟨g_dep 4 (by kernel_rfl) (at_dep rfl rfl rfl), g_dep 9 (by kernel_rfl) (at_dep rfl rfl rfl), trivial⟩ (fun w hw => rn_binG rfl rfl (run_eqGuard_agg _ _ _ _ _ _ _ (by kernel_rfl)) (neq_is x y _ rfl w)) (at_top rfl)) ?_
       refine bl_nil ?_
       intro W4 hbR hS'
       clear hS; have hS := hS'; clear hS'
       refine fin_v ?_
       refine fin_v ?_
       refine fin_v ?_
       refine fin_v ?_
       refine fin_v ?_
       refine fin_v ?_
       refine fin_v ?_
       refine fin_v ?_
       refine fin_v ?_
       refine fin_v ?_
       refine fin_v ?_
       refine fin_nil ?_
       refine XF.thenN ?_
       refine condF rfl (fun hc => ?_) (fun hc => ?_)
       ·have hc62 := hc; clear hc
        refine seqF (regF ?_)
        refine op_assign rfl rfl ?_
        refine endF (XF.thenN ?_)
        refine retF ?_
        refine XF.blkR ?_
        refine XF.thenR ?_
        refine XF.thenR ?_
        refine XF.blkR ?_
        refine XF.thenR ?_
        refine XF.res (res1 Tryz.results18 rfl) ?_
        exact ⟨rbool (r_false hr (fun h => by have h5 := h.2.2.2.2.1; subst h5; rw [hx2] at hy2; cases hy2; simp [sameCl] at hc62)), hS.below⟩
       ·have hc62 := hc; clear hc
        have hxy : x = y := by
         obtain ⟨xf, xk, xv⟩ := x
         obtain ⟨yf, yk, yv⟩ := y
         simp [sameCl] at hc62
         simp [hc62]
        subst hxy
        refine skipF ?_
        refine XF.blkN ?_
        refine XF.thenN ?_
        refine regF ?_
        refine op_move rfl rfl ?_
        refine op_add rfl rfl (IntWalk.i64_in _ (by omega)) rfl ?_
        refine op_assign rfl rfl ?_
        refine endF ?_
        exact XF.round (acl - (i + 1)) [(2, _), (3, _), (5, _)] (by omega) ⟨rfl, rfl, rfl, trivial⟩ ⟨i + 1, by omega, rfl, rfl, by rw [List.take_add_one, List.take_add_one, hx2, hy2, hall], hS.clear⟩
      ·have hc49 := of_decide_eq_false hc; clear hc
       have hce : acells = bcells := by
        rw [List.take_of_length_le (by omega), List.take_of_length_le (by omega)] at hall
        exact hall
       refine exitF ?_
       refine XF.thenX ?_
       refine XF.thenX ?_
       refine XF.blkX ?_
       refine XF.thenN ?_
       refine seqF ?_
       refine seqF (regF ?_)
       refine op_assign rfl rfl ?_
       refine endF (XF.thenN ?_)
       refine blockF ?_
       refine loopF (fun q l W => ∃ i : Nat, i ≤ apl ∧ q = apl - i ∧ l = [(2, .pointer (some ⟨B1, 0, none⟩)), (3, .pointer (some ⟨B2, 0, none⟩)), (6, .int .i64 (i : Int))] ∧ ((ps.zip qs).take i).all (fun x => eqW k x.1 x.2) = true ∧ St w [(B2, [.bool bz, .int .i64 bc, .int .u64 (bg : Int), .slice bra brl brc, .slice bca bcl bcc, .slice bpa bpl bpc], 48), (B1, [.bool az, .int .i64 ac, .int .u64 (ag : Int), .slice ara arl arc, .slice aca acl acc, .slice apa apl apc], 48)] [] [] W) (apl - 0) ([(2, _), (3, _), (6, _)]) ⟨rfl, rfl, rfl, trivial⟩ (⟨0, Nat.zero_le _, rfl, rfl, rfl, hS.clear⟩) ?_
       clear hS
       rintro q l W ⟨i, hi, rfl, rfl, hall2, hS⟩
       refine seqF ?_
       refine seqF (regF ?_)
       refine op_move rfl rfl ?_
       refine op_field (o' := 5) fa_48_4 rfl rfl rfl ?_
       refine op_load Tryz.isAgg46 rfl (cell_own (hS.at_ 1 rfl) rfl) rfl ?_
       refine op_len Tryz.underlying46 rfl rfl ?_
       refine op_lss rfl rfl rfl ?_
       refine endF (XF.thenN ?_)
       refine condF rfl (fun hc => ?_) (fun hc => ?_)
       ·have hc67 := of_decide_eq_true hc; clear hc
        have hk : i < apl := by omega
        obtain ⟨p, hp⟩ : ∃ p, ps[i]? = some p := ⟨ps[i]'(by omega), List.getElem?_eq_getElem _⟩
        obtain ⟨q, hq⟩ : ∃ q, qs[i]? = some q := ⟨qs[i]'(by omega), List.getElem?_eq_getElem _⟩
        have hzp : (ps.zip qs)[i]? = some (p, q) := List.getElem?_zip_eq_some.2 ⟨hp, hq⟩
        obtain ⟨b, off, rfl, hb, h6⟩ := hrow.at_ hp
        obtain ⟨b2, off2, rfl, hb2, h7⟩ := hrow2.at_ hq
        have k1 := CellsAt.agree hS.agree (Nat.zero_le _) h6.cells
        have k2 := CellsAt.agree hS.agree (Nat.zero_le _) h7.cells
        refine skipF ?_
        refine XF.thenN ?_
        refine seqF ?_
        refine blockF ?_
        refine seqF ?_
        refine regB (m := 12) followsM hS (by kernel_rfl) (by kernel_rfl) rfl ?_
        refine bl_cons 1 rfl (isV _) (stab_isV _) (rgV (li := [(2, _)]) rfl (w_free rfl) ⟨g_fr (by kernel_rfl) rfl, trivial⟩ (fun w hw => rn_field (o' := 5) fa_48_4 rfl rfl) (at_top rfl)) ?_
        refine bl_cons 2 rfl (isV _) (stab_isV _) (rgV (li := [(70, _)]) rfl (w_free rfl) ⟨g_dep 0 (by kernel_rfl) (at_dep rfl rfl rfl), trivial⟩ (fun w hw => rn_load Tryz.isAgg46 rfl ((below_agree hw 0).cell (Nat.zero_le _) (cell_own (hS.at_ 1 rfl) rfl))) (at_top rfl)) ?_
        refine bl_cons 3 rfl (isV _) (stab_isV _) (rgV (li := [(6, _)]) rfl (w_free rfl) ⟨g_fr (by kernel_rfl) rfl, trivial⟩ (fun w hw => rn_move rfl) (at_top rfl)) ?_
        refine bl_cons 4 rfl (isV _) (stab_isV _) (rgV (li := [(71, _), (72, _)]) rfl (w_free rfl) ⟨g_dep 1 (by kernel_rfl) (at_dep rfl rfl rfl), g_dep 2 (by kernel_rfl) (at_dep rfl rfl rfl), trivial⟩ (fun w hw => rn_indexA  Tryz.underlying46 Tryz.sizeOf48 rfl rfl rfl (by omega) rfl) (at_top rfl)) ?_
        refine bl_cons 5 rfl (isV _) (stab_isV _) (rgV (li := [(73, _)]) rfl (w_free rfl) ⟨g_dep 3 (by kernel_rfl) (at_dep rfl rfl rfl), trivial⟩ (fun w hw => rn_loadA (vs := [_, _, _, _, _, _]) Tryz.isAgg48 Tryz.sizeOf48 rfl (CellsAt.agree (below_agree hw 0) (Nat.zero_le _) (by assumption))) (at_top rfl)) ?_
        refine bl_cons 6 rfl (isV _) (stab_isV _) (rgV (li := [(3, _)]) rfl (w_free rfl) ⟨g_fr (by kernel_rfl) rfl, trivial⟩ (fun w hw => rn_field (o' := 5) fa_48_4 rfl rfl) (at_top rfl)) ?_
        refine bl_cons 7 rfl (isV _) (stab_isV _) (rgV (li := [(75, _)]) rfl (w_free rfl) ⟨g_dep 5 (by kernel_rfl) (at_dep rfl rfl rfl), trivial⟩ (fun w hw => rn_load Tryz.isAgg46 rfl ((below_agree hw 0).cell (Nat.zero_le _) (cell_own (hS.at_ 0 rfl) rfl))) (at_top rfl)) ?_
        refine bl_cons 8 rfl (isV _) (stab_isV _) (rgV (li := [(6, _)]) rfl (w_free rfl) ⟨g_fr (by kernel_rfl) rfl, trivial⟩ (fun w hw => rn_move rfl) (at_top rfl)) ?_
        refine bl_cons 9 rfl (isV _) (stab_isV _) (rgV (li := [(76, _), (77, _)]) rfl (w_free rfl) ⟨g_dep 6 (by kernel_rfl) (at_dep rfl rfl rfl), g_dep 7 (by kernel_rfl) (at_dep rfl rfl rfl), trivial⟩ (fun w hw => rn_indexA  Tryz.underlying46 Tryz.sizeOf48 rfl rfl rfl (by omega) rfl) (at_top rfl)) ?_
        refine bl_cons 10 rfl (isV _) (stab_isV _) (rgV (li := [(78, _)]) rfl (w_free rfl) ⟨g_dep 8 (by kernel_rfl) (at_dep rfl rfl rfl), trivial⟩ (fun w hw => rn_loadA (vs := [_, _, _, _, _, _]) Tryz.isAgg48 Tryz.sizeOf48 rfl (CellsAt.agree (below_agree hw 0) (Nat.zero_le _) (by assumption))) (at_top rfl)) ?_
        refine bl_cons 11 rfl (isV (.bool (eqW k p q))) (stab_isV _) (rg_call [isV _, isV _] rfl goes_18 (w_free rfl) ⟨p_tmp (g_dep 4 (by kernel_rfl) (at_dep rfl rfl rfl)), p_tmp (g_dep 9 (by kernel_rfl) (at_dep rfl rfl rfl)), trivial⟩ (fun vs w' hb hh => by have e := holds_isV (us := [_, _]) hh; subst e; exact (ih p q _ (WIn.below (hS.below.trans (hb.mono hS.below.size)) (hin p (List.mem_of_getElem? hp))) (WIn.below (hS.below.trans (hb.mono hS.below.size)) (hin2 q (List.mem_of_getElem? hq))) (hsm p (List.mem_of_getElem? hp)) (hsm2 q (List.mem_of_getElem? hq))).mono fun e w2 h => ⟨_, h.1, rfl, h.2⟩) (at_top rfl)) ?_
        refine bl_cons 12 rfl (isV _) (stab_isV _) (rgV (li := [(80, _)]) rfl (w_free rfl) ⟨g_dep 10 (by kernel_rfl) (at_dep rfl rfl rfl), trivial⟩ (fun w hw => rn_not rfl) (at_top rfl)) ?_
        refine bl_nil ?_
        intro W5 hbR hS'
        clear hS; have hS := hS'; clear hS'
        refine fin_v ?_
        refine fin_v ?_
        refine fin_v ?_
        refine fin_v ?_
        refine fin_v ?_
        refine fin_v ?_
        refine fin_v ?_
        refine fin_v ?_
        refine fin_v ?_
        refine fin_v ?_
        refine fin_v ?_
        refine fin_v ?_
        refine fin_nil ?_
        refine XF.thenN ?_
        refine condF rfl (fun hc => ?_) (fun hc => ?_)
        ·have hc81 := hc; clear hc
         refine seqF (regF ?_)
         refine op_assign rfl rfl ?_
         refine endF (XF.thenN ?_)
         refine retF ?_
         refine XF.blkR ?_
         refine XF.thenR ?_
         refine XF.thenR ?_
         refine XF.blkR ?_
         refine XF.thenR ?_
         refine XF.res (res1 Tryz.results18 rfl) ?_
         exact ⟨rbool (r_false hr (fun h => by have h6 := h.2.2.2.2.2; rw [all_false_at hzp (by simpa using hc81)] at h6; simp at h6)), hS.below⟩
        ·have hc81 := hc; clear hc
         refine skipF ?_
         refine XF.blkN ?_
         refine XF.thenN ?_
         refine regF ?_
         refine op_move rfl rfl ?_
         refine op_add rfl rfl (IntWalk.i64_in _ (by omega)) rfl ?_
         refine op_assign rfl rfl ?_
         refine endF ?_
         exact XF.round (apl - (i + 1)) [(2, _), (3, _), (6, _)] (by omega) ⟨rfl, rfl, rfl, trivial⟩ ⟨i + 1, by omega, rfl, rfl, all_take_at hzp hall2 (by simpa using hc81), hS.clear⟩
       ·have hc67 := of_decide_eq_false hc; clear hc
        refine exitF ?_
        refine XF.thenX ?_
        refine XF.thenX ?_
        refine XF.blkX ?_
        refine XF.thenN ?_
        refine seqF (regF ?_)
        refine op_assign rfl rfl ?_
        refine endF (XF.thenN ?_)
        refine retF ?_
        refine XF.res (res1 Tryz.results18 rfl) ?_
        rw [List.take_of_length_le (by rw [List.length_zip]; omega)] at hall2
        exact ⟨rbool (r_true hr ⟨hz, hcc, hff.1, hff.2, hce, by rw [hall2, decide_eq_true (show ps.length = qs.length by omega)]; rfl⟩), hS.below⟩
theorem eqW_iff {k : Nat} {f g : WF} {ps qs : List WV} : eqW (k + 1) (.mk f ps) (.mk g qs) = true ↔ (f.z = g.z ∧ f.c = g.c ∧ f.g = g.g ∧ f.rows = g.rows ∧ f.cells = g.cells ∧ (decide (ps.length = qs.length) && (ps.zip qs).all fun x => eqW k x.1 x.2) = true) := by
 simp only [eqW]
 rw [Bool.and_eq_true, decide_eq_true_eq, Bool.and_eq_true, sameC_iff]
 constructor
 ·rintro ⟨⟨a, b, c, d⟩, e, h⟩; exact ⟨a, b, c, d, e, h⟩
 ·rintro ⟨a, b, c, d, e, h⟩; exact ⟨⟨a, b, c, d⟩, e, h⟩
theorem sameWR_is : ∀ (k j : Nat) (x y : WV) (w : World), WIn w k x → WIn w k y → smN j x = true → smN j y = true → Calls Tryz.prog 18 #[x.f.val, y.f.val] w fun e w' => e = .returned (.bool (eqW k x y)) ∧ Below w.heap.size w w'
 | 0, _, x, y, w, hx, hy, _, _ => hx.elim
 | k + 1, 0, x, y, w, hx, hy, h, _ => by simp [smN] at h
 | k + 1, j + 1, .mk ⟨az, ac, ag, ara, arl, arc, arows, aca, acl, acc, acells, apa, apl, apc⟩ ps, .mk ⟨bz, bc, bg, bra, brl, brc, brows, bca, bcl, bcc, bcells, bpa, bpl, bpc⟩ qs, w, hx, hy, h, h2 => by
  obtain ⟨a1, a2, a3, a4⟩ := smN_succ h
  obtain ⟨b1, b2, b3, b4⟩ := smN_succ h2
  dsimp only at a1 a2 a3 b1 b2 b3
  exact sameWR_step k j az ac ag ara arl arc arows aca acl acc acells apa apl apc bz bc bg bra brl brc brows bca bcl bcc bcells bpa bpl bpc ps qs w hx.1.rows hx.1.rl (by omega) hx.1.cells hx.1.cl (by omega) hy.1.rows hy.1.rl (by omega) hy.1.cells hy.1.cl (by omega) hx.2.1 hy.2.1 hx.2.2.1 hy.2.2.1 hx.2.2.2 hy.2.2.2 (by omega) a4 b4 (sameWR_is k j) _ eqW_iff
end Go.Proofs.YtfkbkekgnoanaaaGreatDoor
namespace Go.Proofs.YtfkbkekgnoanaaaGreatDoor
open Go Go.RowKit
theorem pdsA_is (ds d : Nat) (p : PV) (w : World) (h : PvIn w ds d p) : Calls Tryz.prog 30 #[p.val] w (fun e w' => e = .returned (.int .i64 (pdsE p)) ∧ Below w.heap.size w w') := pdsA_c ds d _ _ _ _ _ _ _ w h.s h.row h.len h.rin
end Go.Proofs.YtfkbkekgnoanaaaGreatDoor
namespace Go.Proofs.YtfkbkekgnoanaaaGreatDoor
open Go Go.RowKit
theorem confA_is (p : PV) (c : CV) (w : World) (h : CIn w c) : Calls Tryz.prog 31 #[p.val, c.val] w (fun e w' => e = .returned (.bool (confB p c)) ∧ Below w.heap.size w w') := confA_c p _ _ _ _ _ w h.row h.len
theorem stepA_is (ds d : Nat) (p : PV) (c : CV) (w : World) (hp : PvIn w ds d p) (hcf : CIn w c) :
  Calls Tryz.prog 12 #[p.val, c.val] w (fun e w' => e = .returned (.int .i64 (stepE p c)) ∧ Below w.heap.size w w') := by
 refine enterF (args := [p.val, c.val]) Tryz.func12 rfl Tryz.ntmps12 rfl ?_
 have hS := St.start w
 refine seqF (regF ?_)
 refine op_box (cs := [_, _, _, _, _, _]) hS rfl rfl rfl ?_
 clear hS; intro B1 W1 hS
 refine op_box (cs := [_, _]) hS rfl rfl rfl ?_
 clear hS; intro B2 W2 hS
 refine op_assign rfl rfl ?_
 refine endF (XF.thenN ?_)
 refine seqF ?_
 refine seqF (regF ?_)
 refine op_loadA (vs := [_, _, _, _, _, _]) Tryz.isAgg28 Tryz.sizeOf28 rfl (CellsAt.own (j := 0) (m := 6) (hS.at_ 1 rfl) rfl) rfl ?_
 refine op_call (vs := [_]) hS goes_30 rfl (pdsA_is ds d p _ (hp.below hS.below)) rfl ?_
 rintro e W3 ⟨rfl, hb⟩
 refine ⟨_, rfl, hb, fun hS' => ?_⟩
 clear hS; have hS := hS'; clear hS' hb
 refine op_assign rfl rfl ?_
 refine endF (XF.thenN ?_)
 refine seqF (regF ?_)
 refine op_move rfl rfl ?_
 refine op_neq rfl rfl rfl ?_
 refine endF (XF.thenN ?_)
 refine condF rfl (fun hc => ?_) (fun hc => ?_)
 ·have hc9 := of_decide_eq_true hc; clear hc
  refine seqF (regF ?_)
  refine op_move rfl rfl ?_
  refine op_assign rfl rfl ?_
  refine endF (XF.thenN ?_)
  refine retF ?_
  refine XF.thenR ?_
  refine XF.res (res1 Tryz.results12 rfl) ?_
  exact ⟨rint (by simp only [stepE]; rw [if_pos hc9]), hS.below⟩
 ·have hc9 := of_decide_eq_false hc; clear hc
  refine skipF ?_
  refine XF.thenN ?_
  refine seqF ?_
  refine seqF (regF ?_)
  refine op_loadA (vs := [_, _, _, _, _, _]) Tryz.isAgg28 Tryz.sizeOf28 rfl (CellsAt.own (j := 0) (m := 6) (hS.at_ 1 rfl) rfl) rfl ?_
  refine op_loadA (vs := [_, _]) Tryz.isAgg31 Tryz.sizeOf31 rfl (CellsAt.own (j := 0) (m := 2) (hS.at_ 0 rfl) rfl) rfl ?_
  refine op_call (vs := [_, _]) hS goes_31 rfl (confA_is p c _ (hcf.below hS.below)) rfl ?_
  rintro e W4 ⟨rfl, hb⟩
  refine ⟨_, rfl, hb, fun hS' => ?_⟩
  clear hS; have hS := hS'; clear hS' hb
  refine op_not rfl rfl ?_
  refine endF (XF.thenN ?_)
  refine condF rfl (fun hc => ?_) (fun hc => ?_)
  ·have hc14 := hc; clear hc
   refine seqF (regF ?_)
   refine op_assign rfl rfl ?_
   refine endF (XF.thenN ?_)
   refine retF ?_
   refine XF.thenR ?_
   refine XF.res (res1 Tryz.results12 rfl) ?_
   exact ⟨rint (by simp only [stepE]; rw [if_neg hc9, if_neg (by simpa using hc14)]), hS.below⟩
  ·have hc14 := hc; clear hc
   refine skipF ?_
   refine XF.thenN ?_
   refine seqF (regF ?_)
   refine op_assign rfl rfl ?_
   refine endF (XF.thenN ?_)
   refine retF ?_
   refine XF.res (res1 Tryz.results12 rfl) ?_
   exact ⟨rint (by simp only [stepE]; rw [if_neg hc9, if_pos (by simpa using hc14)]), hS.below⟩
end Go.Proofs.YtfkbkekgnoanaaaGreatDoor
namespace Go.Proofs.YtfkbkekgnoanaaaGreatDoor
open Go Go.RowKit
theorem take_same {xs ys : List Int} {i : Nat} {y z : Int} (h : xs.take i = ys.take i) (hy : xs[i]? = some y) (hz : ys[i]? = some z) (e : y = z) : xs.take (i + 1) = ys.take (i + 1) := by
 rw [List.take_add_one, List.take_add_one, h, hy, hz, e]
theorem sameC_c (p : Int) (wa : Option Addr) (wl wc : Nat) (ws : List Int) (q : Int) (va : Option Addr) (vl vc : Nat) (vs : List Int) (w : World) (hrow : Row w wa ws) (hlen : ws.length = wl) (hrov : Row w va vs) (hlev : vs.length = vl) (hmx : wl ≤ 9223372036854775807) :
  Calls Tryz.prog 17 #[.agg #[.int .i64 p, .slice wa wl wc], .agg #[.int .i64 q, .slice va vl vc]] w (fun e w' => e = .returned (.bool (decide (p = q ∧ ws = vs))) ∧ Below w.heap.size w w') := by
 refine enterF (args := [.agg #[.int .i64 p, .slice wa wl wc], .agg #[.int .i64 q, .slice va vl vc]]) Tryz.func17 rfl Tryz.ntmps17 rfl ?_
 have hS := St.start w
 refine seqF (regF ?_)
 refine op_box (cs := [_, _]) hS rfl rfl rfl ?_
 clear hS; intro B1 W1 hS
 refine op_box (cs := [_, _]) hS rfl rfl rfl ?_
 clear hS; intro B2 W2 hS
 refine op_assign rfl rfl ?_
 refine endF (XF.thenN ?_)
 refine seqF ?_
 refine seqF (regF ?_)
 refine op_field (o' := 0) fa_31_0 rfl rfl rfl ?_
 refine op_load Tryz.isAgg3 rfl (cell_own (hS.at_ 1 rfl) rfl) rfl ?_
 refine op_field (o' := 0) fa_31_0 rfl rfl rfl ?_
 refine op_load Tryz.isAgg3 rfl (cell_own (hS.at_ 0 rfl) rfl) rfl ?_
 refine op_neq rfl rfl rfl ?_
 refine op_move rfl rfl ?_
 refine op_cases (d := 11) rfl (fun hc => ?_) (fun hc => ?_)
 ·have hg11 := of_decide_eq_true hc; clear hc
  refine op_notF (d := 11) rfl rfl rfl rfl ?_
  refine op_notF (d := 11) rfl rfl rfl rfl ?_
  refine op_notF (d := 11) rfl rfl rfl rfl ?_
  refine op_notF (d := 11) rfl rfl rfl rfl ?_
  refine op_notF (d := 11) rfl rfl rfl rfl ?_
  refine op_notF (d := 11) rfl rfl rfl rfl ?_
  refine op_notF (d := 11) rfl rfl rfl rfl ?_
  refine op_pickT rfl rfl rfl ?_
  refine endF (XF.thenN ?_)
  refine condT rfl ?_
  refine seqF (regF ?_)
  refine op_assign rfl rfl ?_
  refine endF (XF.thenN ?_)
  refine retF ?_
  refine XF.thenR ?_
  refine XF.res (res1 Tryz.results17 rfl) ?_
  exact ⟨rbool (decide_eq_false (fun h => absurd h.1 (by omega))).symm, hS.below⟩
 ·have hg11 := of_decide_eq_false hc; clear hc
  refine op_wantedF (d := 11) rfl rfl ?_
  refine op_field (o' := 1) fa_31_1 rfl rfl rfl ?_
  refine op_wantedF (d := 11) rfl rfl ?_
  refine op_load Tryz.isAgg29 rfl (cell_own (hS.at_ 1 rfl) rfl) rfl ?_
  refine op_wantedF (d := 11) rfl rfl ?_
  refine op_len Tryz.underlying29 rfl rfl ?_
  refine op_wantedF (d := 11) rfl rfl ?_
  refine op_field (o' := 1) fa_31_1 rfl rfl rfl ?_
  refine op_wantedF (d := 11) rfl rfl ?_
  refine op_load Tryz.isAgg29 rfl (cell_own (hS.at_ 0 rfl) rfl) rfl ?_
  refine op_wantedF (d := 11) rfl rfl ?_
  refine op_len Tryz.underlying29 rfl rfl ?_
  refine op_wantedF (d := 11) rfl rfl ?_
  refine op_neq rfl rfl rfl ?_
  refine op_pickF rfl rfl rfl ?_
  refine endF (XF.thenN ?_)
  refine condF rfl (fun hc => ?_) (fun hc => ?_)
  ·have hc19 := of_decide_eq_true hc; clear hc
   refine seqF (regF ?_)
   refine op_assign rfl rfl ?_
   refine endF (XF.thenN ?_)
   refine retF ?_
   refine XF.thenR ?_
   refine XF.res (res1 Tryz.results17 rfl) ?_
   exact ⟨rbool (decide_eq_false (fun h => absurd (congrArg List.length h.2) (by omega))).symm, hS.below⟩
  ·have hc19 := of_decide_eq_false hc; clear hc
   have hpq : p = q := by omega
   have hll : wl = vl := by omega
   refine skipF ?_
   refine XF.thenN ?_
   refine seqF ?_
   refine seqF (regF ?_)
   refine op_assign rfl rfl ?_
   refine endF (XF.thenN ?_)
   refine blockF ?_
   refine loopF (fun m l W => ∃ i : Nat, i ≤ wl ∧ m = wl - i ∧ l = [(2, .pointer (some ⟨B1, 0, none⟩)), (3, .pointer (some ⟨B2, 0, none⟩)), (5, .int .i64 (i : Int))] ∧ ws.take i = vs.take i ∧ St w [(B2, [.int .i64 q, .slice va vl vc], 31), (B1, [.int .i64 p, .slice wa wl wc], 31)] [] [] W) (wl - 0) ([(2, _), (3, _), (5, _)]) ⟨rfl, rfl, rfl, trivial⟩ (⟨0, Nat.zero_le _, rfl, rfl, rfl, hS.clear⟩) ?_
   clear hS
   rintro m l W ⟨i, hi, rfl, rfl, hall, hS⟩
   refine seqF ?_
   refine seqF (regF ?_)
   refine op_move rfl rfl ?_
   refine op_field (o' := 1) fa_31_1 rfl rfl rfl ?_
   refine op_load Tryz.isAgg29 rfl (cell_own (hS.at_ 1 rfl) rfl) rfl ?_
   refine op_len Tryz.underlying29 rfl rfl ?_
   refine op_lss rfl rfl rfl ?_
   refine endF (XF.thenN ?_)
   refine condF rfl (fun hc => ?_) (fun hc => ?_)
   ·have hc24 := of_decide_eq_true hc; clear hc
    have hk : i < wl := by omega
    obtain ⟨b, off, y, rfl, hy, hyc⟩ := hrow.at1 (show i < ws.length by omega)
    obtain ⟨b2, off2, z, rfl, hz, hzc⟩ := hrov.at1 (show i < vs.length by omega)
    have k1 := hS.old hyc
    have k2 := hS.old hzc
    refine skipF ?_
    refine XF.thenN ?_
    refine seqF ?_
    refine blockF ?_
    refine seqF ?_
    refine regB (m := 11) followsM hS (by kernel_rfl) (by kernel_rfl) rfl ?_
    refine bl_cons 1 rfl (isV _) (stab_isV _) (rgV (li := [(2, _)]) rfl (w_free rfl) ⟨g_fr (by kernel_rfl) rfl, trivial⟩ (fun w hw => rn_field (o' := 1) fa_31_1 rfl rfl) (at_top rfl)) ?_
    refine bl_cons 2 rfl (isV _) (stab_isV _) (rgV (li := [(27, _)]) rfl (w_free rfl) ⟨g_dep 0 (by kernel_rfl) (at_dep rfl rfl rfl), trivial⟩ (fun w hw => rn_load Tryz.isAgg29 rfl ((below_agree hw 0).cell (Nat.zero_le _) (cell_own (hS.at_ 1 rfl) rfl))) (at_top rfl)) ?_
    refine bl_cons 3 rfl (isV _) (stab_isV _) (rgV (li := [(5, _)]) rfl (w_free rfl) ⟨g_fr (by kernel_rfl) rfl, trivial⟩ (fun w hw => rn_move rfl) (at_top rfl)) ?_
    refine bl_cons 4 rfl (isV _) (stab_isV _) (rgV (li := [(28, _), (29, _)]) rfl (w_free rfl) ⟨g_dep 1 (by kernel_rfl) (at_dep rfl rfl rfl), g_dep 2 (by kernel_rfl) (at_dep rfl rfl rfl), trivial⟩ (fun w hw => rn_indexA  Tryz.underlying29 Tryz.sizeOf3 rfl rfl rfl (by omega) rfl) (at_top rfl)) ?_
    refine bl_cons 5 rfl (isV _) (stab_isV _) (rgV (li := [(30, _)]) rfl (w_free rfl) ⟨g_dep 3 (by kernel_rfl) (at_dep rfl rfl rfl), trivial⟩ (fun w hw => rn_load Tryz.isAgg3 rfl ((below_agree hw 0).cell (Nat.zero_le _) (by assumption))) (at_top rfl)) ?_
    refine bl_cons 6 rfl (isV _) (stab_isV _) (rgV (li := [(3, _)]) rfl (w_free rfl) ⟨g_fr (by kernel_rfl) rfl, trivial⟩ (fun w hw => rn_field (o' := 1) fa_31_1 rfl rfl) (at_top rfl)) ?_
    refine bl_cons 7 rfl (isV _) (stab_isV _) (rgV (li := [(32, _)]) rfl (w_free rfl) ⟨g_dep 5 (by kernel_rfl) (at_dep rfl rfl rfl), trivial⟩ (fun w hw => rn_load Tryz.isAgg29 rfl ((below_agree hw 0).cell (Nat.zero_le _) (cell_own (hS.at_ 0 rfl) rfl))) (at_top rfl)) ?_
    refine bl_cons 8 rfl (isV _) (stab_isV _) (rgV (li := [(5, _)]) rfl (w_free rfl) ⟨g_fr (by kernel_rfl) rfl, trivial⟩ (fun w hw => rn_move rfl) (at_top rfl)) ?_
    refine bl_cons 9 rfl (isV _) (stab_isV _) (rgV (li := [(33, _), (34, _)]) rfl (w_free rfl) ⟨g_dep 6 (by kernel_rfl) (at_dep rfl rfl rfl), g_dep 7 (by kernel_rfl) (at_dep rfl rfl rfl), trivial⟩ (fun w hw => rn_indexA  Tryz.underlying29 Tryz.sizeOf3 rfl rfl rfl (by omega) rfl) (at_top rfl)) ?_
    refine bl_cons 10 rfl (isV _) (stab_isV _) (rgV (li := [(35, _)]) rfl (w_free rfl) ⟨g_dep 8 (by kernel_rfl) (at_dep rfl rfl rfl), trivial⟩ (fun w hw => rn_load Tryz.isAgg3 rfl ((below_agree hw 0).cell (Nat.zero_le _) (by assumption))) (at_top rfl)) ?_
    refine bl_cons 11 rfl (isV _) (stab_isV _) (rgV (li := [(31, _), (36, _)]) rfl (w_free rfl) ⟨g_dep 4 (by kernel_rfl) (at_dep rfl rfl rfl), g_dep 9 (by kernel_rfl) (at_dep rfl rfl rfl), trivial⟩ (fun w hw => rn_neq rfl rfl) (at_top rfl)) ?_
    refine bl_nil ?_
    intro W3 hbR hS'
    clear hS; have hS := hS'; clear hS'
    refine fin_v ?_
    refine fin_v ?_
    refine fin_v ?_
    refine fin_v ?_
    refine fin_v ?_
    refine fin_v ?_
    refine fin_v ?_
    refine fin_v ?_
    refine fin_v ?_
    refine fin_v ?_
    refine fin_v ?_
    refine fin_nil ?_
    refine XF.thenN ?_
    refine condF rfl (fun hc => ?_) (fun hc => ?_)
    ·have hc37 := hc; clear hc
     refine seqF (regF ?_)
     refine op_assign rfl rfl ?_
     refine endF (XF.thenN ?_)
     refine retF ?_
     refine XF.blkR ?_
     refine XF.thenR ?_
     refine XF.thenR ?_
     refine XF.blkR ?_
     refine XF.thenR ?_
     refine XF.res (res1 Tryz.results17 rfl) ?_
     exact ⟨rbool (decide_eq_false (fun h => absurd (show y = z by have e := h.2 ▸ hy; rw [hz] at e; exact (Option.some.inj e).symm) (by simpa using hc37))).symm, hS.below⟩
    ·have hc37 := hc; clear hc
     refine skipF ?_
     refine XF.blkN ?_
     refine XF.thenN ?_
     refine regF ?_
     refine op_move rfl rfl ?_
     refine op_add rfl rfl (IntWalk.i64_in _ (by omega)) rfl ?_
     refine op_assign rfl rfl ?_
     refine endF ?_
     exact XF.round (wl - (i + 1)) [(2, _), (3, _), (5, _)] (by omega) ⟨rfl, rfl, rfl, trivial⟩ ⟨i + 1, by omega, rfl, rfl, take_same hall hy hz (by simpa using hc37), hS.clear⟩
   ·have hc24 := of_decide_eq_false hc; clear hc
    refine exitF ?_
    refine XF.thenX ?_
    refine XF.thenX ?_
    refine XF.blkX ?_
    refine XF.thenN ?_
    refine seqF (regF ?_)
    refine op_assign rfl rfl ?_
    refine endF (XF.thenN ?_)
    refine retF ?_
    refine XF.res (res1 Tryz.results17 rfl) ?_
    rw [List.take_of_length_le (by omega), List.take_of_length_le (by omega)] at hall
    exact ⟨rbool (decide_eq_true ⟨hpq, hall⟩).symm, hS.below⟩
end Go.Proofs.YtfkbkekgnoanaaaGreatDoor
namespace Go.Proofs.YtfkbkekgnoanaaaGreatDoor
open Go Go.RowKit
abbrev ringV (sf : SF) (f0 : WF) : Value := .agg #[.int .i64 sf.tag, .int .i64 sf.dim, .slice sf.a sf.len sf.cap, .bool f0.z, .int .i64 f0.c, .int .u64 (f0.g : Int), .slice f0.ra f0.rl f0.rc, .slice f0.ca f0.cl f0.cc, .slice f0.pa f0.pl f0.pc]
theorem ringOf_is (S : PS) (sf : SF) (w : World) (hs : SIs w S sf) (hok : S.ok) :
  Calls Tryz.prog 35 #[sf.val] w (fun e w' => ∃ f0 : WF, e = .returned (ringV sf f0) ∧ XNew w.heap.size w' S f0 (zeroX S) ∧ Below w.heap.size w w') := by
 refine enterF (args := [sf.val]) Tryz.func35 rfl Tryz.ntmps35 rfl ?_
 have hS := St.start w
 refine seqF (regF ?_)
 refine op_box (cs := [_, _, _]) hS rfl rfl rfl ?_
 clear hS; intro B1 W1 hS
 refine op_alloc (cs := [_, _, _, _, _, _, _, _, _]) hS Tryz.zeroValue77 rfl rfl ?_
 clear hS; intro B2 W2 hS
 refine endF (XF.thenN ?_)
 refine seqF (regF ?_)
 refine op_loadA (vs := [_, _, _]) Tryz.isAgg25 Tryz.sizeOf25 rfl (CellsAt.own (j := 0) (m := 3) (hS.at_ 1 rfl) rfl) rfl ?_
 have hsz := hS.below.size
 refine op_call (vs := [_]) hS goes_53 rfl (ZeroW_ok S sf _ (hs.below hS.below) hok) rfl ?_
 rintro e W3 ⟨f0, rfl, hn, hb⟩
 refine ⟨_, rfl, hb, fun hS' => ?_⟩
 clear hS; have hS := hS'; clear hS'
 refine op_move rfl rfl ?_
 refine op_extract rfl rfl rfl ?_
 refine op_extract rfl rfl rfl ?_
 refine op_alloc (cs := [_, _, _, _, _, _]) hS Tryz.zeroValue48 rfl rfl ?_
 clear hS; intro B4 W4 hS
 refine op_storeA (i := 0) (vs := [_, _, _, _, _, _]) (cs' := [_, _, _, _, _, _]) (O' := [_, _, _]) hS Tryz.sizeOf48 rfl rfl rfl rfl rfl rfl rfl ?_
 clear hS; intro W5 hS
 refine op_assign rfl rfl ?_
 refine endF (XF.thenN ?_)
 refine seqF (regF ?_)
 refine op_loadA (vs := [_, _, _]) Tryz.isAgg25 Tryz.sizeOf25 rfl (CellsAt.own (j := 0) (m := 3) (hS.at_ 2 rfl) rfl) rfl ?_
 refine op_loadA (vs := [_, _, _, _, _, _]) Tryz.isAgg48 Tryz.sizeOf48 rfl (CellsAt.own (j := 0) (m := 6) (hS.at_ 0 rfl) rfl) rfl ?_
 refine op_build (us := [(0, .agg (List.toArray [_, _, _])), (1, .agg (List.toArray [_, _, _, _, _, _]))]) rfl (bld_77_0_1 _ _ _ _ _ _ _ _ _) rfl ?_
 refine op_storeA (i := 1) (vs := [_, _, _, _, _, _, _, _, _]) (cs' := [_, _, _, _, _, _, _, _, _]) (O' := [_, _, _]) hS Tryz.sizeOf77 rfl rfl rfl rfl rfl rfl rfl ?_
 clear hS; intro W6 hS
 refine endF (XF.thenN ?_)
 refine retF ?_
 refine XF.res (resC1 (vs := [_, _, _, _, _, _, _, _, _]) Tryz.results35 Tryz.isAgg77 Tryz.sizeOf77 rfl (CellsAt.own (j := 0) (m := 9) (hS.at_ 1 rfl) rfl)) ?_
 exact ⟨f0, rfl, (hn.agree (hS.since 0 rfl)).mono hsz, hS.below⟩
theorem ringOne_is (S : PS) (sf : SF) (f0 : WF) (w : World) (hs : SIs w S sf) (hok : S.ok) :
  Calls Tryz.prog 36 #[ringV sf f0] w (WRet S (oneX S) w) := by
 refine enterF (args := [ringV sf f0]) Tryz.func36 rfl Tryz.ntmps36 rfl ?_
 have hS := St.start w
 refine seqF (regF ?_)
 refine op_box (cs := [_, _, _, _, _, _, _, _, _]) hS rfl rfl rfl ?_
 clear hS; intro B1 W1 hS
 refine op_alloc (cs := [_, _, _, _, _, _]) hS Tryz.zeroValue48 rfl rfl ?_
 clear hS; intro B2 W2 hS
 refine endF (XF.thenN ?_)
 refine seqF (regF ?_)
 refine op_field (o' := 0) fa_77_0 rfl rfl rfl ?_
 refine op_loadA (vs := [_, _, _]) Tryz.isAgg25 Tryz.sizeOf25 rfl (CellsAt.own (j := 0) (m := 3) (hS.at_ 1 rfl) rfl) rfl ?_
 have hsz := hS.below.size
 refine op_call (vs := [_]) hS goes_54 rfl (OneW_ok S sf _ (hs.below hS.below) hok) rfl ?_
 rintro e W3 ⟨f, rfl, hn, hb⟩
 refine ⟨_, rfl, hb, fun hS' => ?_⟩
 clear hS; have hS := hS'; clear hS'
 refine op_move rfl rfl ?_
 refine op_extract rfl rfl rfl ?_
 refine op_extract rfl rfl rfl ?_
 refine op_alloc (cs := [_, _, _, _, _, _]) hS Tryz.zeroValue48 rfl rfl ?_
 clear hS; intro B4 W4 hS
 refine op_storeA (i := 0) (vs := [_, _, _, _, _, _]) (cs' := [_, _, _, _, _, _]) (O' := [_, _, _]) hS Tryz.sizeOf48 rfl rfl rfl rfl rfl rfl rfl ?_
 clear hS; intro W5 hS
 refine op_assign rfl rfl ?_
 refine endF (XF.thenN ?_)
 refine seqF (regF ?_)
 refine op_loadA (vs := [_, _, _, _, _, _]) Tryz.isAgg48 Tryz.sizeOf48 rfl (CellsAt.own (j := 0) (m := 6) (hS.at_ 0 rfl) rfl) rfl ?_
 refine op_storeA (i := 1) (vs := [_, _, _, _, _, _]) (cs' := [_, _, _, _, _, _]) (O' := [_, _, _]) hS Tryz.sizeOf48 rfl rfl rfl rfl rfl rfl rfl ?_
 clear hS; intro W6 hS
 refine endF (XF.thenN ?_)
 refine retF ?_
 refine XF.res (resC1 (vs := [_, _, _, _, _, _]) Tryz.results36 Tryz.isAgg48 Tryz.sizeOf48 rfl (CellsAt.own (j := 0) (m := 6) (hS.at_ 1 rfl) rfl)) ?_
 exact ⟨f, rfl, (hn.agree (hS.since 0 rfl)).mono hsz, hS.below⟩
theorem ringTimes_is (S : PS) (sf : SF) (rf : WF) (w : World) (hs : SIs w S sf) (hok : S.ok) (a : Option Addr) (c m : Nat) (f0 : WF) (x0 : PX) (ft : List WF) (xt : List PX) (hr : FRow w a (f0 :: ft)) (hx : XL w S (f0 :: ft) (x0 :: xt)) (hm : ft.length + 1 = m) (hmc : m ≤ c) (hmx : m ≤ 9223372036854775807) (ht : Tabs w) :
  Calls Tryz.prog 39 #[ringV sf rf, .slice a m c] w (WRet S (xt.foldl (extX S) x0) w) := by
 refine enterF (args := [ringV sf rf, .slice a m c]) Tryz.func39 rfl Tryz.ntmps39 rfl ?_
 have hS := St.start w
 refine seqF (regF ?_)
 refine op_box (cs := [_, _, _, _, _, _, _, _, _]) hS rfl rfl rfl ?_
 clear hS; intro B1 W1 hS
 refine op_alloc (cs := [_, _, _, _, _, _]) hS Tryz.zeroValue48 rfl rfl ?_
 clear hS; intro B2 W2 hS
 refine endF (XF.thenN ?_)
 refine seqF (regF ?_)
 refine op_field (o' := 0) fa_77_0 rfl rfl rfl ?_
 refine op_loadA (vs := [_, _, _]) Tryz.isAgg25 Tryz.sizeOf25 rfl (CellsAt.own (j := 0) (m := 3) (hS.at_ 1 rfl) rfl) rfl ?_
 refine op_move rfl rfl ?_
 have hsz := hS.below.size
 refine op_call (vs := [_, _]) hS goes_55 rfl (ExtendW_ok S sf _ (hs.below hS.below) hok a c m f0 x0 ft xt (hr.below hS.below) (hx.below hS.below) hm hmc hmx (ht.below hS.below)) rfl ?_
 rintro e W3 ⟨f, rfl, hn, hb⟩
 refine ⟨_, rfl, hb, fun hS' => ?_⟩
 clear hS; have hS := hS'; clear hS'
 refine op_move rfl rfl ?_
 refine op_extract rfl rfl rfl ?_
 refine op_extract rfl rfl rfl ?_
 refine op_alloc (cs := [_, _, _, _, _, _]) hS Tryz.zeroValue48 rfl rfl ?_
 clear hS; intro B4 W4 hS
 refine op_storeA (i := 0) (vs := [_, _, _, _, _, _]) (cs' := [_, _, _, _, _, _]) (O' := [_, _, _]) hS Tryz.sizeOf48 rfl rfl rfl rfl rfl rfl rfl ?_
 clear hS; intro W5 hS
 refine op_assign rfl rfl ?_
 refine endF (XF.thenN ?_)
 refine seqF (regF ?_)
 refine op_loadA (vs := [_, _, _, _, _, _]) Tryz.isAgg48 Tryz.sizeOf48 rfl (CellsAt.own (j := 0) (m := 6) (hS.at_ 0 rfl) rfl) rfl ?_
 refine op_storeA (i := 1) (vs := [_, _, _, _, _, _]) (cs' := [_, _, _, _, _, _]) (O' := [_, _, _]) hS Tryz.sizeOf48 rfl rfl rfl rfl rfl rfl rfl ?_
 clear hS; intro W6 hS
 refine endF (XF.thenN ?_)
 refine retF ?_
 refine XF.res (resC1 (vs := [_, _, _, _, _, _]) Tryz.results39 Tryz.isAgg48 Tryz.sizeOf48 rfl (CellsAt.own (j := 0) (m := 6) (hS.at_ 1 rfl) rfl)) ?_
 exact ⟨f, rfl, (hn.agree (hS.since 0 rfl)).mono hsz, hS.below⟩
end Go.Proofs.YtfkbkekgnoanaaaGreatDoor
namespace Go.Proofs.YtfkbkekgnoanaaaGreatDoor
open Go Go.RowKit
section
variable {P : Program} {ops : Array Oper} {Q : Exit → Act → World → Prop} {σ : Type}
end
section
variable {lo : Nat} {X X' : Nat → Prop} {w w' w'' : World} {p : Asr} {v c : Value}
end
section
variable {P : Program} {n : Nat} {Q : Exit → Act → World → Prop} {l : Fr} {w0 W : World} {ops : Array Oper} {os : List Oper} {K : List (Nat × World)} {L : List Asr} {i : Nat}
variable {al : List Nat} {ca : Nat → Option Value → List Value} {ta : Nat → TypeId} {Os : Option Value → Own} {Gs : Option Value → Grows} {lo ef jy : Nat} {s : Sg}
variable {d : Nat} {op : Op} {ty : TypeId} {pos : String} {aft_ : Array Edge} {v : Value} {gd : Option (Nat × Bool)}
theorem sg_call {f : FuncId} {xs : List Operand} {ts : Array TypeId} (ps : List Asr) (hal : al.contains i = false) (hie : Nat.beq i ef = false) (hij : earlyJ ops ef jy i = true) (hi : ops[i]? = some ⟨some d, .call { callee := .value (.func f), args := xs.toArray, argTypes := ts }, ty, pos, aft_, gd⟩) (hNo : NoAsr al ef L) (hgo : goesIn P f = true)
  (hw : Wants ops L i ⟨some d, .call { callee := .value (.func f), args := xs.toArray, argTypes := ts }, ty, pos, aft_, gd⟩) (hp : AllP n ops l L i xs ps)
  {p : Asr} (hc : ∀ vs ev w, (earlyE ops ef i = true → ev = none) → St w0 (Os ev) (Gs ev) K w → lo ≤ w.heap.size → Holds ps vs w → Calls P f vs.toArray w (GivesN p w)) (hI : atI L i = p) : SG P n ops Q l w0 K lo al ef jy ca ta Os Gs L i :=
 sg_base (fun h => by rw [List.contains_iff_mem.2 h] at hal; cases hal) (fun e => by rw [e, Nat.beq_refl] at hie; cases hie) (earlyJ_of hij) hi hNo fun t0 a s w h0 hF hG he hD hD' => by
  have hS : St w0 (Os s.ev) (Gs s.ev) K w := St.drops _ hG.1
  have h1 := hc (xs.map a.eval) s.ev w he hS hG.2.1 (allP_holds h0 hF hD' hp)
  rw [show (xs.map a.eval).toArray = xs.toArray.map a.eval by simp] at h1
  unfold wpOp
  simp only [hi, hw.yes hD', if_true]
  refine .inl ?_
  unfold Oper.wp
  rw [run_call P a.eval w f xs.toArray ts _ rfl rfl hgo, Oper.upon_enter]
  refine h1.mono ?_
  rintro e w' ⟨v, rfl, hv, hb⟩
  refine ⟨v, by simp, ?_, hb⟩
  rw [hI]
  intro w2 h2
  refine hv w2 ⟨h2.2.1, fun b h3 h4 => h2.2.2 b (Nat.le_trans hG.2.1 h3) h4 (fun hx => ?_)⟩
  rcases hx with ⟨q, hq, rfl⟩ | ⟨g, hg, hgb⟩
  ·have := lt_of_heap (hG.1.own q hq).2; omega
  ·have := (hG.1.glt hg hgb).2; omega
theorem sg_alloc {T : TypeId} {z : Value} (hal : al.contains i = true) (hie : Nat.beq i ef = false) (hij : Nat.beq i jy = false) (hi : ops[i]? = some ⟨some d, .alloc T, ty, pos, aft_, none⟩) (hT : ta i = T) (hz : ∀ w, (zeroValue T).run P w = .ok z w) (hc : ∀ ev, (earlyE ops ef i = true → ev = none) → z.cells = (ca i ev).toArray) : SG P n ops Q l w0 K lo al ef jy ca ta Os Gs L i := fun t0 h0 s LB a w hF hG hV hs hcl hr hD => by
 have hal' : i ∈ al := List.contains_iff_mem.1 hal
 have hie' : i ≠ ef := fun e => by rw [e, Nat.beq_refl] at hie; cases hie
 have hcz := hc s.ev (fun he => ev_none hV hs hcl hr.1 he)
 have hB : Below w.heap.size w (w.alloc (.cells (ca i s.ev).toArray T)) := (Below.refl _ _).alloc (Nat.le_refl _) _
 have hnot : ¬ ∃ B, (i, B) ∈ s.bs := fun h => by have := (hV.1 i hal').2 h; rw [hr.1] at this; cases this
 refine wp_val hi rfl (v := .pointer (some ⟨w.heap.size, 0, none⟩)) (w' := w.alloc (.cells (ca i s.ev).toArray T)) (by unfold execOp; simp only []; simp [Instr.alloc, newVar, newRow, hz, hcz]) ?_
 have hX : ∀ b, XB (OE ca ta Os ⟨s.ev, (i, w.heap.size) :: s.bs⟩) (Gs s.ev) b → XB (OE ca ta Os s) (Gs s.ev) b ∨ w.heap.size ≤ b := by
  rintro b (⟨q, hq, rfl⟩ | h)
  ·unfold OE at hq
   rw [List.map_cons, List.cons_append] at hq
   rcases List.mem_cons.1 hq with rfl | hq
   ·exact .inr (Nat.le_refl _)
   ·exact .inl (.inl ⟨q, hq, rfl⟩)
  ·exact .inl (.inr h)
 refine ⟨⟨s.ev, (i, w.heap.size) :: s.bs⟩, _, by rw [hi]; rfl, ⟨fun a ha => ?_, fun q hq => ?_, List.Pairwise.cons (fun q hq e => hnot ⟨q.2, by rw [show i = q.1 from e]; exact hq⟩) hV.2.2.1, by rw [getD_set_ne false hie']; exact hV.2.2.2⟩, ⟨?_, Nat.le_trans hG.2.1 hB.size, fun q hq => ?_⟩, ⟨sameX_of hB, hX, fun q hq => List.mem_cons_of_mem _ hq, .inl rfl⟩, fun _ _ => ⟨fun _ => ⟨w.heap.size, List.mem_cons_self, rfl⟩, fun h => absurd h hie', fun h => absurd hij (by rw [h, Nat.beq_refl]; decide), fun h => absurd hal' h⟩⟩
 ·by_cases hai : a = i
  ·subst hai
   rw [Array.getD_eq_getD_getElem?, Array.getElem?_setIfInBounds_self_of_lt (by rw [hs]; exact (Array.getElem?_eq_some_iff.1 hi).1)]
   exact ⟨fun _ => ⟨_, List.mem_cons_self⟩, fun _ => rfl⟩
  ·rw [getD_set_ne false (Ne.symm hai), hV.1 a ha]
   constructor
   ·rintro ⟨B, hB⟩; exact ⟨B, List.mem_cons_of_mem _ hB⟩
   ·rintro ⟨B, hB⟩
    rcases List.mem_cons.1 hB with h | h
    ·exact absurd (congrArg Prod.fst h) hai
    ·exact ⟨B, h⟩
 ·rcases List.mem_cons.1 hq with rfl | hq
  ·exact hal'
  ·exact hV.2.1 q hq
 ·have h1 := hG.1.alloc (ca i s.ev) (ta i)
  rw [hT] at h1
  unfold OE
  rw [List.map_cons, List.cons_append, hT]
  exact h1
 ·rcases List.mem_cons.1 hq with rfl | hq
  ·exact hG.2.1
  ·exact hG.2.2 q hq
variable {Goal : List Asr → Prop}
end
end Go.Proofs.YtfkbkekgnoanaaaGreatDoor
namespace Go.Proofs.YtfkbkekgnoanaaaGreatDoor
open Go Go.RowKit
section
variable {P : Program} {n : Nat} {Q : Exit → Act → World → Prop} {l : Fr} {w0 W : World} {ops : Array Oper} {os : List Oper} {K : List (Nat × World)} {L : List Asr} {i : Nat} {O : Own} {G : Grows}
variable {al : List Nat} {zc : Nat → List Value} {ta : Nat → TypeId} {lo ef jy : Nat} {d : Nat} {ty : TypeId} {pos : String} {aft_ : Array Edge} {v : Value}
theorem caSt_at (zc : Nat → List Value) (a0 : Nat) (y : Value) : caSt zc a0 a0 (some y) = splice (zc a0) 0 y.cells.toList := by
 show (bif Nat.beq a0 a0 then splice (zc a0) 0 y.cells.toList else zc a0) = _
 rw [Nat.beq_refl, cond_true]
theorem caSt_ne (zc : Nat → List Value) {a0 a : Nat} (y : Value) (h : Nat.beq a a0 = false) : caSt zc a0 a (some y) = zc a := by
 show (bif Nat.beq a a0 then splice (zc a) 0 y.cells.toList else zc a) = _
 rw [h, cond_false]
def osNo (O : Own) : Option Value → Own := fun _ => O
theorem eff_stA {T : TypeId} {tx tyy m : Nat} {py : Asr} (a0 : Nat) (hal : al.contains ef = false) (hij : Nat.beq ef jy = false) (hi : ops[ef]? = some ⟨none, .store T (.tmp tx) (.tmp tyy), ty, pos, aft_, none⟩) (hjy : (ops[jy]?).bind (·.dst) = some tyy)
  (hwx : waitsFor ops ef a0 tx = true) (ha0 : al.contains a0 = true) (hwy : waitsFor ops ef jy tyy = true) (hja : al.contains jy = false) (hLy : atI L jy = py) (hsz : ∀ w, (sizeOf T).run P w = .ok m w) (hzl : Nat.ble m (zc a0).length = true) (hpy : ∀ v w, py v w → ∃ vs : List Value, v.cells = vs.toArray ∧ vs.length = m ∧ vs.all Value.oneCell' = true) : SG P n ops Q l w0 K lo al ef jy (caSt zc a0) ta (osNo O) (gsNo G) L ef :=
 sg_eff hal hij hi fun t0 a bs w h0 hF hG hbs hD => by
  obtain ⟨B, hB, ex⟩ := (hD a0 tx hwx).1 (List.contains_iff_mem.1 ha0)
  have hy := ((hD jy tyy hwy).2.2.2 (fun h => by rw [List.contains_iff_mem.2 h] at hja; cases hja) (fun e => by rw [e, Nat.beq_refl] at hij; cases hij)).here
  rw [hLy] at hy
  obtain ⟨vs, hc, hl, h1⟩ := hpy _ _ hy
  obtain ⟨k, hk⟩ := List.getElem?_of_mem hB
  have hkl := (List.getElem?_eq_some_iff.1 hk).1
  have hOk : (OE (caSt zc a0) ta (osNo O) ⟨none, bs⟩)[k]? = some (B, zc a0, ta a0) := by
   unfold OE
   rw [List.getElem?_append_left (by simpa using hkl), List.getElem?_map, hk]
   rfl
  have hXB : XB (OE (caSt zc a0) ta (osNo O) ⟨none, bs⟩) (gsNo G none) B := .inl ⟨_, List.mem_of_getElem? hOk, rfl⟩
  have hrun := storeAt_many (P := P) hsz hc hl h1 (hG.1.at_ k hOk) (j := 0) (by have := Nat.le_of_ble_eq_true hzl; omega)
  have hO' : OE (caSt zc a0) ta (osNo O) ⟨some (a.eval (.tmp tyy)), bs⟩ = (OE (caSt zc a0) ta (osNo O) ⟨none, bs⟩).set k (B, splice (zc a0) 0 vs, ta a0) := by
   unfold OE
   rw [List.set_append_left _ _ (by simpa using hkl)]
   congr 1
   apply List.ext_getElem?
   intro j
   rw [List.getElem?_set, List.getElem?_map, List.getElem?_map]
   by_cases hj : k = j
   ·subst hj
    rw [if_pos rfl, hk, if_pos (by simpa using hkl)]
    show some (B, caSt zc a0 a0 (some (a.eval (.tmp tyy))), ta a0) = _
    rw [caSt_at, hc]
   ·rw [if_neg hj]
    cases hq : bs[j]? with
    | none => rfl
    | some q =>
     have hne : q.1 ≠ a0 := fun e => by
      have hjl := (List.getElem?_eq_some_iff.1 hq).1
      have e1 := (List.getElem?_eq_some_iff.1 hq).2
      have e2 := (List.getElem?_eq_some_iff.1 hk).2
      have hp := List.pairwise_iff_getElem.1 hbs
      rcases Nat.lt_or_ge j k with h | h
      ·have := hp j k hjl hkl h; rw [e1, e2] at this; exact this e
      ·have := hp k j hkl hjl (by omega); rw [e1, e2] at this; exact this e.symm
     have hb : Nat.beq q.1 a0 = false := by
      cases hb : Nat.beq q.1 a0 with
      | true => exact absurd (Nat.eq_of_beq_eq_true hb) hne
      | false => rfl
     show some (q.2, caSt zc a0 q.1 (some (a.eval (.tmp tyy))), ta q.1) = some (q.2, caSt zc a0 q.1 none, ta q.1)
     rw [caSt_ne _ _ hb]
     rfl
  refine wp_store hi rfl rfl rfl (by rw [ex]; exact hrun) ⟨undef, a.eval (.tmp tyy), rfl, (fun d hd => by cases hd), ?_, setMany_sameX hXB, ?_, fun d hd => ?_⟩
  ·rw [hO']
   exact hG.1.setMany k vs 0 hOk
  ·rintro b (⟨p, hp, rfl⟩ | h)
   ·rw [hO'] at hp
    rcases List.mem_or_eq_of_mem_set hp with hp | rfl
    ·exact .inl (.inl ⟨p, hp, rfl⟩)
    ·exact .inl hXB
   ·exact .inl (.inr h)
  ·rw [hjy] at hd; cases hd; rfl
end
end Go.Proofs.YtfkbkekgnoanaaaGreatDoor
namespace Go.Proofs.YtfkbkekgnoanaaaGreatDoor
open Go Go.RowKit
theorem ownsRow_at {w : World} {base size n : Nat} {e : TypeId} {v : Value} {xs : List Value} (h : w.ownsRow base e size v n xs) (hn : 0 < n) : ∃ b c, v = .slice (some ⟨b, 0, none⟩) n c ∧ base ≤ b := by
 rcases h.2 with ⟨rfl, rfl⟩ | ⟨g, cap, cur, rfl, hb, _, _, _⟩
 ·omega
 ·exact ⟨_, cap, rfl, hb⟩
section
variable {w0 W : World} {O : Own} {G : Grows} {K : List (Nat × World)}
theorem St.castG {G' : Grows} (h : St w0 O G K W) (e : G = G') : St w0 O G' K W := e ▸ h
theorem Held.now {p : World → Prop} (h : Held w0 K p) (hS : St w0 O G K W) : p W := h hS (fun q hq => hq)
theorem Held.one {p : World → Prop} {lo : Nat} {A : World} (h : ∀ W2, Agree lo A W2 → p W2) : Held w0 [(lo, A)] p := fun h2 hk => h _ (h2.kept (lo, A) (hk _ List.mem_cons_self)).1
theorem St.cut (h : St w0 O G K W) (i : Nat) {b c nn k : Nat} {xs : List Value} {e : TypeId} {size : Nat} (hi : G[i]? = some ⟨.slice (some ⟨b, 0, none⟩) nn c, nn, xs, e, size⟩) (hk : k ≤ nn) : St w0 O (G.set i ⟨.slice (some ⟨b, 0, none⟩) k c, k, xs.take (k * size), e, size⟩) K W := by
 have hg := List.mem_of_getElem? hi
 have hrow := (h.rows _ hg).1
 refine h.setG i hi (v' := .slice (some ⟨b, 0, none⟩) k c) ?_ ⟨rfl, rfl, rfl, Nat.le_refl _, fun _ _ _ => rfl⟩ (.inl rfl)
 refine ⟨?_, ?_⟩
 ·have h2 : k * size ≤ nn * size := Nat.mul_le_mul_right _ hk
  have := hrow.1
  dsimp only at this ⊢; rw [List.length_take, this, Nat.min_eq_left h2]
 ·rcases hrow.2 with ⟨e1, _⟩ | ⟨g, cap, cur, e1, hg, hh, hn, hm, hs, ht⟩
  ·cases e1
  ·cases e1
   refine .inr ⟨b, c, cur, rfl, hg, hh, by dsimp only at hn; omega, hm, hs, ?_⟩
   have h2 : k * size ≤ nn * size := Nat.mul_le_mul_right _ hk
   dsimp only at ht ⊢
   rw [← ht, List.take_take, Nat.min_eq_left h2]
theorem St.turned (h : St w0 O G K W) (i : Nat) {b c nn q : Nat} {zs : List Int} {e : TypeId} (hi : G[i]? = some ⟨.slice (some ⟨b, 0, none⟩) nn c, nn, zs.map (Value.int .i64), e, 1⟩) : St w0 O (G.set i ⟨.slice (some ⟨b, 0, none⟩) nn c, nn, zs.reverse.map (Value.int .i64), e, 1⟩) K (Go.Sort.putRow (Value.int .i64) (Go.Sort.ahead W q) b 0 zs.reverse.toArray) := by
 have hg := List.mem_of_getElem? hi
 have hrow := (h.rows _ hg).1
 have hl : zs.length = nn := by have := hrow.1; simpa using this
 refine h.setG i hi (v' := .slice (some ⟨b, 0, none⟩) nn c) ?_ ⟨rfl, rfl, rfl, by simp [Go.Sort.putRow, Go.Sort.mapBlock, Go.Sort.ahead], fun k hk hne => ?_⟩ (.inl rfl)
 ·have := Go.Lib.ownsRow_putRow (q := q) hrow (ys := zs.reverse) (by simpa using hl) (Nat.le_refl _)
  rwa [List.take_of_length_le (by simp; omega)] at this
 ·have hne' : b ≠ k := fun e => hne (by rw [e]; rfl)
  simp [Go.Sort.putRow, Go.Sort.mapBlock, Go.Sort.ahead, Array.getElem?_modify, hne']
end
section
variable {P : Program} {n : Nat} {ops : Array Oper} {Q : Exit → Act → World → Prop} {l : Fr} {w0 W : World} {O : Own} {G : Grows} {K : List (Nat × World)} {os : List Oper} {d : Nat} {ty : TypeId} {pos : String} {aft : Array Edge}
theorem op_callX {f : FuncId} {args : Array Operand} {ts : Array TypeId} {vs : List Value} {R : Ending → World → Prop} (hgo : goesIn P f = true) (ha : args.toList.map (evL l) = vs.map some) (hc : Calls P f vs.toArray W R)
  (hd : Nat.blt d n = true)
  (h : ∀ e W', R e W' → ∃ v, e = .returned v ∧ OpsF P n ops Q os ((d, v) :: l) W') : OpsF P n ops Q (⟨some d, .call { callee := .value (.func f), args := args, argTypes := ts }, ty, pos, aft, none⟩ :: os) l W := fun a hl => by
 refine wpList_plain rfl fun K' hK => ?_
 unfold Oper.wp
 rw [run_call P a.eval W f args ts _ rfl rfl hgo, Oper.upon_enter]
 have hargs : args.map a.eval = vs.toArray := by
  have key : ∀ (xs : List Operand) (us : List Value), xs.map (evL l) = us.map some → xs.map a.eval = us := by
   intro xs
   induction xs with
   | nil => intro us h; cases us <;> simp at h ⊢
   | cons x xs ih =>
    intro us h
    cases us with
    | nil => simp at h
    | cons u us =>
     simp only [List.map_cons, List.cons.injEq] at h
     simp only [List.map_cons, hl.ev x u h.1, ih us h.2]
  apply Array.ext'
  rw [Array.toList_map, key _ _ ha]
 rw [hargs]
 refine hc.mono ?_
 intro e W' hRe
 obtain ⟨v, rfl, hn⟩ := h e W' hRe
 exact hK _ _ (hn _ (hl.put hd))
theorem op_callG {f : FuncId} {args : Array Operand} {ts : Array TypeId} {vs : List Value} {R : Ending → World → Prop} {e1 : TypeId} {size m : Nat} {xs : List Value} (hS : St w0 O G K W) (hgo : goesIn P f = true) (ha : args.toList.map (evL l) = vs.map some) (hc : Calls P f vs.toArray W R)
  (hd : Nat.blt d n = true) (hR : ∀ e W', R e W' → ∃ v, e = .returned v ∧ Below W.heap.size W W' ∧ W'.ownsRow W.heap.size e1 size v m xs)
  (h : ∀ v W', St w0 O (⟨v, m, xs, e1, size⟩ :: G) K W' → OpsF P n ops Q os ((d, v) :: l) W') : OpsF P n ops Q (⟨some d, .call { callee := .value (.func f), args := args, argTypes := ts }, ty, pos, aft, none⟩ :: os) l W :=
 op_callX hgo ha hc hd fun e W' hRe => by
  obtain ⟨v, h1, h2, h3⟩ := hR e W' hRe
  exact ⟨v, h1, h v W' (hS.adopt h2 h3)⟩
theorem op_rev {f : FuncId} {x : Operand} {ts : Array TypeId} {v : Value} {nn : Nat} {zs : List Int} {e1 : TypeId} (hS : St w0 O G K W) (i : Nat) (hgo : goesIn P f = true) (hx : evL l x = some v) (hi : G[i]? = some ⟨v, nn, zs.map (Value.int .i64), e1, 1⟩)
  (hc : ∀ (blk off cap : Nat) (zs : List Int) (w : World), Go.Sort.Holds (Value.int .i64) w blk off zs.toArray → zs.length ≤ 9223372036854775807 → Calls P f #[.slice (some ⟨blk, off, none⟩) zs.length cap] w fun e w' => e = .returned (.tuple #[]) ∧ ∃ n, w' = Go.Sort.putRow (Value.int .i64) (Go.Sort.ahead w n) blk off zs.reverse.toArray)
  (hc0 : ∀ (a : Option Addr) (cap : Nat) (w : World), Calls P f #[.slice a 0 cap] w fun e w' => e = .returned (.tuple #[]) ∧ w' = w)
  (hd : Nat.blt d n = true) (h : ∀ W', St w0 O (G.set i ⟨v, nn, zs.reverse.map (Value.int .i64), e1, 1⟩) K W' → OpsF P n ops Q os ((d, .tuple #[]) :: l) W') : OpsF P n ops Q (⟨some d, .call { callee := .value (.func f), args := #[x], argTypes := ts }, ty, pos, aft, none⟩ :: os) l W := by
 have hrow : W.ownsRow w0.heap.size e1 1 v nn (zs.map (Value.int .i64)) := hS.row i hi
 have hl : zs.length = nn := by have := hrow.1; simpa using this
 by_cases hv : v = .slice none 0 0
 ·subst hv
  have hn : nn = 0 := by
   rcases hrow.2 with ⟨_, h0⟩ | ⟨g, cap, cur, e0, _⟩
   ·exact h0
   ·cases e0
  subst hn
  have hz : zs = [] := List.eq_nil_of_length_eq_zero hl
  subst hz
  refine op_callX (vs := [.slice none 0 0]) hgo (by simp [hx]) (hc0 none 0 W) hd ?_
  rintro e W' ⟨rfl, rfl⟩
  refine ⟨_, rfl, h W' ?_⟩
  rw [List.reverse_nil]
  have e2 : G.set i ⟨.slice none 0 0, 0, ([] : List Int).map (Value.int .i64), e1, 1⟩ = G := by
   apply List.ext_getElem?
   intro j
   rw [List.getElem?_set]
   by_cases hj : i = j
   ·subst hj; rw [if_pos rfl, hi]; split <;> first | rfl | skip
    rename_i hlt; exact absurd (List.getElem?_eq_some_iff.1 hi).1 hlt
   ·rw [if_neg hj]
  rw [e2]; exact hS
 ·obtain ⟨g, cap, rfl, h1, h2, h3, h4, h5, hH⟩ := Go.Lib.holds_of_ownsRow hrow hv
  subst h5
  refine op_callX (vs := [.slice (some ⟨g, 0, none⟩) zs.length cap]) hgo (by simp [hx]) (hc g 0 cap zs W hH (by simp only [maxLen] at h4; omega)) hd ?_
  rintro e W' ⟨rfl, q, rfl⟩
  exact ⟨_, rfl, h _ (hS.turned i hi)⟩
theorem op_cut {T e : TypeId} {x y : Operand} {kk : IntKind} {k : Nat} {j : Int} {b c nn s : Nat} {xs : List Value} (hS : St w0 O G K W) (i : Nat) (hU : P.underlying T = some (.slice e)) (hs : ∀ w, (sizeOf e).run P w = .ok s w) (hi : G[i]? = some ⟨.slice (some ⟨b, 0, none⟩) nn c, nn, xs, e, s⟩) (hx : evL l x = some (.slice (some ⟨b, 0, none⟩) nn c)) (hy : evL l y = some (.int kk j)) (hj : j = (k : Int)) (hk : k ≤ nn) (hd : Nat.blt d n = true)
  (h : St w0 O (G.set i ⟨.slice (some ⟨b, 0, none⟩) k c, k, xs.take (k * s), e, s⟩) K W → OpsF P n ops Q os ((d, .slice (some ⟨b, 0, none⟩) k c) :: l) W) : OpsF P n ops Q (⟨some d, .slice T x none (some y) none, ty, pos, aft, none⟩ :: os) l W :=
 opV (v := .slice (some ⟨b, 0, none⟩) k c) (fun ev he => by
  subst hj
  have hc : nn ≤ c := by
   rcases (hS.row i hi).2 with ⟨e1, _⟩ | ⟨g, cap, cur, e1, _, _, hn, _⟩
   ·cases e1
   ·cases e1; exact hn
  have h1 : (0 : Int) ≤ (k : Int) := by omega
  have h2 : (k : Int) ≤ (c : Int) := by omega
  have h3 : k ≤ c := by omega
  unfold execOp; simp only [Option.map_some, Option.map_none]; rw [he x _ hx, he y _ hy]
  simp [Instr.sliceAt, Instr.slice, Instr.sliceBounds, Instr.sliceBound, run_underlying hU, asIntOf, h3, hs]
  intro _; rfl) hd (h (hS.cut i hi hk))
end
end Go.Proofs.YtfkbkekgnoanaaaGreatDoor
namespace Go.Proofs.YtfkbkekgnoanaaaGreatDoor
open Go Go.RowKit
theorem okW_plain {f : SF} {ps : List SV} {x : WV} (hp : plainB f.tag f.dim f.len = true) (ho : okW (.mk f ps) x = true) : pwOk f.tag f.dim x.f = true := by
 have h : (if plainB f.tag f.dim f.len = true then pwOk f.tag f.dim x.f else (match (generalizing := false) ps with | [p, q] => pairOk p q x.f x.ps | _ => false)) = true := ho
 rw [if_pos hp] at h
 exact h
theorem space_of {w : World} {d : Nat} {s : SV} (hs : SIn w d s) (hse : spaceE s = 0) : ∃ S : PS, S.ok ∧ SIs w S s.f ∧ ∀ (x : WV) (e : Nat), WIn w e x → okW s x = true → ∃ y, XIs w S x.f y := by
 match d, s, hs with
 | d + 1, .mk f ps, hs =>
  by_cases hp : plainB f.tag f.dim f.len = true
  ·obtain ⟨t, n, a, l, c⟩ := f
   dsimp only at hp
   obtain rfl : l = 0 := (plainB_tag hp).1
   refine ⟨.one t n, hp, ⟨a, c, rfl⟩, fun x e hx ho => ?_⟩
   match e, x, hx, ho with
   | e + 1, .mk g qs, hx, ho =>
    exact ⟨.one g.pf, PIs.of hp hx.1 (okW_plain (f := ⟨t, n, a, 0, c⟩) hp ho)⟩
  ·have hse' : (if plainB f.tag f.dim f.len = true then (0 : Int) else if f.tag = 5 ∧ f.dim = 0 ∧ ps.length = 2 ∧ ps.all SV.pl = true then 0 else 50) = 0 := hse
   rw [if_neg hp] at hse'
   split at hse'
   ·rename_i hq
    obtain ⟨h5, h0, h2, hall⟩ := hq
    obtain ⟨t, n, a, l, c⟩ := f
    dsimp only at h5 h0 hp
    subst h5; subst h0
    obtain ⟨p, q, rfl⟩ := two_of h2
    have hl : 2 = l := hs.1
    subst hl
    simp only [List.all_cons, List.all_nil, Bool.and_true, Bool.and_eq_true] at hall
    obtain ⟨_, b, off, ha, _, hp3, hq3, _, _⟩ := hs.two
    dsimp only at ha
    subst ha
    obtain ⟨⟨pt, pn, pa, pl, pc⟩, pps⟩ := p
    obtain ⟨⟨qt, qn, qa, ql, qc⟩, qps⟩ := q
    have e1 : plainB pt pn pl = true := hall.1
    have e2 : plainB qt qn ql = true := hall.2
    obtain rfl : pl = 0 := (plainB_tag e1).1
    obtain rfl : ql = 0 := (plainB_tag e2).1
    refine ⟨.two pt pn qt qn, ⟨e1, e2⟩, ⟨b, off, c, pa, pc, qa, qc, rfl, hp3, hq3⟩, fun x e hx ho => ?_⟩
    match e, x, hx, ho with
    | e + 1, .mk g qs, hx, ho =>
     have ho' : (if plainB 5 0 2 = true then pwOk 5 0 g else pairOk (.mk ⟨pt, pn, pa, 0, pc⟩ pps) (.mk ⟨qt, qn, qa, 0, qc⟩ qps) g qs) = true := ho
     rw [if_neg (show ¬ plainB 5 0 2 = true from hp)] at ho'
     unfold pairOk at ho'
     simp only [Bool.and_eq_true, Bool.not_eq_true', decide_eq_true_eq] at ho'
     obtain ⟨hbare, hz, h2q, o1, o2⟩ := ho'
     obtain ⟨x1, x2, rfl⟩ := two_of h2q
     obtain ⟨hpl, wb, wo, hpa, _, h6, h7, hx1, hx2⟩ := hx.two
     have hat := hx.1
     have hg : g.c = 0 ∧ g.g = 0 ∧ g.rl = 0 ∧ g.cl = 0 := by
      simp only [bareB, onlyB, hz, Bool.not_false, Bool.true_and, Bool.and_eq_true, Bool.or_eq_true, decide_eq_true_eq] at hbare
      obtain ⟨k1, k2, k3, _⟩ := hbare
      exact ⟨k1.resolve_left (by decide), (k2.resolve_left (by decide)).1, (k2.resolve_left (by decide)).2, k3.resolve_left (by decide)⟩
     have hr0 : g.rows = [] := List.eq_nil_of_length_eq_zero (by have := hat.rl; omega)
     have hc0 : g.cells = [] := List.eq_nil_of_length_eq_zero (by have := hat.cl; omega)
     refine ⟨.two x1.f.pf x2.f.pf, ?_, hg.2.2.1, hg.2.2.2, hpl, wb, wo, x1.f, x2.f, hpa, h6, h7, PIs.of e1 (WIn.at_ hx1) o1, PIs.of e2 (WIn.at_ hx2) o2⟩
     show (⟨g.z, g.c, g.g, g.rows, g.cells⟩ : PF) = pC 0
     unfold pC
     rw [hz, hg.1, hg.2.1, hr0, hc0]
   ·cases hse'
def isX (S : PS) (x : PX) : Asr := fun v w => ∃ f : WF, v = f.val ∧ XIs w S f x
theorem stab_isX {S : PS} {x : PX} : Stab (isX S x) := fun v w w' ⟨f, h1, h2⟩ hb => ⟨f, h1, h2.below hb⟩
def isRowX (S : PS) (xs : List PX) : Asr := fun v w => ∃ b fs, v = .slice (some ⟨b, 0, none⟩) xs.length xs.length ∧ FRow w (some ⟨b, 0, none⟩) fs ∧ XL w S fs xs
theorem stab_isRowX {S : PS} {xs : List PX} : Stab (isRowX S xs) := fun v w w' ⟨b, fs, h1, h2, h3⟩ hb => ⟨b, fs, h1, h2.below hb, h3.below hb⟩
section
variable {n : Nat} {Q : Exit → Act → World → Prop} {l : Fr} {W : World} {ops : Array Oper} {L : List Asr} {i d : Nat} {ty : TypeId} {pos : String} {aft : Array Edge} {gd : Option (Nat × Bool)} {S : PS} {x y z : PX} {p q r : Operand}
theorem rg_rowX2 (hi : ops[i]? = some ⟨some d, .buildSlice 46 2 (List.toArray [(0, p), (1, q)]), ty, pos, aft, gd⟩) (hw : Wants ops L i ⟨some d, .buildSlice 46 2 (List.toArray [(0, p), (1, q)]), ty, pos, aft, gd⟩) (hp : AllP n ops l L i [p, q] [isX S x, isX S y]) (hI : atI L i = isRowX S [x, y]) : RG Tryz.prog n ops Q l W L i :=
 rg_row [isX S x, isX S y] hi hw Tryz.underlying46 Tryz.sizeOf48 Tryz.zeroValue48 rfl rfl hp fun vs w hb hh => by
  obtain ⟨v1, v2, rfl, ⟨f, rfl, hf⟩, g, rfl, hg⟩ := holds2 hh
  exact ⟨f.six ++ g.six, bs_46_2 _ _ _ _ _ _ _ _ _ _ _ _, fun B w' hB h1 h2 => by rw [hI]; exact ⟨B, [f, g], rfl, frow2 h1, xl_cons (hf.below h2) (xl_cons (hg.below h2) xl_nil)⟩⟩
end
section
variable {w : World} {S : PS} {sf : SF} {x y z : PX} {vs : List Value}
end
end Go.Proofs.YtfkbkekgnoanaaaGreatDoor
namespace Go.Proofs.YtfkbkekgnoanaaaGreatDoor
open Go Go.RowKit
section
variable {S : PS} {px : RV → PX} {rs : List RV} {i : Int} {l : List Int} {k : Nat} {st st' : StT} {c : Int}
end
theorem us_cases (p q : Int) (us : List Int) : us = [] ∨ (0 < us.length ∧ p ≠ q) ∨ ∃ y t, us = y :: t ∧ p = q := by
 cases us with
 | nil => exact .inl rfl
 | cons y t =>
  by_cases h : p = q
  ·exact .inr (.inr ⟨y, t, rfl, h⟩)
  ·exact .inr (.inl ⟨Nat.succ_pos _, h⟩)
theorem top_at {t : List Int} {y : Int} : ((y :: t).reverse.map (Value.int .i64))[t.length]? = some (.int .i64 y) := by simp
theorem top_cut {t rws : List Int} {y : Int} : ((y :: t).reverse.map (Value.int .i64)).take (t.length * 1) = (t.reverse ++ rws.reverse.take 0).map (Value.int .i64) := by simp
theorem take_app {t rws : List Int} {y : Int} {j n : Nat} (hy : rws[n - 1 - j]? = some y) (hn : rws.length = n) (hj : j < n) : (t.reverse ++ rws.reverse.take j).map (Value.int .i64) ++ [.int .i64 y] = (t.reverse ++ rws.reverse.take (j + 1)).map (Value.int .i64) := by
 have h : rws.reverse[j]? = some y := by rw [List.getElem?_reverse (by omega), hn]; exact hy
 rw [List.take_add_one, h]
 simp
theorem isNew_mono {lo lo' : Nat} {S : PS} {x : PX} {v : Value} {w : World} (h : isNew lo S x v w) (hl : lo' ≤ lo) : isNew lo' S x v w := by
 obtain ⟨f, e, h⟩ := h
 exact ⟨f, e, h.mono hl⟩
theorem isX_of {lo : Nat} {S : PS} {x : PX} {v : Value} {w w' : World} (h : isNew lo S x v w) (hb : Below w.heap.size w w') : isX S x v w' := by
 obtain ⟨f, e, h⟩ := h
 exact ⟨f, e, h.is.below hb⟩
theorem one_givesN {P : Program} {f : FuncId} {vs : Array Value} {w : World} {S : PS} {x : PX} {lo : Nat} (hlo : lo ≤ w.heap.size) (h : Calls P f vs w (WRet S x w)) : Calls P f vs w (GivesN (isNew lo S x) w) := h.mono fun e w2 ⟨g, he, hn, hb⟩ => ⟨g.val, he, fun w3 hg => ⟨g, rfl, (hn.agree hg).mono hlo⟩, hb⟩
theorem times2 {w : World} {S : PS} {sf : SF} {f0 : WF} {x y : PX} {vs : List Value} {lo : Nat} (hh : Holds [isV (ringV sf f0), isRowX S [x, y]] vs w) (hs : SIs w S sf) (hok : S.ok) (ht : Tabs w) (hlo : lo ≤ w.heap.size) : Calls Tryz.prog 39 vs.toArray w (Gives (isNew lo S (extX S x y)) w) := by
 obtain ⟨v1, v2, rfl, rfl, b, fs, rfl, hr, hx⟩ := holds2 hh
 match fs, hr, hx with
 | g0 :: ft, hr, hx =>
  refine (ringTimes_is S sf f0 w hs hok _ 2 2 g0 x ft [y] hr hx (by have := hx.1; simpa using this) (by decide) (by decide) ht).mono ?_
  rintro e w' ⟨f, rfl, hn, hb⟩
  exact ⟨_, rfl, ⟨f, rfl, hn.mono hlo⟩, hb⟩
 | [], hr, hx => exact absurd hx.1 (by simp)
theorem clone_ints {w : World} {a : Option Addr} {l c : Nat} {ws : List Int} (h : Row w a ws) (hl : ws.length = l) (hm : l ≤ 8192) : Calls Tryz.prog 37 #[.slice a l c] w fun e w' => ∃ v, e = .returned v ∧ Below w.heap.size w w' ∧ w'.ownsRow w.heap.size 3 1 v l (ws.map (Value.int .i64)) := by
 cases a with
 | none =>
  have hw : ws = [] := by
   rcases h with h | ⟨b, off, h, _⟩
   ·exact h
   ·cases h
  subst hw; subst hl
  refine (Tryz.slices_Clone_int_nil _ c w).mono ?_
  rintro e w' ⟨rfl, rfl⟩
  exact ⟨_, rfl, Below.refl _ _, World.ownsRow_nil _ _ _ _⟩
 | some p =>
  rcases h with rfl | ⟨b, off, h, hc⟩
  ·subst hl
   refine (Tryz.slices_Clone_int_zero p c w).mono ?_
   rintro e w' ⟨v, rfl, h1, _, h2⟩
   exact ⟨_, rfl, h2, h1⟩
  ·cases h
   refine (Tryz.slices_Clone_int b off l c ws w (by omega) (by omega) hc).mono ?_
   rintro e w' ⟨v, rfl, h1, _, h2⟩
   rw [List.take_of_length_le (by omega)] at h1
   exact ⟨_, rfl, h2, h1⟩
theorem runA_c (ds d : Nat) (S : PS) (px : RV → PX) (s : SV) (st sy : Int) (ra : Option Addr) (rl rc : Nat) (rs : List RV) (p : Int) (wa : Option Addr) (wl wc : Nat) (ws : List Int) (la : Option Addr) (ll lc : Nat) (is : List Int) (w : World) (hs : SIn w ds s) (hprow : RRow w ra rs) (hplen : rs.length = rl) (hin : ∀ r ∈ rs, RIn w d r) (hrow : Row w wa ws) (hlen : ws.length = wl) (hcap : wl ≤ wc) (hrla : Row w la is) (hll : is.length = ll) (hlm : ll ≤ 9223372036854775807) (hsi : SIs w S s.f) (hok : S.ok) (hchk : stepE ⟨s, st, sy, ra, rl, rc, rs⟩ ⟨p, wa, wl, wc, ws⟩ = 0) (h4 : ∀ r ∈ rs, r.wl ≤ 4096) (hw4 : wl ≤ 4096) (hx : ∀ r ∈ rs, XIs w S r.x.f (px r)) (ht : Tabs w) :
  Calls Tryz.prog 15 #[.agg #[.int .i64 s.f.tag, .int .i64 s.f.dim, .slice s.f.a s.f.len s.f.cap, .int .i64 st, .int .i64 sy, .slice ra rl rc], .agg #[.int .i64 p, .slice wa wl wc], .slice la ll lc] w (RunRet S (runF S px rs is 0 (p, ws, oneX S)) w) := by
 refine enterF (args := [.agg #[.int .i64 s.f.tag, .int .i64 s.f.dim, .slice s.f.a s.f.len s.f.cap, .int .i64 st, .int .i64 sy, .slice ra rl rc], .agg #[.int .i64 p, .slice wa wl wc], .slice la ll lc]) Tryz.func15 rfl Tryz.ntmps15 rfl ?_
 have hS := St.start w
 refine seqF (regF ?_)
 refine op_box (cs := [_, _, _, _, _, _]) hS rfl rfl rfl ?_
 clear hS; intro B1 W1 hS
 refine op_box (cs := [_, _]) hS rfl rfl rfl ?_
 clear hS; intro B2 W2 hS
 refine op_alloc (cs := [_, _]) hS Tryz.zeroValue31 rfl rfl ?_
 clear hS; intro B3 W3 hS
 refine op_alloc (cs := [_, _, _, _, _, _]) hS Tryz.zeroValue48 rfl rfl ?_
 clear hS; intro B4 W4 hS
 refine op_assign rfl rfl ?_
 refine op_assign rfl rfl ?_
 refine endF (XF.thenN ?_)
 refine seqF ?_
 refine seqF (regF ?_)
 refine op_loadA (vs := [_, _, _, _, _, _]) Tryz.isAgg28 Tryz.sizeOf28 rfl (CellsAt.own (j := 0) (m := 6) (hS.at_ 3 rfl) rfl) rfl ?_
 refine op_loadA (vs := [_, _]) Tryz.isAgg31 Tryz.sizeOf31 rfl (CellsAt.own (j := 0) (m := 2) (hS.at_ 2 rfl) rfl) rfl ?_
 refine op_call (vs := [_, _]) hS goes_12 rfl (stepA_is ds d ⟨s, st, sy, ra, rl, rc, rs⟩ ⟨p, wa, wl, wc, ws⟩ _ (PvIn.below ⟨hs, hprow, hplen, hin⟩ hS.below) (CIn.below ⟨hrow, hlen⟩ hS.below)) rfl ?_
 rintro e W5 ⟨rfl, hb⟩
 refine ⟨_, rfl, hb, fun hS' => ?_⟩
 clear hS; have hS := hS'; clear hS' hb
 refine op_assign rfl rfl ?_
 refine endF (XF.thenN ?_)
 refine seqF (regF ?_)
 refine op_move rfl rfl ?_
 refine op_neq rfl rfl rfl ?_
 refine endF (XF.thenN ?_)
 refine condF rfl (fun hc => absurd (of_decide_eq_true hc) (by exact fun h => h hchk)) (fun hc => ?_)
 have hc := of_decide_eq_false hc
 refine skipF ?_
 refine XF.thenN ?_
 refine seqF (regF ?_)
 refine op_field (o' := 0) fa_28_0 rfl rfl rfl ?_
 refine op_loadA (vs := [_, _, _]) Tryz.isAgg25 Tryz.sizeOf25 rfl (CellsAt.own (j := 0) (m := 3) (hS.at_ 3 rfl) rfl) rfl ?_
 refine op_call (vs := [_]) hS goes_35 rfl (ringOf_is S s.f _ (hsi.below hS.below) hok) rfl ?_
 rintro e W6 ⟨f0, rfl, hn0, hb⟩
 refine ⟨_, rfl, hb, fun hS' => ?_⟩
 clear hS; have hS := hS'; clear hS' hb
 refine op_alloc (cs := [_, _, _, _, _, _, _, _, _]) hS Tryz.zeroValue77 rfl rfl ?_
 clear hS; intro B7 W7 hS
 refine op_storeA (i := 0) (vs := [_, _, _, _, _, _, _, _, _]) (cs' := [_, _, _, _, _, _, _, _, _]) (O' := [_, _, _, _, _]) hS Tryz.sizeOf77 rfl rfl rfl rfl rfl rfl rfl ?_
 clear hS; intro W8 hS
 refine endF (XF.thenN ?_)
 refine seqF ?_
 have hsz5 := hS.below.size
 refine regS (ef := 5) (jy := 1) (ca := caSt (fun _ => [.bool false, .int .i64 0, .int .u64 0, .slice none 0 0, .slice none 0 0, .slice none 0 0]) 4) (ta := fun _ => 48) (Os := osNo _) (Gs := gsNo _) (al := [4]) (k := 6) (ds := [13]) followsM rfl hS rfl (by kernel_rfl) (by kernel_rfl) rfl (by decide) rfl (some) (.inl ⟨rfl, rfl⟩) rfl rfl ?_
 refine bls_cons 1 rfl rfl (isV _) (fun hNo => sgV [(11, _)] rfl rfl rfl rfl hNo (w_free rfl) ⟨g_fr (by kernel_rfl) rfl, trivial⟩ (fun ev w he hw => rn_loadA (vs := [_, _, _, _, _, _, _, _, _]) Tryz.isAgg77 Tryz.sizeOf77 rfl ((CellsAt.own (j := 0) (m := 9) (hw.at_ 0 rfl) rfl))) (at_top rfl)) ?_
 refine bls_cons 2 rfl rfl (isNew W8.heap.size S (oneX S)) (fun hNo => sg_call [isV (ringV s.f f0)] rfl rfl rfl rfl hNo goes_36 (w_free rfl) ⟨p_tmp (g_dep 0 (by kernel_rfl) (at_dep rfl rfl rfl)), trivial⟩ (fun vs ev w' he hSt hlo hh => by have e := holds_isV (us := [_]) hh; subst e; exact one_givesN hlo (ringOne_is S s.f f0 w' (hsi.below hSt.below) hok)) (at_top rfl)) ?_
 refine bls_cons 3 rfl rfl (isV _) (fun hNo => sgV [(4, _)] rfl rfl rfl rfl hNo (w_free rfl) ⟨g_fr (by kernel_rfl) rfl, trivial⟩ (fun ev w he hw => rn_field (o' := 0) fa_31_0 rfl rfl) (at_top rfl)) ?_
 refine bls_cons 4 rfl rfl (isV _) (fun hNo => sgV [(33, _)] rfl rfl rfl rfl hNo (w_free rfl) ⟨g_dep 2 (by kernel_rfl) (at_dep rfl rfl rfl), trivial⟩ (fun ev w he hw => rn_load Tryz.isAgg3 rfl ((cell_own (hw.at_ 3 rfl) rfl))) (at_top rfl)) ?_
 refine bls_any 5 rfl (sg_alloc rfl rfl rfl rfl rfl Tryz.zeroValue48 (fun ev he => by rw [he rfl]; rfl)) ?_
 refine bls_any 6 rfl (eff_stA (py := isNew W8.heap.size S (oneX S)) (m := 6) 4 rfl rfl rfl rfl (by kernel_rfl) rfl (by kernel_rfl) rfl rfl Tryz.sizeOf48 rfl (fun v w ⟨f, e, _⟩ => ⟨f.six, by rw [e]; rfl, rfl, rfl⟩)) ?_
 refine bls_nil ?_
 intro Bf9 y9 W9 Ks9 hsz9 hKs9 hS' hcov9
 clear hS; have hS := hS'.castO (O' := [_, _, _, _, _, _]) rfl; clear hS'
 refine castL (L' := [AwS _ _ (isV _), (fun v w => v = _ ∧ AwS _ _ (isNew W8.heap.size S (oneX S)) v w), AwS _ _ (isV _), AwS _ _ (isV _), isV _, isV _]) rfl ?_
 refine fin_sV ?_
 refine fin_p ?_; rintro _ ⟨rfl, hA5⟩; obtain ⟨f1, e1, hn1⟩ := hA5.here; subst e1; have hcov5 := @hcov9
 refine fin_sV ?_
 refine fin_sV ?_
 refine fin_v ?_
 refine fin_0 ?_
 refine fin_nil ?_
 refine op_assign rfl rfl ?_
 refine endF (XF.thenN ?_)
 refine seqF (regF ?_)
 refine op_field (o' := 1) fa_31_1 rfl rfl rfl ?_
 refine op_load Tryz.isAgg29 rfl (cell_own (hS.at_ 4 rfl) rfl) rfl ?_
 refine op_callG (vs := [_]) (xs := ws.map (Value.int .i64)) (e1 := 3) (size := 1) (m := wl) hS goes_37 rfl (clone_ints (c := wc) (hrow.below hS.below) hlen (by omega)) rfl (fun e W2 h => h) ?_
 clear hS; intro v10 W10 hS
 refine op_assign rfl rfl ?_
 refine endF (XF.thenN ?_)
 refine seqF (regF ?_)
 refine op_move rfl rfl ?_
 refine op_rev (zs := ws) hS 0 goes_38 rfl rfl Tryz.slices_Reverse_int Tryz.slices_Reverse_int_empty rfl ?_
 clear hS; intro W11 hS
 refine endF (XF.thenN ?_)
 refine seqF ?_
 refine seqF (regF ?_)
 refine op_move rfl rfl ?_
 refine op_len Tryz.underlying29 rfl rfl ?_
 refine op_move rfl rfl ?_
 refine endF (XF.thenN ?_)
 refine blockF ?_
 refine loopF (fun m l W => ∃ (k : Nat) (q : Int) (us : List Int) (x : PX) (f : WF) (v : Value) (Kk : List (Nat × World)), k ≤ ll ∧ m = ll - k ∧ l = [(3, .pointer (some ⟨B1, 0, none⟩)), (6, .pointer (some ⟨B3, 0, none⟩)), (7, .pointer (some ⟨B4, 0, none⟩)), (11, .pointer (some ⟨B7, 0, none⟩)), (12, .pointer (some ⟨(Bf9 4), 0, none⟩)), (13, .int .i64 q), (14, v), (40, .slice la ll lc), (41, .int .i64 (ll : Int)), (42, .int .i64 (k : Int))] ∧ runF S px rs (is.drop k) k (q, us, x) = runF S px rs is 0 (p, ws, oneX S) ∧ us.length ≤ 4096 ∧ Held w Kk (fun W2 => isNew w.heap.size S x f.val W2) ∧ St w [((Bf9 4), f.six, 48), (B7, [.int .i64 s.f.tag, .int .i64 s.f.dim, .slice s.f.a s.f.len s.f.cap, .bool f0.z, .int .i64 f0.c, .int .u64 (f0.g : Int), .slice f0.ra f0.rl f0.rc, .slice f0.ca f0.cl f0.cc, .slice f0.pa f0.pl f0.pc], 77), (B4, [.bool false, .int .i64 0, .int .u64 0, .slice none 0 0, .slice none 0 0, .slice none 0 0], 48), (B3, [.int .i64 0, .slice none 0 0], 31), (B2, [.int .i64 p, .slice wa wl wc], 31), (B1, [.int .i64 s.f.tag, .int .i64 s.f.dim, .slice s.f.a s.f.len s.f.cap, .int .i64 st, .int .i64 sy, .slice ra rl rc], 28)] [⟨v, us.length, us.reverse.map (Value.int .i64), 3, 1⟩] Kk W) (ll - 0) ([(3, _), (6, _), (7, _), (11, _), (12, _), (13, _), (14, _), (40, _), (41, _), (42, _)]) ⟨rfl, rfl, rfl, rfl, rfl, rfl, rfl, rfl, rfl, rfl, trivial⟩ (⟨0, p, ws, oneX S, f1, _, Ks9, Nat.zero_le _, rfl, rfl, rfl, by omega, fun h2 hk => isNew_mono (hA5 _ (hcov5 h2 hk)) hsz5, (hS.keep Ks9 (fun q hq => List.mem_append_left _ hq)).castG (by subst hlen; rfl)⟩) ?_
 clear hS
 rintro m l W ⟨k, q, us, x, f, v, Kk, hk, rfl, rfl, hrun, hus, hX, hS⟩
 obtain ⟨a, c, rfl, hac⟩ := ownsRow_sl (v := v) (n := us.length) (hS.row 0 rfl)
 refine seqF (regF ?_)
 refine op_lss rfl rfl rfl ?_
 refine endF (XF.thenN ?_)
 refine seqF ?_
 refine condF rfl (fun hc => ?_) (fun hc => ?_)
 ·have hc43 := of_decide_eq_true hc; clear hc
  have hk1 : k < ll := by omega
  obtain ⟨b0, off0, y, rfl, hy, hyc⟩ := hrla.at1 (show k < is.length by omega)
  have k1 := hS.old hyc
  rw [drop_at9 hy] at hrun
  refine skipF ?_
  refine XF.thenN ?_
  refine seqF ?_
  refine blockF ?_
  refine seqF (regF ?_)
  refine op_move rfl rfl ?_
  refine op_indexA  Tryz.underlying29 Tryz.sizeOf3 rfl rfl rfl (by omega) rfl rfl ?_
  refine op_load Tryz.isAgg3 rfl (by first | assumption | exact hS.old (by assumption)) rfl ?_
  refine op_assign rfl rfl ?_
  refine op_assign rfl rfl ?_
  refine endF (XF.thenN ?_)
  refine seqF ?_
  refine seqF (regF ?_)
  refine op_move rfl rfl ?_
  refine op_lss rfl rfl rfl ?_
  refine op_move rfl rfl ?_
  refine op_cases (d := 49) rfl (fun hc => ?_) (fun hc => ?_)
  ·have hg49 := of_decide_eq_true hc; clear hc
   refine op_notF (d := 49) rfl rfl rfl rfl ?_
   refine op_notF (d := 49) rfl rfl rfl rfl ?_
   refine op_notF (d := 49) rfl rfl rfl rfl ?_
   refine op_notF (d := 49) rfl rfl rfl rfl ?_
   refine op_notF (d := 49) rfl rfl rfl rfl ?_
   refine op_pickT rfl rfl rfl ?_
   refine endF (XF.thenN ?_)
   refine condT rfl ?_
   refine seqF (regF ?_)
   refine op_build (us := []) rfl (bld_31) rfl ?_
   refine op_build (us := []) rfl (bld_48) rfl ?_
   refine op_move rfl rfl ?_
   refine op_storeA (i := 3) (vs := [_, _]) (cs' := [_, _]) (O' := [_, _, _, _, _, _]) hS Tryz.sizeOf31 rfl rfl rfl rfl rfl rfl rfl ?_
   clear hS; intro W12 hS
   refine op_storeA (i := 2) (vs := [_, _, _, _, _, _]) (cs' := [_, _, _, _, _, _]) (O' := [_, _, _, _, _, _]) hS Tryz.sizeOf48 rfl rfl rfl rfl rfl rfl rfl ?_
   clear hS; intro W13 hS
   refine op_assign rfl rfl ?_
   refine op_assign rfl rfl ?_
   refine endF (XF.thenN ?_)
   refine retF ?_
   refine XF.thenR ?_
   refine XF.blkR ?_
   refine XF.thenR ?_
   refine XF.thenR ?_
   refine XF.blkR ?_
   refine XF.thenR ?_
   refine XF.res (resCCTT (vs := [_, _]) (us := [_, _, _, _, _, _]) Tryz.results15 Tryz.isAgg31 Tryz.sizeOf31 rfl (CellsAt.own (j := 0) (m := 2) (hS.at_ 3 rfl) rfl) Tryz.isAgg48 Tryz.sizeOf48 rfl (CellsAt.own (j := 0) (m := 6) (hS.at_ 2 rfl) rfl) rfl rfl) ?_
   rw [← hrun, runF_err (runStep_neg hg49)]
   exact runRet_none hS.below
  ·have hg49 := of_decide_eq_false hc; clear hc
   refine op_wantedF (d := 49) rfl rfl ?_
   refine op_move rfl rfl ?_
   refine op_wantedF (d := 49) rfl rfl ?_
   refine op_field (o' := 5) fa_28_3 rfl rfl rfl ?_
   refine op_wantedF (d := 49) rfl rfl ?_
   refine op_load Tryz.isAgg26 rfl (cell_own (hS.at_ 5 rfl) rfl) rfl ?_
   refine op_wantedF (d := 49) rfl rfl ?_
   refine op_len Tryz.underlying26 rfl rfl ?_
   refine op_wantedF (d := 49) rfl rfl ?_
   refine op_geq rfl rfl rfl ?_
   refine op_pickF rfl rfl rfl ?_
   refine endF (XF.thenN ?_)
   refine condF rfl (fun hc => ?_) (fun hc => ?_)
   ·have hc55 := of_decide_eq_true hc; clear hc
    refine seqF (regF ?_)
    refine op_build (us := []) rfl (bld_31) rfl ?_
    refine op_build (us := []) rfl (bld_48) rfl ?_
    refine op_move rfl rfl ?_
    refine op_storeA (i := 3) (vs := [_, _]) (cs' := [_, _]) (O' := [_, _, _, _, _, _]) hS Tryz.sizeOf31 rfl rfl rfl rfl rfl rfl rfl ?_
    clear hS; intro W14 hS
    refine op_storeA (i := 2) (vs := [_, _, _, _, _, _]) (cs' := [_, _, _, _, _, _]) (O' := [_, _, _, _, _, _]) hS Tryz.sizeOf48 rfl rfl rfl rfl rfl rfl rfl ?_
    clear hS; intro W15 hS
    refine op_assign rfl rfl ?_
    refine op_assign rfl rfl ?_
    refine endF (XF.thenN ?_)
    refine retF ?_
    refine XF.thenR ?_
    refine XF.blkR ?_
    refine XF.thenR ?_
    refine XF.thenR ?_
    refine XF.blkR ?_
    refine XF.thenR ?_
    refine XF.res (resCCTT (vs := [_, _]) (us := [_, _, _, _, _, _]) Tryz.results15 Tryz.isAgg31 Tryz.sizeOf31 rfl (CellsAt.own (j := 0) (m := 2) (hS.at_ 3 rfl) rfl) Tryz.isAgg48 Tryz.sizeOf48 rfl (CellsAt.own (j := 0) (m := 6) (hS.at_ 2 rfl) rfl) rfl rfl) ?_
    rw [← hrun, runF_err (runStep_big (by omega))]
    exact runRet_none hS.below
   ·have hc55 := of_decide_eq_false hc; clear hc
    obtain ⟨yn, rfl⟩ := Int.eq_ofNat_of_zero_le (show 0 ≤ y by omega)
    have hyn : yn < rl := by omega
    obtain ⟨r, hr⟩ : ∃ r, rs[yn]? = some r := ⟨rs[yn]'(by omega), by simp [show yn < rs.length by omega]⟩
    obtain ⟨b2, off2, rfl, hcs⟩ := hprow.at_ hr
    have hri := hin r (List.mem_of_getElem? hr)
    have hrx := hx r (List.mem_of_getElem? hr)
    have hr4 := h4 r (List.mem_of_getElem? hr)
    have hst := runStep_at (S := S) (px := px) (st := (q, us, x)) hr
    obtain ⟨rp, rg, rq, rwa, rwl, rwc, rws, rx⟩ := r
    dsimp only at hst hr4 hrx
    dsimp only [RV.ten] at hcs
    have hrw : Row w rwa rws := hri.row
    have hrwl : rws.length = rwl := hri.len
    have k2 := CellsAt.agree hS.agree (Nat.zero_le _) hcs
    refine skipF ?_
    refine XF.thenN ?_
    refine seqF (regF ?_)
    refine op_field (o' := 5) fa_28_3 rfl rfl rfl ?_
    refine op_load Tryz.isAgg26 rfl (cell_own (hS.at_ 5 rfl) rfl) rfl ?_
    refine op_move rfl rfl ?_
    refine op_indexA  Tryz.underlying26 Tryz.sizeOf66 rfl rfl rfl (by omega) rfl rfl ?_
    refine op_loadA (vs := [_, _, _, _, _, _, _, _, _, _]) Tryz.isAgg66 Tryz.sizeOf66 rfl (by assumption) rfl ?_
    refine op_move rfl rfl ?_
    refine op_len Tryz.underlying29 rfl rfl ?_
    refine op_alloc (cs := [_, _, _, _, _, _, _, _, _, _]) hS Tryz.zeroValue66 rfl rfl ?_
    clear hS; intro B16 W16 hS
    refine op_storeA (i := 0) (vs := [_, _, _, _, _, _, _, _, _, _]) (cs' := [_, _, _, _, _, _, _, _, _, _]) (O' := [_, _, _, _, _, _, _]) hS Tryz.sizeOf66 rfl rfl rfl rfl rfl rfl rfl ?_
    clear hS; intro W17 hS
    refine op_assign rfl rfl ?_
    refine endF (XF.thenN ?_)
    refine seqF ?_
    refine seqF ?_
    rcases us_cases rp q us with h1 | ⟨h1, h2⟩ | ⟨y2, t, h1, h2⟩
    ·subst h1
     have hE : runStep S px rs (yn : Int) (q, [], x) = .error 121 := by rw [hst]; simp [appB]
     refine regB (m := 18) followsM hS (by kernel_rfl) (by kernel_rfl) rfl ?_
     refine bl_cons 1 rfl (isV _) (stab_isV _) (rgV (li := [(18, _)]) rfl (w_free rfl) ⟨g_fr (by kernel_rfl) rfl, trivial⟩ (fun w hw => rn_move rfl) (at_top rfl)) ?_
     refine bl_cons 2 rfl (isV (.bool true)) (stab_isV _) (rgVe (li := [(66, _)]) rfl (w_free rfl) ⟨g_dep 0 (by kernel_rfl) (at_dep rfl rfl rfl), trivial⟩ (fun w hw => rn_eql rfl rfl) (by simp) (at_top rfl)) ?_
     refine bl_cons 3 rfl (isV _) (stab_isV _) (rgV (li := [(67, _)]) rfl (w_free rfl) ⟨g_dep 1 (by kernel_rfl) (at_dep rfl rfl rfl), trivial⟩ (fun w hw => rn_move rfl) (at_top rfl)) ?_
     refine bl_cons 4 rfl (isV undef) (stab_isV _) (rg_no rfl (w_no 68 rfl (by kernel_rfl) (by kernel_rfl) (at_dep rfl rfl rfl) rfl) (at_top rfl)) ?_
     refine bl_cons 5 rfl (isV undef) (stab_isV _) (rg_no rfl (w_no 68 rfl (by kernel_rfl) (by kernel_rfl) (at_dep rfl rfl rfl) rfl) (at_top rfl)) ?_
     refine bl_cons 6 rfl (isV undef) (stab_isV _) (rg_no rfl (w_no 68 rfl (by kernel_rfl) (by kernel_rfl) (at_dep rfl rfl rfl) rfl) (at_top rfl)) ?_
     refine bl_cons 7 rfl (isV undef) (stab_isV _) (rg_no rfl (w_no 68 rfl (by kernel_rfl) (by kernel_rfl) (at_dep rfl rfl rfl) rfl) (at_top rfl)) ?_
     refine bl_cons 8 rfl (isV _) (stab_isV _) (rgV (li := [(68, _)]) rfl (w_free rfl) ⟨g_dep 2 (by kernel_rfl) (at_dep rfl rfl rfl), trivial⟩ (fun w hw => rn_pickT rfl rfl) (at_top rfl)) ?_
     refine bl_cons 9 rfl (isV _) (stab_isV _) (rgV (li := [(73, _)]) rfl (w_free rfl) ⟨g_dep 7 (by kernel_rfl) (at_dep rfl rfl rfl), trivial⟩ (fun w hw => rn_move rfl) (at_top rfl)) ?_
     refine bl_cons 10 rfl (isV undef) (stab_isV _) (rg_no rfl (w_no 74 rfl (by kernel_rfl) (by kernel_rfl) (at_dep rfl rfl rfl) rfl) (at_top rfl)) ?_
     refine bl_cons 11 rfl (isV undef) (stab_isV _) (rg_no rfl (w_no 74 rfl (by kernel_rfl) (by kernel_rfl) (at_dep rfl rfl rfl) rfl) (at_top rfl)) ?_
     refine bl_cons 12 rfl (isV undef) (stab_isV _) (rg_no rfl (w_no 74 rfl (by kernel_rfl) (by kernel_rfl) (at_dep rfl rfl rfl) rfl) (at_top rfl)) ?_
     refine bl_cons 13 rfl (isV undef) (stab_isV _) (rg_no rfl (w_no 74 rfl (by kernel_rfl) (by kernel_rfl) (at_dep rfl rfl rfl) rfl) (at_top rfl)) ?_
     refine bl_cons 14 rfl (isV undef) (stab_isV _) (rg_no rfl (w_no 74 rfl (by kernel_rfl) (by kernel_rfl) (at_dep rfl rfl rfl) rfl) (at_top rfl)) ?_
     refine bl_cons 15 rfl (isV undef) (stab_isV _) (rg_no rfl (w_no 74 rfl (by kernel_rfl) (by kernel_rfl) (at_dep rfl rfl rfl) rfl) (at_top rfl)) ?_
     refine bl_cons 16 rfl (isV undef) (stab_isV _) (rg_no rfl (w_no 74 rfl (by kernel_rfl) (by kernel_rfl) (at_dep rfl rfl rfl) rfl) (at_top rfl)) ?_
     refine bl_cons 17 rfl (isV undef) (stab_isV _) (rg_no rfl (w_no 74 rfl (by kernel_rfl) (by kernel_rfl) (at_dep rfl rfl rfl) rfl) (at_top rfl)) ?_
     refine bl_cons 18 rfl (isV _) (stab_isV _) (rgV (li := [(74, _)]) rfl (w_free rfl) ⟨g_dep 8 (by kernel_rfl) (at_dep rfl rfl rfl), trivial⟩ (fun w hw => rn_pickT rfl rfl) (at_top rfl)) ?_
     refine bl_nil ?_
     intro W18 hbR hS'
     clear hS; have hS := hS'; clear hS'
     refine fin_v ?_
     refine fin_v ?_
     refine fin_v ?_
     refine fin_v ?_
     refine fin_v ?_
     refine fin_v ?_
     refine fin_v ?_
     refine fin_v ?_
     refine fin_v ?_
     refine fin_v ?_
     refine fin_v ?_
     refine fin_v ?_
     refine fin_v ?_
     refine fin_v ?_
     refine fin_v ?_
     refine fin_v ?_
     refine fin_v ?_
     refine fin_v ?_
     refine fin_nil ?_
     refine XF.thenN ?_
     refine condT rfl ?_
     refine seqF (regF ?_)
     refine op_build (us := []) rfl (bld_31) rfl ?_
     refine op_build (us := []) rfl (bld_48) rfl ?_
     refine op_move rfl rfl ?_
     refine op_storeA (i := 4) (vs := [_, _]) (cs' := [_, _]) (O' := [_, _, _, _, _, _, _]) hS Tryz.sizeOf31 rfl rfl rfl rfl rfl rfl rfl ?_
     clear hS; intro W19 hS
     refine op_storeA (i := 3) (vs := [_, _, _, _, _, _]) (cs' := [_, _, _, _, _, _]) (O' := [_, _, _, _, _, _, _]) hS Tryz.sizeOf48 rfl rfl rfl rfl rfl rfl rfl ?_
     clear hS; intro W20 hS
     refine op_assign rfl rfl ?_
     refine op_assign rfl rfl ?_
     refine endF (XF.thenN ?_)
     refine retF ?_
     refine XF.thenR ?_
     refine XF.blkR ?_
     refine XF.thenR ?_
     refine XF.thenR ?_
     refine XF.blkR ?_
     refine XF.thenR ?_
     refine XF.res (resCCTT (vs := [_, _]) (us := [_, _, _, _, _, _]) Tryz.results15 Tryz.isAgg31 Tryz.sizeOf31 rfl (CellsAt.own (j := 0) (m := 2) (hS.at_ 4 rfl) rfl) Tryz.isAgg48 Tryz.sizeOf48 rfl (CellsAt.own (j := 0) (m := 6) (hS.at_ 3 rfl) rfl) rfl rfl) ?_
     rw [← hrun, runF_err hE]
     exact runRet_none hS.below
    ·have hE : runStep S px rs (yn : Int) (q, us, x) = .error 121 := by rw [hst]; simp [appB, h2]
     refine regB (m := 18) followsM hS (by kernel_rfl) (by kernel_rfl) rfl ?_
     refine bl_cons 1 rfl (isV _) (stab_isV _) (rgV (li := [(18, _)]) rfl (w_free rfl) ⟨g_fr (by kernel_rfl) rfl, trivial⟩ (fun w hw => rn_move rfl) (at_top rfl)) ?_
     refine bl_cons 2 rfl (isV (.bool false)) (stab_isV _) (rgVe (li := [(66, _)]) rfl (w_free rfl) ⟨g_dep 0 (by kernel_rfl) (at_dep rfl rfl rfl), trivial⟩ (fun w hw => rn_eql rfl rfl) (by rw [decide_eq_false (by omega)]) (at_top rfl)) ?_
     refine bl_cons 3 rfl (isV _) (stab_isV _) (rgV (li := [(67, _)]) rfl (w_free rfl) ⟨g_dep 1 (by kernel_rfl) (at_dep rfl rfl rfl), trivial⟩ (fun w hw => rn_move rfl) (at_top rfl)) ?_
     refine bl_cons 4 rfl (isV _) (stab_isV _) (rgV (li := [(17, _)]) rfl (w_yes 68 rfl (by kernel_rfl) (by kernel_rfl) (at_dep rfl rfl rfl)) ⟨g_fr (by kernel_rfl) rfl, trivial⟩ (fun w hw => rn_field (o' := 0) fa_66_0 rfl rfl) (at_top rfl)) ?_
     refine bl_cons 5 rfl (isV _) (stab_isV _) (rgV (li := [(69, _)]) rfl (w_yes 68 rfl (by kernel_rfl) (by kernel_rfl) (at_dep rfl rfl rfl)) ⟨g_dep 3 (by kernel_rfl) (at_dep rfl rfl rfl), trivial⟩ (fun w hw => rn_load Tryz.isAgg3 rfl ((below_agree hw 0).cell (Nat.zero_le _) (cell_own (hS.at_ 0 rfl) rfl))) (at_top rfl)) ?_
     refine bl_cons 6 rfl (isV _) (stab_isV _) (rgV (li := [(13, _)]) rfl (w_yes 68 rfl (by kernel_rfl) (by kernel_rfl) (at_dep rfl rfl rfl)) ⟨g_fr (by kernel_rfl) rfl, trivial⟩ (fun w hw => rn_move rfl) (at_top rfl)) ?_
     refine bl_cons 7 rfl (isV (.bool true)) (stab_isV _) (rgVe (li := [(70, _), (71, _)]) rfl (w_yes 68 rfl (by kernel_rfl) (by kernel_rfl) (at_dep rfl rfl rfl)) ⟨g_dep 4 (by kernel_rfl) (at_dep rfl rfl rfl), g_dep 5 (by kernel_rfl) (at_dep rfl rfl rfl), trivial⟩ (fun w hw => rn_neq rfl rfl) (by rw [decide_eq_true h2]) (at_top rfl)) ?_
     refine bl_cons 8 rfl (isV _) (stab_isV _) (rgV (li := [(68, _), (72, _)]) rfl (w_free rfl) ⟨g_dep 2 (by kernel_rfl) (at_dep rfl rfl rfl), g_dep 6 (by kernel_rfl) (at_dep rfl rfl rfl), trivial⟩ (fun w hw => rn_pickF rfl rfl) (at_top rfl)) ?_
     refine bl_cons 9 rfl (isV _) (stab_isV _) (rgV (li := [(73, _)]) rfl (w_free rfl) ⟨g_dep 7 (by kernel_rfl) (at_dep rfl rfl rfl), trivial⟩ (fun w hw => rn_move rfl) (at_top rfl)) ?_
     refine bl_cons 10 rfl (isV undef) (stab_isV _) (rg_no rfl (w_no 74 rfl (by kernel_rfl) (by kernel_rfl) (at_dep rfl rfl rfl) rfl) (at_top rfl)) ?_
     refine bl_cons 11 rfl (isV undef) (stab_isV _) (rg_no rfl (w_no 74 rfl (by kernel_rfl) (by kernel_rfl) (at_dep rfl rfl rfl) rfl) (at_top rfl)) ?_
     refine bl_cons 12 rfl (isV undef) (stab_isV _) (rg_no rfl (w_no 74 rfl (by kernel_rfl) (by kernel_rfl) (at_dep rfl rfl rfl) rfl) (at_top rfl)) ?_
     refine bl_cons 13 rfl (isV undef) (stab_isV _) (rg_no rfl (w_no 74 rfl (by kernel_rfl) (by kernel_rfl) (at_dep rfl rfl rfl) rfl) (at_top rfl)) ?_
     refine bl_cons 14 rfl (isV undef) (stab_isV _) (rg_no rfl (w_no 74 rfl (by kernel_rfl) (by kernel_rfl) (at_dep rfl rfl rfl) rfl) (at_top rfl)) ?_
     refine bl_cons 15 rfl (isV undef) (stab_isV _) (rg_no rfl (w_no 74 rfl (by kernel_rfl) (by kernel_rfl) (at_dep rfl rfl rfl) rfl) (at_top rfl)) ?_
     refine bl_cons 16 rfl (isV undef) (stab_isV _) (rg_no rfl (w_no 74 rfl (by kernel_rfl) (by kernel_rfl) (at_dep rfl rfl rfl) rfl) (at_top rfl)) ?_
     refine bl_cons 17 rfl (isV undef) (stab_isV _) (rg_no rfl (w_no 74 rfl (by kernel_rfl) (by kernel_rfl) (at_dep rfl rfl rfl) rfl) (at_top rfl)) ?_
     refine bl_cons 18 rfl (isV _) (stab_isV _) (rgV (li := [(74, _)]) rfl (w_free rfl) ⟨g_dep 8 (by kernel_rfl) (at_dep rfl rfl rfl), trivial⟩ (fun w hw => rn_pickT rfl rfl) (at_top rfl)) ?_
     refine bl_nil ?_
     intro W21 hbR hS'
     clear hS; have hS := hS'; clear hS'
     refine fin_v ?_
     refine fin_v ?_
     refine fin_v ?_
     refine fin_v ?_
     refine fin_v ?_
     refine fin_v ?_
     refine fin_v ?_
     refine fin_v ?_
     refine fin_v ?_
     refine fin_v ?_
     refine fin_v ?_
     refine fin_v ?_
     refine fin_v ?_
     refine fin_v ?_
     refine fin_v ?_
     refine fin_v ?_
     refine fin_v ?_
     refine fin_v ?_
     refine fin_nil ?_
     refine XF.thenN ?_
     refine condT rfl ?_
     refine seqF (regF ?_)
     refine op_build (us := []) rfl (bld_31) rfl ?_
     refine op_build (us := []) rfl (bld_48) rfl ?_
     refine op_move rfl rfl ?_
     refine op_storeA (i := 4) (vs := [_, _]) (cs' := [_, _]) (O' := [_, _, _, _, _, _, _]) hS Tryz.sizeOf31 rfl rfl rfl rfl rfl rfl rfl ?_
     clear hS; intro W22 hS
     refine op_storeA (i := 3) (vs := [_, _, _, _, _, _]) (cs' := [_, _, _, _, _, _]) (O' := [_, _, _, _, _, _, _]) hS Tryz.sizeOf48 rfl rfl rfl rfl rfl rfl rfl ?_
     clear hS; intro W23 hS
     refine op_assign rfl rfl ?_
     refine op_assign rfl rfl ?_
     refine endF (XF.thenN ?_)
     refine retF ?_
     refine XF.thenR ?_
     refine XF.blkR ?_
     refine XF.thenR ?_
     refine XF.thenR ?_
     refine XF.blkR ?_
     refine XF.thenR ?_
     refine XF.res (resCCTT (vs := [_, _]) (us := [_, _, _, _, _, _]) Tryz.results15 Tryz.isAgg31 Tryz.sizeOf31 rfl (CellsAt.own (j := 0) (m := 2) (hS.at_ 4 rfl) rfl) Tryz.isAgg48 Tryz.sizeOf48 rfl (CellsAt.own (j := 0) (m := 6) (hS.at_ 3 rfl) rfl) rfl rfl) ?_
     rw [← hrun, runF_err hE]
     exact runRet_none hS.below
    ·subst h1
     have hlt : (y2 :: t).length = t.length + 1 := rfl
     rcases ownsRow_cells (a := a) (c := c) (n := (y2 :: t).length) (hS.row 0 rfl) with ⟨_, h0⟩ | ⟨b3, rfl, hb3, hcell⟩
     ·exact absurd h0 (by simp)
     have k3 : W17.cell? ⟨b3, 0 + t.length * 1, none⟩ = some (.int .i64 y2) := by rw [Nat.zero_add, Nat.mul_one]; exact hcell _ _ top_at
     refine regB (m := 18) followsM hS (by kernel_rfl) (by kernel_rfl) rfl ?_
     refine bl_cons 1 rfl (isV _) (stab_isV _) (rgV (li := [(18, _)]) rfl (w_free rfl) ⟨g_fr (by kernel_rfl) rfl, trivial⟩ (fun w hw => rn_move rfl) (at_top rfl)) ?_
     refine bl_cons 2 rfl (isV (.bool false)) (stab_isV _) (rgVe (li := [(66, _)]) rfl (w_free rfl) ⟨g_dep 0 (by kernel_rfl) (at_dep rfl rfl rfl), trivial⟩ (fun w hw => rn_eql rfl rfl) (by rw [decide_eq_false (by omega)]) (at_top rfl)) ?_
     refine bl_cons 3 rfl (isV _) (stab_isV _) (rgV (li := [(67, _)]) rfl (w_free rfl) ⟨g_dep 1 (by kernel_rfl) (at_dep rfl rfl rfl), trivial⟩ (fun w hw => rn_move rfl) (at_top rfl)) ?_
     refine bl_cons 4 rfl (isV _) (stab_isV _) (rgV (li := [(17, _)]) rfl (w_yes 68 rfl (by kernel_rfl) (by kernel_rfl) (at_dep rfl rfl rfl)) ⟨g_fr (by kernel_rfl) rfl, trivial⟩ (fun w hw => rn_field (o' := 0) fa_66_0 rfl rfl) (at_top rfl)) ?_
     refine bl_cons 5 rfl (isV _) (stab_isV _) (rgV (li := [(69, _)]) rfl (w_yes 68 rfl (by kernel_rfl) (by kernel_rfl) (at_dep rfl rfl rfl)) ⟨g_dep 3 (by kernel_rfl) (at_dep rfl rfl rfl), trivial⟩ (fun w hw => rn_load Tryz.isAgg3 rfl ((below_agree hw 0).cell (Nat.zero_le _) (cell_own (hS.at_ 0 rfl) rfl))) (at_top rfl)) ?_
     refine bl_cons 6 rfl (isV _) (stab_isV _) (rgV (li := [(13, _)]) rfl (w_yes 68 rfl (by kernel_rfl) (by kernel_rfl) (at_dep rfl rfl rfl)) ⟨g_fr (by kernel_rfl) rfl, trivial⟩ (fun w hw => rn_move rfl) (at_top rfl)) ?_
     refine bl_cons 7 rfl (isV (.bool false)) (stab_isV _) (rgVe (li := [(70, _), (71, _)]) rfl (w_yes 68 rfl (by kernel_rfl) (by kernel_rfl) (at_dep rfl rfl rfl)) ⟨g_dep 4 (by kernel_rfl) (at_dep rfl rfl rfl), g_dep 5 (by kernel_rfl) (at_dep rfl rfl rfl), trivial⟩ (fun w hw => rn_neq rfl rfl) (by rw [decide_eq_false (fun h => h h2)]) (at_top rfl)) ?_
     refine bl_cons 8 rfl (isV _) (stab_isV _) (rgV (li := [(68, _), (72, _)]) rfl (w_free rfl) ⟨g_dep 2 (by kernel_rfl) (at_dep rfl rfl rfl), g_dep 6 (by kernel_rfl) (at_dep rfl rfl rfl), trivial⟩ (fun w hw => rn_pickF rfl rfl) (at_top rfl)) ?_
     refine bl_cons 9 rfl (isV _) (stab_isV _) (rgV (li := [(73, _)]) rfl (w_free rfl) ⟨g_dep 7 (by kernel_rfl) (at_dep rfl rfl rfl), trivial⟩ (fun w hw => rn_move rfl) (at_top rfl)) ?_
     refine bl_cons 10 rfl (isV _) (stab_isV _) (rgV (li := [(17, _)]) rfl (w_yes 74 rfl (by kernel_rfl) (by kernel_rfl) (at_dep rfl rfl rfl)) ⟨g_fr (by kernel_rfl) rfl, trivial⟩ (fun w hw => rn_field (o' := 1) fa_66_1 rfl rfl) (at_top rfl)) ?_
     refine bl_cons 11 rfl (isV _) (stab_isV _) (rgV (li := [(75, _)]) rfl (w_yes 74 rfl (by kernel_rfl) (by kernel_rfl) (at_dep rfl rfl rfl)) ⟨g_dep 9 (by kernel_rfl) (at_dep rfl rfl rfl), trivial⟩ (fun w hw => rn_load Tryz.isAgg3 rfl ((below_agree hw 0).cell (Nat.zero_le _) (cell_own (hS.at_ 0 rfl) rfl))) (at_top rfl)) ?_
     refine bl_cons 12 rfl (isV _) (stab_isV _) (rgV (li := [(14, _)]) rfl (w_yes 74 rfl (by kernel_rfl) (by kernel_rfl) (at_dep rfl rfl rfl)) ⟨g_fr (by kernel_rfl) rfl, trivial⟩ (fun w hw => rn_move rfl) (at_top rfl)) ?_
     refine bl_cons 13 rfl (isV _) (stab_isV _) (rgV (li := [(18, _)]) rfl (w_yes 74 rfl (by kernel_rfl) (by kernel_rfl) (at_dep rfl rfl rfl)) ⟨g_fr (by kernel_rfl) rfl, trivial⟩ (fun w hw => rn_move rfl) (at_top rfl)) ?_
     refine bl_cons 14 rfl (isV _) (stab_isV _) (rgV (li := [(78, _)]) rfl (w_yes 74 rfl (by kernel_rfl) (by kernel_rfl) (at_dep rfl rfl rfl)) ⟨g_dep 12 (by kernel_rfl) (at_dep rfl rfl rfl), trivial⟩ (fun w hw => rn_sub rfl rfl (IntWalk.i64_in _ (by omega))) (at_top rfl)) ?_
     refine bl_cons 15 rfl (isV _) (stab_isV _) (rgV (li := [(77, _), (79, _)]) rfl (w_yes 74 rfl (by kernel_rfl) (by kernel_rfl) (at_dep rfl rfl rfl)) ⟨g_dep 11 (by kernel_rfl) (at_dep rfl rfl rfl), g_dep 13 (by kernel_rfl) (at_dep rfl rfl rfl), trivial⟩ (fun w hw => rn_indexA (j := t.length) Tryz.underlying29 Tryz.sizeOf3 rfl rfl (by omega) (by omega) rfl) (at_top rfl)) ?_
     refine bl_cons 16 rfl (isV _) (stab_isV _) (rgV (li := [(80, _)]) rfl (w_yes 74 rfl (by kernel_rfl) (by kernel_rfl) (at_dep rfl rfl rfl)) ⟨g_dep 14 (by kernel_rfl) (at_dep rfl rfl rfl), trivial⟩ (fun w hw => rn_load Tryz.isAgg3 rfl ((below_agree hw 0).cell (Nat.zero_le _) (by assumption))) (at_top rfl)) ?_
     refine bl_cons 17 rfl (isV _) (stab_isV _) (rgV (li := [(76, _), (81, _)]) rfl (w_yes 74 rfl (by kernel_rfl) (by kernel_rfl) (at_dep rfl rfl rfl)) ⟨g_dep 10 (by kernel_rfl) (at_dep rfl rfl rfl), g_dep 15 (by kernel_rfl) (at_dep rfl rfl rfl), trivial⟩ (fun w hw => rn_neq rfl rfl) (at_top rfl)) ?_
     refine bl_cons 18 rfl (isV _) (stab_isV _) (rgV (li := [(74, _), (82, _)]) rfl (w_free rfl) ⟨g_dep 8 (by kernel_rfl) (at_dep rfl rfl rfl), g_dep 16 (by kernel_rfl) (at_dep rfl rfl rfl), trivial⟩ (fun w hw => rn_pickF rfl rfl) (at_top rfl)) ?_
     refine bl_nil ?_
     intro W24 hbR hS'
     clear hS; have hS := hS'; clear hS'
     refine fin_v ?_
     refine fin_v ?_
     refine fin_v ?_
     refine fin_v ?_
     refine fin_v ?_
     refine fin_v ?_
     refine fin_v ?_
     refine fin_v ?_
     refine fin_v ?_
     refine fin_v ?_
     refine fin_v ?_
     refine fin_v ?_
     refine fin_v ?_
     refine fin_v ?_
     refine fin_v ?_
     refine fin_v ?_
     refine fin_v ?_
     refine fin_v ?_
     refine fin_nil ?_
     refine XF.thenN ?_
     refine condF rfl (fun hc => ?_) (fun hc => ?_)
     ·have hc83 := hc; clear hc
      have hne := of_decide_eq_true hc83
      have hE : runStep S px rs (yn : Int) (q, y2 :: t, x) = .error 121 := by rw [hst]; simp [appB, h2, Ne.symm hne]
      refine seqF (regF ?_)
      refine op_build (us := []) rfl (bld_31) rfl ?_
      refine op_build (us := []) rfl (bld_48) rfl ?_
      refine op_move rfl rfl ?_
      refine op_storeA (i := 4) (vs := [_, _]) (cs' := [_, _]) (O' := [_, _, _, _, _, _, _]) hS Tryz.sizeOf31 rfl rfl rfl rfl rfl rfl rfl ?_
      clear hS; intro W25 hS
      refine op_storeA (i := 3) (vs := [_, _, _, _, _, _]) (cs' := [_, _, _, _, _, _]) (O' := [_, _, _, _, _, _, _]) hS Tryz.sizeOf48 rfl rfl rfl rfl rfl rfl rfl ?_
      clear hS; intro W26 hS
      refine op_assign rfl rfl ?_
      refine op_assign rfl rfl ?_
      refine endF (XF.thenN ?_)
      refine retF ?_
      refine XF.thenR ?_
      refine XF.blkR ?_
      refine XF.thenR ?_
      refine XF.thenR ?_
      refine XF.blkR ?_
      refine XF.thenR ?_
      refine XF.res (resCCTT (vs := [_, _]) (us := [_, _, _, _, _, _]) Tryz.results15 Tryz.isAgg31 Tryz.sizeOf31 rfl (CellsAt.own (j := 0) (m := 2) (hS.at_ 4 rfl) rfl) Tryz.isAgg48 Tryz.sizeOf48 rfl (CellsAt.own (j := 0) (m := 6) (hS.at_ 3 rfl) rfl) rfl rfl) ?_
      rw [← hrun, runF_err hE]
      exact runRet_none hS.below
     ·have hc83 := hc; clear hc
      have hgy : y2 = rg := (Decidable.of_not_not (of_decide_eq_false hc83)).symm
      have happ : appB ⟨rp, rg, rq, rwa, rwl, rwc, rws, rx⟩ q (y2 :: t) = true := by simp [appB, h2, hgy]
      refine skipF ?_
      refine XF.thenN ?_
      refine seqF ?_
      refine seqF (regF ?_)
      refine op_move rfl rfl ?_
      refine op_sub rfl rfl (IntWalk.i64_in _ (by omega)) rfl ?_
      refine op_field (o' := 3) fa_66_3 rfl rfl rfl ?_
      refine op_load Tryz.isAgg29 rfl (cell_own (hS.at_ 0 rfl) rfl) rfl ?_
      refine op_len Tryz.underlying29 rfl rfl ?_
      refine op_add rfl rfl (IntWalk.i64_in _ (by omega)) rfl ?_
      refine op_gtr rfl rfl rfl ?_
      refine endF (XF.thenN ?_)
      refine condF rfl (fun hc => ?_) (fun hc => ?_)
      ·have hc93 := of_decide_eq_true hc; clear hc
       have hE : runStep S px rs (yn : Int) (q, y2 :: t, x) = .error 2 := by rw [hst, if_neg (by rw [happ]; simp), if_pos (by omega)]
       refine seqF (regF ?_)
       refine op_build (us := []) rfl (bld_31) rfl ?_
       refine op_build (us := []) rfl (bld_48) rfl ?_
       refine op_move rfl rfl ?_
       refine op_storeA (i := 4) (vs := [_, _]) (cs' := [_, _]) (O' := [_, _, _, _, _, _, _]) hS Tryz.sizeOf31 rfl rfl rfl rfl rfl rfl rfl ?_
       clear hS; intro W27 hS
       refine op_storeA (i := 3) (vs := [_, _, _, _, _, _]) (cs' := [_, _, _, _, _, _]) (O' := [_, _, _, _, _, _, _]) hS Tryz.sizeOf48 rfl rfl rfl rfl rfl rfl rfl ?_
       clear hS; intro W28 hS
       refine op_assign rfl rfl ?_
       refine op_assign rfl rfl ?_
       refine endF (XF.thenN ?_)
       refine retF ?_
       refine XF.thenR ?_
       refine XF.blkR ?_
       refine XF.thenR ?_
       refine XF.thenR ?_
       refine XF.blkR ?_
       refine XF.thenR ?_
       refine XF.res (resCCTT (vs := [_, _]) (us := [_, _, _, _, _, _]) Tryz.results15 Tryz.isAgg31 Tryz.sizeOf31 rfl (CellsAt.own (j := 0) (m := 2) (hS.at_ 4 rfl) rfl) Tryz.isAgg48 Tryz.sizeOf48 rfl (CellsAt.own (j := 0) (m := 6) (hS.at_ 3 rfl) rfl) rfl rfl) ?_
       rw [← hrun, runF_err hE]
       exact runRet_none hS.below
      ·have hc93 := of_decide_eq_false hc; clear hc
       have hO : runStep S px rs (yn : Int) (q, y2 :: t, x) = .ok (rq, rws ++ t, extX S x (px ⟨rp, rg, rq, rwa, rwl, rwc, rws, rx⟩)) := by rw [hst, if_neg (by rw [happ]; simp), if_neg (by omega)]; rfl
       refine skipF ?_
       refine XF.thenN ?_
       refine seqF (regF ?_)
       refine op_move rfl rfl ?_
       refine op_move rfl rfl ?_
       refine op_sub rfl rfl (IntWalk.i64_in _ (by omega)) rfl ?_
       refine op_cut (k := t.length) hS 0 Tryz.underlying29 Tryz.sizeOf3 rfl rfl rfl (by omega) (by omega) rfl ?_
       intro hS'; clear hS; have hS := hS'; clear hS'
       refine op_assign rfl rfl ?_
       refine endF (XF.thenN ?_)
       refine seqF ?_
       refine seqF ?_
       have hS := hS.castG (congrArg (fun z => [GR.mk (.slice (some ⟨b3, 0, none⟩) t.length c) t.length z 3 1]) (top_cut (rws := rws)))
       refine regF ?_
       refine op_field (o' := 3) fa_66_3 rfl rfl rfl ?_
       refine op_load Tryz.isAgg29 rfl (cell_own (hS.at_ 0 rfl) rfl) rfl ?_
       refine op_len Tryz.underlying29 rfl rfl ?_
       refine op_move rfl rfl ?_
       refine endF (XF.thenN ?_)
       refine blockF ?_
       refine loopF (fun m2 l W => ∃ (j : Nat) (v : Value), j ≤ rwl ∧ m2 = rwl - j ∧ l = [(3, .pointer (some ⟨B1, 0, none⟩)), (6, .pointer (some ⟨B3, 0, none⟩)), (7, .pointer (some ⟨B4, 0, none⟩)), (11, .pointer (some ⟨B7, 0, none⟩)), (12, .pointer (some ⟨(Bf9 4), 0, none⟩)), (13, .int .i64 q), (14, v), (15, .int .i64 (k : Int)), (17, .pointer (some ⟨B16, 0, none⟩)), (40, .slice (some ⟨b0, off0, none⟩) ll lc), (41, .int .i64 (ll : Int)), (42, .int .i64 (k : Int)), (103, .int .i64 (rwl : Int)), (104, .int .i64 (j : Int))] ∧ St w [(B16, [.int .i64 rp, .int .i64 rg, .int .i64 rq, .slice rwa rwl rwc, .bool rx.f.z, .int .i64 rx.f.c, .int .u64 (rx.f.g : Int), .slice rx.f.ra rx.f.rl rx.f.rc, .slice rx.f.ca rx.f.cl rx.f.cc, .slice rx.f.pa rx.f.pl rx.f.pc], 66), ((Bf9 4), f.six, 48), (B7, [.int .i64 s.f.tag, .int .i64 s.f.dim, .slice s.f.a s.f.len s.f.cap, .bool f0.z, .int .i64 f0.c, .int .u64 (f0.g : Int), .slice f0.ra f0.rl f0.rc, .slice f0.ca f0.cl f0.cc, .slice f0.pa f0.pl f0.pc], 77), (B4, [.bool false, .int .i64 0, .int .u64 0, .slice none 0 0, .slice none 0 0, .slice none 0 0], 48), (B3, [.int .i64 0, .slice none 0 0], 31), (B2, [.int .i64 p, .slice wa wl wc], 31), (B1, [.int .i64 s.f.tag, .int .i64 s.f.dim, .slice s.f.a s.f.len s.f.cap, .int .i64 st, .int .i64 sy, .slice (some ⟨b2, off2, none⟩) rl rc], 28)] [⟨v, t.length + j, (t.reverse ++ rws.reverse.take j).map (Value.int .i64), 3, 1⟩] Kk W) (rwl - 0) ([(3, _), (6, _), (7, _), (11, _), (12, _), (13, _), (14, _), (15, _), (17, _), (40, _), (41, _), (42, _), (103, _), (104, _)]) ⟨rfl, rfl, rfl, rfl, rfl, rfl, rfl, rfl, rfl, rfl, rfl, rfl, rfl, rfl, trivial⟩ (⟨0, _, Nat.zero_le _, rfl, rfl, hS.keep Kk (fun q hq => List.mem_cons_of_mem _ hq)⟩) ?_
       clear hS
       rintro m2 l W ⟨j, v, hj, rfl, rfl, hS⟩
       refine seqF (regF ?_)
       refine op_lss rfl rfl rfl ?_
       refine endF (XF.thenN ?_)
       refine seqF ?_
       refine condF rfl (fun hc => ?_) (fun hc => ?_)
       ·have hc105 := of_decide_eq_true hc; clear hc
        have hj1 : j < rwl := by omega
        obtain ⟨b4, off4, y4, rfl, hy4, hy4c⟩ := hrw.at1 (i := rwl - 1 - j) (show rwl - 1 - j < rws.length by omega)
        have k4 := hS.old hy4c
        refine skipF ?_
        refine XF.thenN ?_
        refine seqF ?_
        refine blockF ?_
        refine seqF (regF ?_)
        refine op_move rfl rfl ?_
        refine op_assign rfl rfl ?_
        refine endF (XF.thenN ?_)
        refine regF ?_
        refine op_move rfl rfl ?_
        refine op_field (o' := 3) fa_66_3 rfl rfl rfl ?_
        refine op_load Tryz.isAgg29 rfl (cell_own (hS.at_ 0 rfl) rfl) rfl ?_
        refine op_field (o' := 3) fa_66_3 rfl rfl rfl ?_
        refine op_load Tryz.isAgg29 rfl (cell_own (hS.at_ 0 rfl) rfl) rfl ?_
        refine op_len Tryz.underlying29 rfl rfl ?_
        refine op_sub rfl rfl (IntWalk.i64_in _ (by omega)) rfl ?_
        refine op_move rfl rfl ?_
        refine op_sub rfl rfl (IntWalk.i64_in _ (by omega)) rfl ?_
        refine op_indexA (j := rwl - 1 - j) Tryz.underlying29 Tryz.sizeOf3 rfl rfl (by omega) (by omega) rfl rfl ?_
        refine op_load Tryz.isAgg3 rfl (by first | assumption | exact hS.old (by assumption)) rfl ?_
        refine op_buildSlice (us := [(0, .int .i64 _)]) hS Tryz.underlying29 Tryz.sizeOf3 Tryz.zeroValue3 rfl rfl rfl (bs_29_1 _) rfl ?_
        clear hS; intro B29 W29 hS
        refine op_append (i := 0) (news := [_]) hS Tryz.underlying29 inf_3 rfl rfl (by show 0 < 1; decide) rfl rfl rfl rfl rfl (CellsAt.own (j := 0) (m := 1) (hS.at_ 0 rfl) rfl) rfl rfl (by simp only [maxLen]; omega) (by show (t.length + j + 1) * 8 ≤ _; omega) rfl ?_
        clear hS; intro v30 W30 hS
        have hS := hS.castG (congrArg (fun z => [GR.mk v30 (t.length + (j + 1)) z 3 1]) (take_app hy4 hrwl hj1))
        refine op_assign rfl rfl ?_
        refine endF ?_
        refine XF.blkN ?_
        refine XF.thenN ?_
        refine regF ?_
        refine op_add rfl rfl (IntWalk.i64_in _ (by omega)) rfl ?_
        refine op_move rfl rfl ?_
        refine endF ?_
        exact XF.round (rwl - (j + 1)) [(3, _), (6, _), (7, _), (11, _), (12, _), (13, _), (14, _), (15, _), (17, _), (40, _), (41, _), (42, _), (103, _), (104, _)] (by omega) ⟨rfl, rfl, rfl, rfl, rfl, rfl, rfl, rfl, rfl, rfl, rfl, rfl, rfl, rfl, trivial⟩ ⟨j + 1, _, by omega, rfl, rfl, hS.tail⟩
       ·have hc105 := of_decide_eq_false hc; clear hc
        have hjr : j = rwl := by omega
        have hS := hS.castG (G' := [⟨v, (rws ++ t).length, (rws ++ t).reverse.map (Value.int .i64), 3, 1⟩]) (by rw [show t.length + j = (rws ++ t).length by simp; omega, show t.reverse ++ rws.reverse.take j = (rws ++ t).reverse by rw [List.take_of_length_le (by simp; omega)]; simp])
        refine exitF ?_
        refine XF.thenX ?_
        refine XF.thenX ?_
        refine XF.blkX ?_
        refine XF.thenN ?_
        have hsz := hS.below.size
        have hXw := hX.now hS
        have hrxw := hrx.below hS.below
        refine regBK followsM 9 hS rfl rfl (by kernel_rfl) (by kernel_rfl) (by kernel_rfl) (fun d hd => by cases hd) ?_
        refine bl_cons 1 rfl (isV _) (stab_isV _) (rgV (li := [(17, _)]) rfl (w_free rfl) ⟨g_fr (by kernel_rfl) rfl, trivial⟩ (fun w hw => rn_field (o' := 2) fa_66_2 rfl rfl) (at_top rfl)) ?_
        refine bl_cons 2 rfl (isV _) (stab_isV _) (rgV (li := [(121, _)]) rfl (w_free rfl) ⟨g_dep 0 (by kernel_rfl) (at_dep rfl rfl rfl), trivial⟩ (fun w hw => rn_load Tryz.isAgg3 rfl ((below_agree hw 0).cell (Nat.zero_le _) (cell_own (hS.at_ 0 rfl) rfl))) (at_top rfl)) ?_
        refine bl_cons 3 rfl (isV _) (stab_isV _) (rgV (li := [(11, _)]) rfl (w_free rfl) ⟨g_fr (by kernel_rfl) rfl, trivial⟩ (fun w hw => rn_loadA (vs := [_, _, _, _, _, _, _, _, _]) Tryz.isAgg77 Tryz.sizeOf77 rfl (CellsAt.agree (below_agree hw 0) (Nat.zero_le _) (CellsAt.own (j := 0) (m := 9) (hS.at_ 2 rfl) rfl))) (at_top rfl)) ?_
        refine bl_cons 4 rfl (isX S x) (stab_isX) (rgP (li := [(12, _)]) rfl (w_free rfl) ⟨g_fr (by kernel_rfl) rfl, trivial⟩ (fun w hw => rn_loadA (vs := [_, _, _, _, _, _]) Tryz.isAgg48 Tryz.sizeOf48 rfl (CellsAt.agree (below_agree hw 0) (Nat.zero_le _) (CellsAt.own (j := 0) (m := 6) (hS.at_ 1 rfl) rfl))) (fun w hw => isX_of hXw hw) (at_top rfl)) ?_
        refine bl_cons 5 rfl (isV _) (stab_isV _) (rgV (li := [(17, _)]) rfl (w_free rfl) ⟨g_fr (by kernel_rfl) rfl, trivial⟩ (fun w hw => rn_field (o' := 4) fa_66_4 rfl rfl) (at_top rfl)) ?_
        refine bl_cons 6 rfl (isX S (px ⟨rp, rg, rq, rwa, rwl, rwc, rws, rx⟩)) (stab_isX) (rgP (li := [(125, _)]) rfl (w_free rfl) ⟨g_dep 4 (by kernel_rfl) (at_dep rfl rfl rfl), trivial⟩ (fun w hw => rn_loadA (vs := [_, _, _, _, _, _]) Tryz.isAgg48 Tryz.sizeOf48 rfl (CellsAt.agree (below_agree hw 0) (Nat.zero_le _) (CellsAt.own (j := 4) (m := 6) (hS.at_ 0 rfl) rfl))) (fun w hw => ⟨rx.f, rfl, hrxw.below hw⟩) (at_top rfl)) ?_
        refine bl_cons 7 rfl (isRowX S [x, px ⟨rp, rg, rq, rwa, rwl, rwc, rws, rx⟩]) (stab_isRowX) (rg_rowX2 rfl (w_free rfl) ⟨p_tmp (g_dep 3 (by kernel_rfl) (at_dep rfl rfl rfl)), p_tmp (g_dep 5 (by kernel_rfl) (at_dep rfl rfl rfl)), trivial⟩ (at_top rfl)) ?_
        refine bl_cons 8 rfl (isNew W.heap.size S (extX S x (px ⟨rp, rg, rq, rwa, rwl, rwc, rws, rx⟩))) (stab_isNew) (rg_call [isV (ringV s.f f0), isRowX S [x, px ⟨rp, rg, rq, rwa, rwl, rwc, rws, rx⟩]] rfl goes_39 (w_free rfl) ⟨p_tmp (g_dep 2 (by kernel_rfl) (at_dep rfl rfl rfl)), p_tmp (g_dep 6 (by kernel_rfl) (at_dep rfl rfl rfl)), trivial⟩ (fun vs w' hb hh => times2 hh (hsi.below (hS.below.trans (hb.mono hS.below.size))) hok (ht.below (hS.below.trans (hb.mono hS.below.size))) hb.size) (at_top rfl)) ?_
        refine bl_cons 9 rfl (isV _) (stab_isV _) (rgV (li := [(122, _)]) rfl (w_free rfl) ⟨g_dep 1 (by kernel_rfl) (at_dep rfl rfl rfl), trivial⟩ (fun w hw => rn_assign rfl) (at_top rfl)) ?_
        refine bl_nil ?_
        intro W31 hbR hS'
        clear hS; have hS := hS'; clear hS'
        refine fin_v ?_
        refine fin_v ?_
        refine fin_v ?_
        refine fin_p ?_; rintro _ _
        refine fin_v ?_
        refine fin_p ?_; rintro _ _
        refine fin_p ?_; rintro _ _
        refine fin_p ?_; rintro _ ⟨f2, rfl, hn2⟩
        refine fin_v ?_
        refine fin_nil ?_
        refine op_storeA (i := 1) (vs := [_, _, _, _, _, _]) (cs' := [_, _, _, _, _, _]) (O' := [_, _, _, _, _, _, _]) hS Tryz.sizeOf48 rfl rfl rfl rfl rfl rfl rfl ?_
        clear hS; intro W32 hS
        refine endF ?_
        refine XF.blkN ?_
        refine XF.thenN ?_
        refine regF ?_
        refine op_add rfl rfl (IntWalk.i64_in _ (by omega)) rfl ?_
        refine op_move rfl rfl ?_
        refine endF ?_
        exact XF.round (ll - (k + 1)) [(3, _), (6, _), (7, _), (11, _), (12, _), (13, _), (14, _), (40, _), (41, _), (42, _)] (by omega) ⟨rfl, rfl, rfl, rfl, rfl, rfl, rfl, rfl, rfl, rfl, trivial⟩ ⟨k + 1, rq, rws ++ t, extX S x (px ⟨rp, rg, rq, rwa, rwl, rwc, rws, rx⟩), f2, v, [(_, _)], by omega, rfl, rfl, by rw [← hrun, runF_ok hO], by simp; omega, Held.one (fun W2 hg => ⟨f2, rfl, (hn2.agree hg).mono hsz⟩), hS.tail.keep [_] (fun q hq => by simp at hq; subst hq; exact List.mem_cons_self)⟩
 ·have hc43 := of_decide_eq_false hc; clear hc
  rw [List.drop_of_length_le (by omega)] at hrun
  refine exitF ?_
  refine XF.thenX ?_
  refine XF.thenX ?_
  refine XF.blkX ?_
  refine XF.thenN ?_
  refine seqF (regF ?_)
  refine op_move rfl rfl ?_
  refine op_rev (zs := us.reverse) hS 0 goes_38 rfl rfl Tryz.slices_Reverse_int Tryz.slices_Reverse_int_empty rfl ?_
  clear hS; intro W33 hS
  refine endF (XF.thenN ?_)
  refine seqF ?_
  refine regS (ef := 4) (jy := 8) (ca := caNo (fun _ => [])) (ta := fun _ => 0) (Os := osSt _ 3 0 B3 ([.int .i64 0, .slice none 0 0]) ([.int .i64 q, .slice a us.length c]) 31) (Gs := gsNo _) (al := []) (k := 5) (ds := [8, 9]) followsM rfl hS rfl (by kernel_rfl) (by kernel_rfl) rfl (by decide) rfl (some) (.inl ⟨rfl, rfl⟩) rfl rfl ?_
  refine bls_cons 1 rfl rfl (isV _) (fun hNo => sgV [(13, _)] rfl rfl rfl rfl hNo (w_free rfl) ⟨g_fr (by kernel_rfl) rfl, trivial⟩ (fun ev w he hw => rn_move rfl) (at_top rfl)) ?_
  refine bls_cons 2 rfl rfl (isV _) (fun hNo => sgV [(14, _)] rfl rfl rfl rfl hNo (w_free rfl) ⟨g_fr (by kernel_rfl) rfl, trivial⟩ (fun ev w he hw => rn_move rfl) (at_top rfl)) ?_
  refine bls_cons 3 rfl rfl (isV _) (fun hNo => sgV [(132, _), (133, _)] rfl rfl rfl rfl hNo (w_free rfl) ⟨g_dep 0 (by kernel_rfl) (at_dep rfl rfl rfl), g_dep 1 (by kernel_rfl) (at_dep rfl rfl rfl), trivial⟩ (fun ev w he hw => rn_build (us := [(0, .int .i64 _), (1, .slice _ _ _)]) rfl (bld_31_0_1 _ _ _ _)) (at_top rfl)) ?_
  refine bls_cons 4 rfl rfl (isV _) (fun hNo => sgV [(12, _)] rfl rfl rfl rfl hNo (w_free rfl) ⟨g_fr (by kernel_rfl) rfl, trivial⟩ (fun ev w he hw => rn_loadA (vs := [_, _, _, _, _, _]) Tryz.isAgg48 Tryz.sizeOf48 rfl ((CellsAt.own (j := 0) (m := 6) (hw.at_ 0 (osSt_at (i := 0) (j := 3) rfl rfl)) rfl))) (at_top rfl)) ?_
  refine bls_any 5 rfl (eff_stO (m := 2) 3 0 [(6, _), (134, _)] rfl rfl rfl rfl (fun j hj => by rcases hj with h | rfl <;> first | (cases h <;> rfl) | rfl) ⟨g_fr (by kernel_rfl) rfl, g_dep 2 (by kernel_rfl) (at_dep rfl rfl rfl), trivial⟩ rfl rfl rfl Tryz.sizeOf31 rfl rfl rfl rfl) ?_
  refine bls_nil ?_
  intro Bf34 y34 W34 Ks34 hsz34 hKs34 hS' hcov34
  clear hS; have hS := hS'.castO (O' := [_, _, _, _, _, _]) rfl; clear hS'
  refine castL (L' := [AwS _ _ (isV _), AwS _ _ (isV _), AwS _ _ (isV _), AwS _ _ (isV _), isV _]) rfl ?_
  refine fin_sV ?_
  refine fin_sV ?_
  refine fin_sV ?_
  refine fin_sV ?_
  refine fin_0 ?_
  refine fin_nil ?_
  refine op_storeA (i := 2) (vs := [_, _, _, _, _, _]) (cs' := [_, _, _, _, _, _]) (O' := [_, _, _, _, _, _]) hS Tryz.sizeOf48 rfl rfl rfl rfl rfl rfl rfl ?_
  clear hS; intro W35 hS
  refine op_assign rfl rfl ?_
  refine op_assign rfl rfl ?_
  refine endF (XF.thenN ?_)
  refine retF ?_
  refine XF.res (resCCTT (vs := [_, _]) (us := [_, _, _, _, _, _]) Tryz.results15 Tryz.isAgg31 Tryz.sizeOf31 rfl (CellsAt.own (j := 0) (m := 2) (hS.at_ 3 rfl) rfl) Tryz.isAgg48 Tryz.sizeOf48 rfl (CellsAt.own (j := 0) (m := 6) (hS.at_ 2 rfl) rfl) rfl rfl) ?_
  rw [← hrun]
  obtain ⟨f', e', h'⟩ := hX hS (fun q hq => List.mem_append_right _ hq)
  exact ⟨hS.below, a, c, f', congrArg (fun z => Ending.returned (.tuple #[.agg #[.int .i64 q, .slice a us.length c], z, .int .i64 0, .int .i64 0])) e', by have h9 := hS.row 0 rfl; simp only [List.reverse_reverse] at h9; exact h9, h'⟩
end Go.Proofs.YtfkbkekgnoanaaaGreatDoor
namespace Go.Proofs.YtfkbkekgnoanaaaGreatDoor
open Go Go.RowKit
theorem St.regrow {w0 W W' : World} {v v' : Value} {n n' : Nat} {xs xs' : List Value} {e : TypeId} {size : Nat} (h : St w0 [] [⟨v, n, xs, e, size⟩] [] W) (hb : Below w0.heap.size W W') (hr : W'.ownsRow w0.heap.size e size v' n' xs') : St w0 [] [⟨v', n', xs', e, size⟩] [] W' :=
 ⟨h.below.trans hb, (fun p hp => by cases hp), List.Pairwise.nil, (fun q hq => by cases hq), (fun g hg => by
  rcases List.mem_cons.1 hg with rfl | hg
  ·exact ⟨hr, fun b hb => ⟨fun p hp => (by cases hp), fun q hq => (by cases hq)⟩⟩
  ·cases hg), List.pairwise_singleton _ _⟩
section
variable {P : Program} {n : Nat} {ops : Array Oper} {Q : Exit → Act → World → Prop} {l : Fr} {w0 W : World} {O : Own} {G : Grows} {K : List (Nat × World)} {os : List Oper} {d : Nat} {ty : TypeId} {pos : String} {aft : Array Edge}
theorem op_convB {src dst e : TypeId} {x : Operand} {base : Nat} {v : Value} {bs : List UInt8} (hs : P.underlying src = some (.slice e)) (he : P.underlying e = some (.int .u8)) (hdst : P.underlying dst = some .string) (hx : evL l x = some v) (hr : W.ownsRow base e 1 v bs.length (Lib.byteCells bs)) (h0 : 0 < bs.length) (hd : Nat.blt d n = true)
  (h : OpsF P n ops Q os ((d, .string ⟨bs.toArray⟩) :: l) W) : OpsF P n ops Q (⟨some d, .convert src dst x, ty, pos, aft, none⟩ :: os) l W :=
 opV (v := .string ⟨bs.toArray⟩) (fun ev hev => by
  obtain ⟨b, c, rfl, _⟩ := ownsRow_at hr h0
  have hc : ∀ j (hj : j < bs.length), W.cell? (Addr.add ⟨b, 0, none⟩ j) = some (.int .u8 (bs[j].toNat : Int)) := fun j hj => by
   rcases ownsRow_cells hr with ⟨h1, _⟩ | ⟨b', h1, _, h2⟩
   ·cases h1
   ·cases h1
    rw [Addr.add_lit, Nat.zero_add]
    exact h2 j _ (by simp [Lib.byteCells, hj])
  have hr := run_convert_bytes_back (P := P) W src dst e ⟨b, 0, none⟩ c bs hs he hdst hc
  unfold execOp; simp only []; rw [hev x _ hx]
  simp [hr]) hd h
theorem rn_sliceTo {T e : TypeId} {x y : Operand} {kk : IntKind} {a : Option Addr} {m c k s : Nat} {j : Int} (hU : P.underlying T = some (.slice e)) (hs : ∀ w, (sizeOf e).run P w = .ok s w) (hx : evL l x = some (.slice a m c)) (hy : evL l y = some (.int kk j)) (hj : j = (k : Int)) (hk : k ≤ c) (h0 : c ≠ 0) (ha : ∀ p, a = some p → ∃ b o, p = ⟨b, o, none⟩) :
  Runs P l ⟨some d, .slice T x none (some y) none, ty, pos, aft, none⟩ W (.slice a k c) W := fun ev he => by
 subst hj
 have h1 : (0 : Int) ≤ (k : Int) := by omega
 have h2 : (k : Int) ≤ (c : Int) := by omega
 have hm : a.map (·.add 0) = a := by
  cases a with
  | none => rfl
  | some p => obtain ⟨b, o, rfl⟩ := ha p rfl; rfl
 unfold execOp; simp only [Option.map_some, Option.map_none]; rw [he x _ hx, he y _ hy]
 simp [Instr.sliceAt, Instr.slice, Instr.sliceBounds, Instr.sliceBound, run_underlying hU, asIntOf, hk, hs, h0]
 exact hm
theorem op_sliceTo {T e : TypeId} {x y : Operand} {kk : IntKind} {a : Option Addr} {m c k s : Nat} {j : Int} (hU : P.underlying T = some (.slice e)) (hs : ∀ w, (sizeOf e).run P w = .ok s w) (hx : evL l x = some (.slice a m c)) (hy : evL l y = some (.int kk j)) (hj : j = (k : Int)) (hk : k ≤ c) (h0 : c ≠ 0) (ha : ∀ p, a = some p → ∃ b o, p = ⟨b, o, none⟩) (hd : Nat.blt d n = true)
  (h : OpsF P n ops Q os ((d, .slice a k c) :: l) W) : OpsF P n ops Q (⟨some d, .slice T x none (some y) none, ty, pos, aft, none⟩ :: os) l W := opV (rn_sliceTo hU hs hx hy hj hk h0 ha) hd h
end
end Go.Proofs.YtfkbkekgnoanaaaGreatDoor
namespace Go.Proofs.YtfkbkekgnoanaaaGreatDoor
open Go Go.RowKit
def confT (p : Int) (ws : List Int) : List UInt8 := Lib.itoa p ++ ws.flatMap (fun g => 32 :: Lib.itoa g)
theorem confT_take {p : Int} {ws : List Int} {i : Nat} {y : Int} (h : ws[i]? = some y) : confT p (ws.take (i + 1)) = confT p (ws.take i) ++ 32 :: Lib.itoa y := by
 unfold confT
 rw [List.take_add_one, h]
 simp [List.flatMap_append]
theorem confT_len {p : Int} {ws : List Int} (hp : -9223372036854775808 ≤ p ∧ p ≤ 9223372036854775807) (hw : ∀ y ∈ ws, -9223372036854775808 ≤ y ∧ y ≤ 9223372036854775807) : (confT p ws).length ≤ 21 + 22 * ws.length := by
 unfold confT
 rw [List.length_append]
 have h1 := Lib.itoa_length_le p hp.1 hp.2
 have h2 : (ws.flatMap (fun g => 32 :: Lib.itoa g)).length ≤ 22 * ws.length := by
  induction ws with
  | nil => simp
  | cons y t ih =>
   have h3 := hw y List.mem_cons_self
   have h4 := Lib.itoa_length_le y h3.1 h3.2
   have h5 := ih (fun z hz => hw z (List.mem_cons_of_mem _ hz))
   simp only [List.flatMap_cons, List.length_append, List.length_cons]
   omega
 omega
theorem text_c (p : Int) (wa : Option Addr) (wl wc : Nat) (ws : List Int) (w : World) (hrow : Row w wa ws) (hlen : ws.length = wl) (hm : wl ≤ 4096) (hp : -9223372036854775808 ≤ p ∧ p ≤ 9223372036854775807) (hwr : ∀ y ∈ ws, -9223372036854775808 ≤ y ∧ y ≤ 9223372036854775807) (hne : 0 < (confT p ws).length) (ht : Tabs w) :
  Calls Tryz.prog 34 #[.agg #[.int .i64 p, .slice wa wl wc]] w (fun e w' => e = .returned (.string ⟨(confT p ws).toArray⟩) ∧ Below w.heap.size w w') := by
 refine enterF (args := [.agg #[.int .i64 p, .slice wa wl wc]]) Tryz.func34 rfl Tryz.ntmps34 rfl ?_
 have hS := St.start w
 refine seqF (regF ?_)
 refine op_box (cs := [_, _]) hS rfl rfl rfl ?_
 clear hS; intro B1 W1 hS
 refine op_assign rfl rfl ?_
 refine endF (XF.thenN ?_)
 refine seqF ?_
 have hRoot := hS.below
 have c0 : W1.cell? ⟨B1, 0, none⟩ = some (.int .i64 p) := cell_own (hS.at_ 0 rfl) rfl
 have c1 : W1.cell? ⟨B1, 1, none⟩ = some (.slice wa wl wc) := cell_own (hS.at_ 0 rfl) rfl
 have hT : Lib.TabBelow Tryz.prog W1.heap.size W1 "internal/strconv.uint64pow10" .u64 Lib.pow10Tab := fun w2 hb2 => (ht.below (hRoot.trans (hb2.mono hRoot.size))).pow
 have hRoot0 := hRoot
 clear hS; have hS := St.start W1
 refine regF ?_
 refine op_field fa_31_0 rfl (Nat.add_zero _) rfl ?_
 refine op_load Tryz.isAgg3 rfl (by first | assumption | exact hS.old (by assumption)) rfl ?_
 refine op_callG (vs := [_, _, _]) (xs := [] ++ Lib.byteCells (Lib.itoa p)) (e1 := 5) (size := 1) (m := 0 + (Lib.itoa p).length) hS goes_52 rfl (Tryz.strconv_AppendInt_10 W1.heap.size 0 p hp.1 hp.2 _ [] _ (World.ownsRow_nil _ _ _ _) (Nat.le_refl _) (by decide) hT) rfl (fun e W2 ⟨v, h1, h2, h3, _⟩ => ⟨v, h1, h3, h2⟩) ?_
 clear hS; intro v2 W2 hS
 refine op_assign rfl rfl ?_
 refine endF (XF.thenN ?_)
 refine seqF ?_
 refine seqF (regF ?_)
 refine op_field fa_31_1 rfl rfl rfl ?_
 refine op_load Tryz.isAgg29 rfl (by first | assumption | exact hS.old (by assumption)) rfl ?_
 refine op_len Tryz.underlying29 rfl rfl ?_
 refine op_move rfl rfl ?_
 refine endF (XF.thenN ?_)
 refine blockF ?_
 refine loopF (fun m l W => ∃ (i : Nat) (v : Value), i ≤ wl ∧ m = wl - i ∧ l = [(3, v), (10, .slice wa wl wc), (11, .int .i64 (wl : Int)), (12, .int .i64 (i : Int))] ∧ St W1 [] [⟨v, (confT p (ws.take i)).length, Lib.byteCells (confT p (ws.take i)), 5, 1⟩] [] W) (wl - 0) ([(3, _), (10, _), (11, _), (12, _)]) ⟨rfl, rfl, rfl, rfl, trivial⟩ (⟨0, _, Nat.zero_le _, rfl, rfl, hS.castG (by simp [confT])⟩) ?_
 clear hS
 rintro m l W ⟨i, v, hi, rfl, rfl, hS⟩
 refine seqF (regF ?_)
 refine op_lss rfl rfl rfl ?_
 refine endF (XF.thenN ?_)
 refine seqF ?_
 refine condF rfl (fun hc => ?_) (fun hc => ?_)
 ·have hc13 := of_decide_eq_true hc; clear hc
  have hk : i < wl := by omega
  obtain ⟨b, off, y, rfl, hy, hyc⟩ := hrow.at1 (show i < ws.length by omega)
  have k1 := hS.old (cell_old hyc hRoot0)
  have hyr := hwr y (List.mem_of_getElem? hy)
  have hTl := confT_len (ws := ws.take i) hp (fun z hz => hwr z (List.mem_of_mem_take hz))
  have hTl2 : (ws.take i).length ≤ 4096 := by rw [List.length_take]; omega
  refine skipF ?_
  refine XF.thenN ?_
  refine seqF ?_
  refine blockF ?_
  refine seqF (regF ?_)
  refine op_indexA  Tryz.underlying29 Tryz.sizeOf3 rfl rfl rfl (by omega) rfl rfl ?_
  refine op_load Tryz.isAgg3 rfl (by first | assumption | exact hS.old (by assumption)) rfl ?_
  refine op_assign rfl rfl ?_
  refine endF (XF.thenN ?_)
  refine seqF (regF ?_)
  refine op_move rfl rfl ?_
  refine op_buildSlice (us := [(0, .int .u8 _)]) hS Tryz.underlying105 Tryz.sizeOf5 Tryz.zeroValue5 rfl rfl rfl (bs_105_1 _) rfl ?_
  clear hS; intro B3 W3 hS
  refine op_append (i := 0) (news := [_]) hS Tryz.underlying105 inf_5 rfl rfl (by show 0 < 1; decide) rfl rfl rfl rfl rfl (CellsAt.own (j := 0) (m := 1) (hS.at_ 0 rfl) rfl) rfl rfl (by simp only [maxLen]; omega) (by show ((confT p (ws.take i)).length + 1) * 1 ≤ _; omega) rfl ?_
  clear hS; intro v4 W4 hS
  refine op_assign rfl rfl ?_
  refine endF (XF.thenN ?_)
  refine regF ?_
  refine op_move rfl rfl ?_
  refine op_move rfl rfl ?_
  refine op_callX (vs := [_, _, _]) goes_52 rfl (Tryz.strconv_AppendInt_10 W1.heap.size ((confT p (ws.take i)).length + 1) y hyr.1 hyr.2 _ _ _ (hS.row 0 rfl) hS.below.size (by omega) (fun w2 hb2 => hT w2 (hS.below.trans hb2))) rfl ?_
  rintro e W90 ⟨v90, rfl, hown90, hb90, _⟩
  refine ⟨_, rfl, ?_⟩
  have hS := (hS.tail.clear).regrow hb90 hown90
  refine op_assign rfl rfl ?_
  refine endF ?_
  refine XF.blkN ?_
  refine XF.thenN ?_
  refine regF ?_
  refine op_add rfl rfl (IntWalk.i64_in _ (by omega)) rfl ?_
  refine op_move rfl rfl ?_
  refine endF ?_
  exact XF.round (wl - (i + 1)) [(3, _), (10, _), (11, _), (12, _)] (by omega) ⟨rfl, rfl, rfl, rfl, trivial⟩ ⟨i + 1, v90, by omega, rfl, rfl, hS.castG (by rw [confT_take hy]; simp [Lib.byteCells, Nat.add_assoc, Nat.add_comm 1])⟩
 ·have hc13 := of_decide_eq_false hc; clear hc
  rw [List.take_of_length_le (by omega)] at hS
  refine exitF ?_
  refine XF.thenX ?_
  refine XF.thenX ?_
  refine XF.blkX ?_
  refine XF.thenN ?_
  refine seqF (regF ?_)
  refine op_move rfl rfl ?_
  refine op_convB Tryz.underlying105 Tryz.underlying5 Tryz.underlying9 rfl (hS.row 0 rfl) hne rfl ?_
  refine op_assign rfl rfl ?_
  refine endF (XF.thenN ?_)
  refine retF ?_
  refine XF.res (res1 Tryz.results34 rfl) ?_
  exact ⟨rfl, hRoot0.trans (hS.below.mono hRoot0.size)⟩
end Go.Proofs.YtfkbkekgnoanaaaGreatDoor
namespace Go.Proofs.YtfkbkekgnoanaaaGreatDoor
open Go Go.RowKit
theorem runA_bad (ds d : Nat) (p : PV) (c : CV) (la : Option Addr) (ll lc : Nat) (w : World) (hp : PvIn w ds d p) (hcf : CIn w c) (hne : stepE p c ≠ 0) :
  Calls Tryz.prog 15 #[p.val, c.val, .slice la ll lc] w (fun e w' => e = .returned (.tuple #[.agg #[.int .i64 0, .slice none 0 0], .agg #[.bool false, .int .i64 0, .int .u64 0, .slice none 0 0, .slice none 0 0, .slice none 0 0], .int .i64 0, .int .i64 (stepE p c)]) ∧ Below w.heap.size w w') := by
 refine enterF (args := [p.val, c.val, .slice la ll lc]) Tryz.func15 rfl Tryz.ntmps15 rfl ?_
 have hS := St.start w
 refine seqF (regF ?_)
 refine op_box (cs := [_, _, _, _, _, _]) hS rfl rfl rfl ?_
 clear hS; intro B1 W1 hS
 refine op_box (cs := [_, _]) hS rfl rfl rfl ?_
 clear hS; intro B2 W2 hS
 refine op_alloc (cs := [_, _]) hS Tryz.zeroValue31 rfl rfl ?_
 clear hS; intro B3 W3 hS
 refine op_alloc (cs := [_, _, _, _, _, _]) hS Tryz.zeroValue48 rfl rfl ?_
 clear hS; intro B4 W4 hS
 refine op_assign rfl rfl ?_
 refine op_assign rfl rfl ?_
 refine endF (XF.thenN ?_)
 refine seqF ?_
 refine seqF (regF ?_)
 refine op_loadA (vs := [_, _, _, _, _, _]) Tryz.isAgg28 Tryz.sizeOf28 rfl (CellsAt.own (j := 0) (m := 6) (hS.at_ 3 rfl) rfl) rfl ?_
 refine op_loadA (vs := [_, _]) Tryz.isAgg31 Tryz.sizeOf31 rfl (CellsAt.own (j := 0) (m := 2) (hS.at_ 2 rfl) rfl) rfl ?_
 refine op_call (vs := [_, _]) hS goes_12 rfl (stepA_is ds d p c _ (hp.below hS.below) (hcf.below hS.below)) rfl ?_
 rintro e W5 ⟨rfl, hb⟩
 refine ⟨_, rfl, hb, fun hS' => ?_⟩
 clear hS; have hS := hS'; clear hS' hb
 refine op_assign rfl rfl ?_
 refine endF (XF.thenN ?_)
 refine seqF (regF ?_)
 refine op_move rfl rfl ?_
 refine op_neq rfl rfl rfl ?_
 refine endF (XF.thenN ?_)
 refine condF rfl (fun hc => ?_) (fun hc => absurd (of_decide_eq_false hc) (by exact fun h => h hne))
 have hc := of_decide_eq_true hc
 refine seqF (regF ?_)
 refine op_build (us := []) rfl (bld_31) rfl ?_
 refine op_build (us := []) rfl (bld_48) rfl ?_
 refine op_move rfl rfl ?_
 refine op_storeA (i := 1) (vs := [_, _]) (cs' := [_, _]) (O' := [_, _, _, _]) hS Tryz.sizeOf31 rfl rfl rfl rfl rfl rfl rfl ?_
 clear hS; intro W6 hS
 refine op_storeA (i := 0) (vs := [_, _, _, _, _, _]) (cs' := [_, _, _, _, _, _]) (O' := [_, _, _, _]) hS Tryz.sizeOf48 rfl rfl rfl rfl rfl rfl rfl ?_
 clear hS; intro W7 hS
 refine op_assign rfl rfl ?_
 refine op_assign rfl rfl ?_
 refine endF (XF.thenN ?_)
 refine retF ?_
 refine XF.thenR ?_
 refine XF.res (resCCTT (vs := [_, _]) (us := [_, _, _, _, _, _]) Tryz.results15 Tryz.isAgg31 Tryz.sizeOf31 rfl (CellsAt.own (j := 0) (m := 2) (hS.at_ 1 rfl) rfl) Tryz.isAgg48 Tryz.sizeOf48 rfl (CellsAt.own (j := 0) (m := 6) (hS.at_ 0 rfl) rfl) rfl rfl) ?_
 exact ⟨rfl, hS.below⟩
theorem runR_bad (ds d : Nat) (p : PV) (c : CV) (la : Option Addr) (ll lc : Nat) (w : World) (hp : PvIn w ds d p) (hcf : CIn w c) (hne : stepE p c ≠ 0) :
  Calls Tryz.prog 16 #[p.val, c.val, .slice la ll lc] w (fun e w' => e = .returned (.tuple #[.agg #[.int .i64 0, .slice none 0 0], .agg #[.bool false, .int .i64 0, .int .u64 0, .slice none 0 0, .slice none 0 0, .slice none 0 0], .int .i64 0, .int .i64 (stepE p c)]) ∧ Below w.heap.size w w') := by
 refine enterF (args := [p.val, c.val, .slice la ll lc]) Tryz.func16 rfl Tryz.ntmps16 rfl ?_
 have hS := St.start w
 refine seqF (regF ?_)
 refine op_box (cs := [_, _, _, _, _, _]) hS rfl rfl rfl ?_
 clear hS; intro B1 W1 hS
 refine op_box (cs := [_, _]) hS rfl rfl rfl ?_
 clear hS; intro B2 W2 hS
 refine op_alloc (cs := [_, _]) hS Tryz.zeroValue31 rfl rfl ?_
 clear hS; intro B3 W3 hS
 refine op_alloc (cs := [_, _, _, _, _, _]) hS Tryz.zeroValue48 rfl rfl ?_
 clear hS; intro B4 W4 hS
 refine op_assign rfl rfl ?_
 refine op_assign rfl rfl ?_
 refine endF (XF.thenN ?_)
 refine seqF (regF ?_)
 refine op_loadA (vs := [_, _, _, _, _, _]) Tryz.isAgg28 Tryz.sizeOf28 rfl (CellsAt.own (j := 0) (m := 6) (hS.at_ 3 rfl) rfl) rfl ?_
 refine op_loadA (vs := [_, _]) Tryz.isAgg31 Tryz.sizeOf31 rfl (CellsAt.own (j := 0) (m := 2) (hS.at_ 2 rfl) rfl) rfl ?_
 refine op_call (vs := [_, _]) hS goes_13 rfl (stepR_is ds d p c _ (hp.below hS.below) (hcf.below hS.below)) rfl ?_
 rintro e W5 ⟨rfl, hb⟩
 refine ⟨_, rfl, hb, fun hS' => ?_⟩
 clear hS; have hS := hS'; clear hS' hb
 refine op_assign rfl rfl ?_
 refine endF (XF.thenN ?_)
 refine seqF ?_
 refine seqF (regF ?_)
 refine op_move rfl rfl ?_
 refine op_neq rfl rfl rfl ?_
 refine endF (XF.thenN ?_)
 refine condF rfl (fun hc => ?_) (fun hc => absurd (of_decide_eq_false hc) (by exact fun h => h hne))
 have hc := of_decide_eq_true hc
 refine seqF (regF ?_)
 refine op_build (us := []) rfl (bld_31) rfl ?_
 refine op_build (us := []) rfl (bld_48) rfl ?_
 refine op_move rfl rfl ?_
 refine op_storeA (i := 1) (vs := [_, _]) (cs' := [_, _]) (O' := [_, _, _, _]) hS Tryz.sizeOf31 rfl rfl rfl rfl rfl rfl rfl ?_
 clear hS; intro W6 hS
 refine op_storeA (i := 0) (vs := [_, _, _, _, _, _]) (cs' := [_, _, _, _, _, _]) (O' := [_, _, _, _]) hS Tryz.sizeOf48 rfl rfl rfl rfl rfl rfl rfl ?_
 clear hS; intro W7 hS
 refine op_assign rfl rfl ?_
 refine op_assign rfl rfl ?_
 refine endF (XF.thenN ?_)
 refine retF ?_
 refine XF.thenR ?_
 refine XF.res (resCCTT (vs := [_, _]) (us := [_, _, _, _, _, _]) Tryz.results16 Tryz.isAgg31 Tryz.sizeOf31 rfl (CellsAt.own (j := 0) (m := 2) (hS.at_ 1 rfl) rfl) Tryz.isAgg48 Tryz.sizeOf48 rfl (CellsAt.own (j := 0) (m := 6) (hS.at_ 0 rfl) rfl) rfl rfl) ?_
 exact ⟨rfl, hS.below⟩
structure Ready (w : World) (S : PS) (px : RV → PX) (p : PV) (c : CV) : Prop where
 chk : stepE p c = 0
 ok : S.ok
 si : SIs w S p.s.f
 w4 : ∀ r ∈ p.rs, r.wl ≤ 4096
 c4 : c.wl ≤ 4096
 x : ∀ r ∈ p.rs, XIs w S r.x.f (px r)
theorem ready {w : World} {ds d : Nat} {p : PV} {c : CV} (hp : PvIn w ds d p) (h : stepE p c = 0) : ∃ S px, Ready w S px p c := by
 classical
 have h1 : pdsE p = 0 ∧ confB p c = true := by
  unfold stepE at h
  split at h
  ·rename_i hn; exact absurd h hn
  ·rename_i hn
   split at h
   ·rename_i hc; exact ⟨Decidable.of_not_not hn, hc⟩
   ·cases h
 obtain ⟨hd, hc⟩ := h1
 have h2 : spaceE p.s = 0 ∧ p.rs.all (ruleB p.st p.sy) = true ∧ wtE p.s p.rs = 0 := by
  unfold pdsE at hd
  split at hd
  ·rename_i hn; exact absurd hd hn
  ·rename_i hn
   split at hd
   ·cases hd
   ·split at hd
    ·cases hd
    ·split at hd
     ·rename_i ha; exact ⟨Decidable.of_not_not hn, ha, hd⟩
     ·cases hd
 obtain ⟨hs, hr, hw⟩ := h2
 obtain ⟨S, hok, hsi, hx⟩ := space_of hp.s hs
 have hall : ∀ r ∈ p.rs, chkW p.s r.x = 0 := by
  have key : ∀ rs : List RV, wtE p.s rs = 0 → ∀ r ∈ rs, chkW p.s r.x = 0 := by
   intro rs
   induction rs with
   | nil => intro _ r hr; cases hr
   | cons a rs ih =>
    intro hz r hr
    unfold wtE at hz
    split at hz
    ·rename_i h0
     rcases List.mem_cons.1 hr with rfl | hr
     ·exact h0
     ·exact ih hz r hr
    ·rename_i h0; exact absurd hz h0
  exact key _ hw
 have hex : ∀ r, ∃ x, r ∈ p.rs → XIs w S r.x.f x := fun r => by
  by_cases hm : r ∈ p.rs
  ·have h0 := hall r hm
   have hokw : okW p.s r.x = true := by
    unfold chkW at h0
    rw [if_pos hs] at h0
    split at h0
    ·assumption
    ·cases h0
   obtain ⟨x, hxx⟩ := hx r.x d (hp.rin r hm).x hokw
   exact ⟨x, fun _ => hxx⟩
  ·exact ⟨zeroX S, fun h => absurd h hm⟩
 refine ⟨S, fun r => Classical.choose (hex r), h, hok, hsi, fun r hm => ?_, ?_, fun r hm => Classical.choose_spec (hex r) hm⟩
 ·have := List.all_eq_true.1 hr r hm
  unfold ruleB at this
  simp only [Bool.and_eq_true, decide_eq_true_eq] at this
  exact this.2.2.2.1
 ·unfold confB at hc
  simp only [Bool.and_eq_true, decide_eq_true_eq] at hc
  exact hc.2.1
theorem run_cases {w : World} {ds d : Nat} {p : PV} {c : CV} (is : List Int) (hp : PvIn w ds d p) : stepE p c ≠ 0 ∨ (∃ S px n e, Ready w S px p c ∧ runF S px p.rs is 0 (c.p, c.ws, oneX S) = (none, n, e)) ∨ ∃ S px st n e, Ready w S px p c ∧ runF S px p.rs is 0 (c.p, c.ws, oneX S) = (some st, n, e) := by
 by_cases h : stepE p c = 0
 ·obtain ⟨S, px, hr⟩ := ready hp h
  cases hR : runF S px p.rs is 0 (c.p, c.ws, oneX S) with
  | mk o q =>
   obtain ⟨n, e⟩ := q
   cases o with
   | none => exact .inr (.inl ⟨S, px, n, e, hr, hR⟩)
   | some st => exact .inr (.inr ⟨S, px, st, n, e, hr, hR⟩)
 ·exact .inl h
section
variable {w : World} {ds d : Nat} {S : PS} {px : RV → PX} {p : PV} {c : CV} {la : Option Addr} {ll lc : Nat} {is : List Int} {R : Option StT × Int × Int}
theorem runA_is (hp : PvIn w ds d p) (hcf : CIn w c) (hcc : c.wl ≤ c.wc) (hrla : Row w la is) (hll : is.length = ll) (hlm : ll ≤ 9223372036854775807) (hr : Ready w S px p c) (ht : Tabs w) (hR : runF S px p.rs is 0 (c.p, c.ws, oneX S) = R) : Calls Tryz.prog 15 #[p.val, c.val, .slice la ll lc] w (RunRet S R w) := by
 subst hR
 exact runA_c ds d S px p.s p.st p.sy p.ra p.rl p.rc p.rs c.p c.wa c.wl c.wc c.ws la ll lc is w hp.s hp.row hp.len hp.rin hcf.row hcf.len hcc hrla hll hlm hr.si hr.ok hr.chk hr.w4 hr.c4 hr.x ht
theorem runR_is (hp : PvIn w ds d p) (hcf : CIn w c) (hcc : c.wl ≤ c.wc) (hrla : Row w la is) (hll : is.length = ll) (hlm : ll ≤ 9223372036854775807) (hr : Ready w S px p c) (ht : Tabs w) (hR : runF S px p.rs is 0 (c.p, c.ws, oneX S) = R) : Calls Tryz.prog 16 #[p.val, c.val, .slice la ll lc] w (RunRet S R w) := by
 subst hR
 exact runR_c ds d S px p.s p.st p.sy p.ra p.rl p.rc p.rs c.p c.wa c.wl c.wc c.ws la ll lc is w hp.s hp.row hp.len hp.rin hcf.row hcf.len hcc hrla hll hlm hr.si hr.ok hr.chk hr.w4 hr.c4 hr.x ht
theorem Ready.below {w' : World} (h : Ready w S px p c) (hb : Below w.heap.size w w') : Ready w' S px p c := ⟨h.chk, h.ok, h.si.below hb, h.w4, h.c4, fun r hm => (h.x r hm).below hb⟩
end
end Go.Proofs.YtfkbkekgnoanaaaGreatDoor
namespace Go.Proofs.YtfkbkekgnoanaaaGreatDoor
open Go Go.RowKit
def exW : WV := .mk ⟨false, 1, 0, none, 0, 0, [], none, 0, 0, [], none, 0, 0⟩ []
def exP (b1 b2 : Nat) : PV := ⟨.mk ⟨2, 9, none, 0, 0⟩ [], 2, 3, some ⟨b2, 0, none⟩, 2, 2, [⟨0, 1, 0, some ⟨b1, 0, none⟩, 2, 2, [2, 1], exW⟩, ⟨0, 2, 1, none, 0, 0, [], exW⟩]⟩
theorem exW_in (w : World) : WIn w 1 exW := ⟨⟨.inl rfl, rfl, by decide, (fun r hr => by cases hr), .inl rfl, rfl, (fun c hc => by cases hc), by decide⟩, rfl, .inl rfl, fun p hp => by cases hp⟩
theorem row2 {w : World} {b : Nat} {x y : Int} {T : TypeId} (h : w.heap[b]? = some (.cells (List.toArray [.int .i64 x, .int .i64 y]) T (0, 0))) : Row w (some ⟨b, 0, none⟩) [x, y] := row_own h
theorem row1 {w : World} {b : Nat} {x : Int} {T : TypeId} (h : w.heap[b]? = some (.cells (List.toArray [.int .i64 x]) T (0, 0))) : Row w (some ⟨b, 0, none⟩) [x] := by
 refine .inr ⟨b, 0, rfl, fun i hi => ?_⟩
 have : i = 0 := by simp at hi; omega
 subst this
 simp [World.cell?, h]
theorem exP_in {w : World} {b1 b2 : Nat} {T1 T2 : TypeId} (h1 : w.heap[b1]? = some (.cells (List.toArray [.int .i64 2, .int .i64 1]) T1 (0, 0)))
  (h2 : w.heap[b2]? = some (.cells (List.toArray ((⟨0, 1, 0, some ⟨b1, 0, none⟩, 2, 2, [2, 1], exW⟩ : RV).ten ++ (⟨0, 2, 1, none, 0, 0, [], exW⟩ : RV).ten)) T2 (0, 0))) : PvIn w 1 1 (exP b1 b2) := by
 refine ⟨⟨rfl, .inl rfl, fun p hp => by cases hp⟩, .inr ⟨b2, 0, rfl, fun i r hi => ?_⟩, rfl, fun r hr => ?_⟩
 ·match i, hi with
  | 0, hi =>
   cases hi
   exact CellsAt.own (j := 0) (m := 10) h2 rfl
  | 1, hi =>
   cases hi
   exact CellsAt.own (j := 10) (m := 10) h2 rfl
  | i + 2, hi => exact absurd hi (by simp [exP])
 ·rcases List.mem_cons.1 hr with rfl | hr
  ·exact ⟨row2 h1, rfl, exW_in w⟩
  ·rcases List.mem_cons.1 hr with rfl | hr
   ·exact ⟨.inl rfl, rfl, exW_in w⟩
   ·cases hr
theorem example_is (w : World) :
  Calls Tryz.prog 33 #[] w (fun e w' => ∃ b1 b2, e = .returned (exP b1 b2).val ∧ (∀ w2, Agree w.heap.size w' w2 → PvIn w2 1 1 (exP b1 b2)) ∧ Below w.heap.size w w') := by
 refine enterF (args := []) Tryz.func33 rfl Tryz.ntmps33 rfl ?_
 have hS := St.start w
 refine seqF (regF ?_)
 refine op_alloc (cs := [_, _, _, _, _, _]) hS Tryz.zeroValue28 rfl rfl ?_
 clear hS; intro B1 W1 hS
 refine endF (XF.thenN ?_)
 refine seqF (regF ?_)
 refine op_build (us := [(1, .int .i64 _)]) rfl (bld_48_1 _) rfl ?_
 refine op_alloc (cs := [_, _, _, _, _, _]) hS Tryz.zeroValue48 rfl rfl ?_
 clear hS; intro B2 W2 hS
 refine op_storeA (i := 0) (vs := [_, _, _, _, _, _]) (cs' := [_, _, _, _, _, _]) (O' := [_, _]) hS Tryz.sizeOf48 rfl rfl rfl rfl rfl rfl rfl ?_
 clear hS; intro W3 hS
 refine endF (XF.thenN ?_)
 refine seqF (regF ?_)
 refine op_build (us := [(0, .int .i64 _), (1, .int .i64 _)]) rfl (bld_25_0_1 _ _) rfl ?_
 refine op_buildSlice (us := [(0, .int .i64 _), (1, .int .i64 _)]) hS Tryz.underlying29 Tryz.sizeOf3 Tryz.zeroValue3 rfl rfl rfl (bs_29_2 _ _) rfl ?_
 clear hS; intro B4 W4 hS
 refine op_loadA (vs := [_, _, _, _, _, _]) Tryz.isAgg48 Tryz.sizeOf48 rfl (CellsAt.own (j := 0) (m := 6) (hS.at_ 1 rfl) rfl) rfl ?_
 refine op_build (us := [(1, .int .i64 _), (3, .slice _ _ _), (4, .agg (List.toArray [_, _, _, _, _, _]))]) rfl (bld_66_1_3_4 _ _ _ _ _ _ _ _ _ _) rfl ?_
 refine op_loadA (vs := [_, _, _, _, _, _]) Tryz.isAgg48 Tryz.sizeOf48 rfl (CellsAt.own (j := 0) (m := 6) (hS.at_ 1 rfl) rfl) rfl ?_
 refine op_build (us := [(1, .int .i64 _), (2, .int .i64 _), (4, .agg (List.toArray [_, _, _, _, _, _]))]) rfl (bld_66_1_2_4 _ _ _ _ _ _ _ _) rfl ?_
 refine op_buildSlice (us := [(0, .agg (List.toArray [_, _, _, _, _, _, _, _, _, _])), (1, .agg (List.toArray [_, _, _, _, _, _, _, _, _, _]))]) hS Tryz.underlying26 Tryz.sizeOf66 Tryz.zeroValue66 rfl rfl rfl (bs_26_2 _ _ _ _ _ _ _ _ _ _ _ _ _ _ _ _ _ _ _ _) rfl ?_
 clear hS; intro B5 W5 hS
 refine op_build (us := [(0, .agg (List.toArray [_, _, _])), (1, .int .i64 _), (2, .int .i64 _), (3, .slice _ _ _)]) rfl (bld_28_0_1_2_3 _ _ _ _ _ _ _ _) rfl ?_
 refine op_storeA (i := 3) (vs := [_, _, _, _, _, _]) (cs' := [_, _, _, _, _, _]) (O' := [_, _, _, _]) hS Tryz.sizeOf28 rfl rfl rfl rfl rfl rfl rfl ?_
 clear hS; intro W6 hS
 refine endF (XF.thenN ?_)
 refine retF ?_
 refine XF.res (resC1 (vs := [_, _, _, _, _, _]) Tryz.results33 Tryz.isAgg28 Tryz.sizeOf28 rfl (CellsAt.own (j := 0) (m := 6) (hS.at_ 3 rfl) rfl)) ?_
 exact ⟨B4, B5, rfl, fun w2 hg => exP_in ((hg.2 _ (hS.ge 1 rfl) (lt_of_heap (hS.at_ 1 rfl))).trans (hS.at_ 1 rfl)) ((hg.2 _ (hS.ge 0 rfl) (lt_of_heap (hS.at_ 0 rfl))).trans (hS.at_ 0 rfl)), hS.below⟩
theorem ex_ready {w : World} {b1 b2 b3 : Nat} (S : PS) (hS : S = .one 2 9) : Ready w S (fun _ => .one (pC 1)) (exP b1 b2) ⟨0, some ⟨b3, 0, none⟩, 1, 1, [1]⟩ := by
 subst hS
 have hx : XIs w (.one 2 9) exW.f (.one (pC 1)) := PIs.of (by decide) (exW_in w).1 (by decide)
 refine ⟨?_, by show plainB 2 9 0 = true; decide, ⟨none, 0, rfl⟩, fun r hr => ?_, by show 1 ≤ 4096; decide, fun r hr => ?_⟩
 ·have e1 : spaceE (exP b1 b2).s = 0 := by show spaceE (.mk ⟨2, 9, none, 0, 0⟩ []) = 0; decide
  have e2 : (exP b1 b2).rs.all (ruleB 2 3) = true := by simp [exP, ruleB, inQ]
  have e3 : chkW (exP b1 b2).s exW = 0 := by show chkW (.mk ⟨2, 9, none, 0, 0⟩ []) exW = 0; decide
  have e4 : wtE (exP b1 b2).s (exP b1 b2).rs = 0 := wtE_all (by simp [exP]; exact decide_eq_true e3)
  have e5 : pdsE (exP b1 b2) = 0 := by
   unfold pdsE
   rw [if_neg (by rw [e1]; simp), if_neg (by simp [exP]), if_neg (by simp [exP]), if_pos (show (exP b1 b2).rs.all (ruleB (exP b1 b2).st (exP b1 b2).sy) = true from e2), e4]
  unfold stepE
  rw [if_neg (by rw [e5]; simp), if_pos (by simp [confB, exP, inQ])]
 ·rcases List.mem_cons.1 hr with rfl | hr
  ·show 2 ≤ 4096; decide
  ·rcases List.mem_cons.1 hr with rfl | hr
   ·show 0 ≤ 4096; decide
   ·cases hr
 ·rcases List.mem_cons.1 hr with rfl | hr
  ·exact hx
  ·rcases List.mem_cons.1 hr with rfl | hr
   ·exact hx
   ·cases hr
theorem ex_run {b1 b2 : Nat} : runF (.one 2 9) (fun _ => .one (pC 1)) (exP b1 b2).rs [0, 1] 0 (0, [1], oneX (.one 2 9)) = (some (1, [1], .one (pC 2)), 0, 0) := by rfl
theorem conf11 : confT 1 [1] = [49, 32, 49] := by
 have h : Lib.itoa 1 = [49] := by simp [Lib.itoa, Lib.decDigits]
 simp [confT, h]
theorem exRun {w : World} {b1 b2 b3 b4 : Nat} (hp : PvIn w 1 1 (exP b1 b2)) (h3 : Row w (some ⟨b3, 0, none⟩) [1]) (h4 : Row w (some ⟨b4, 0, none⟩) [0, 1]) (ht : Tabs w) : Calls Tryz.prog 15 #[(exP b1 b2).val, .agg #[.int .i64 0, .slice (some ⟨b3, 0, none⟩) 1 1], .slice (some ⟨b4, 0, none⟩) 2 2] w fun e w' => ∃ a c f, e = .returned (.tuple #[.agg #[.int .i64 1, .slice a 1 c], WF.val f, .int .i64 0, .int .i64 0]) ∧ RowN w.heap.size w' a c [1] ∧ f.c = 2 ∧ Below w.heap.size w w' := by
 have hr := ex_ready (w := w) (b1 := b1) (b2 := b2) (b3 := b3) _ rfl
 refine (runA_is (c := ⟨0, some ⟨b3, 0, none⟩, 1, 1, [1]⟩) (is := [0, 1]) hp ⟨h3, rfl⟩ (by show 1 ≤ 1; decide) h4 rfl (by decide) hr ht ex_run).mono ?_
 rintro e w' ⟨hb, a, c, f, rfl, hn, hx⟩
 exact ⟨a, c, f, rfl, hn, (pf_inj (hx.is).pf).2.1, hb⟩
end Go.Proofs.YtfkbkekgnoanaaaGreatDoor
