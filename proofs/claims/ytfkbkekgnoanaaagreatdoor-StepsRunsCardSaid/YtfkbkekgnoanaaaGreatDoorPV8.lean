import Derived.Test.YtfkbkekgnoanaaaGreatDoorBaseA
import Derived.Test.YtfkbkekgnoanaaaGreatDoorBaseB
import Derived.Test.YtfkbkekgnoanaaaGreatDoorBaseC
import Derived.Test.YtfkbkekgnoanaaaGreatDoorBaseD
set_option maxRecDepth 100000
set_option maxHeartbeats 4000000
set_option linter.unusedVariables false
set_option linter.unusedSimpArgs false
set_option linter.unusedSectionVars false
set_option linter.unnecessarySimpa false
namespace Go.Proofs.YtfkbkekgnoanaaaGreatDoor
open Go Go.RowKit
theorem runR_c (ds d : Nat) (S : PS) (px : RV → PX) (s : SV) (st sy : Int) (ra : Option Addr) (rl rc : Nat) (rs : List RV) (p : Int) (wa : Option Addr) (wl wc : Nat) (ws : List Int) (la : Option Addr) (ll lc : Nat) (is : List Int) (w : World) (hs : SIn w ds s) (hprow : RRow w ra rs) (hplen : rs.length = rl) (hin : ∀ r ∈ rs, RIn w d r) (hrow : Row w wa ws) (hlen : ws.length = wl) (hcap : wl ≤ wc) (hrla : Row w la is) (hll : is.length = ll) (hlm : ll ≤ 9223372036854775807) (hsi : SIs w S s.f) (hok : S.ok) (hchk : stepE ⟨s, st, sy, ra, rl, rc, rs⟩ ⟨p, wa, wl, wc, ws⟩ = 0) (h4 : ∀ r ∈ rs, r.wl ≤ 4096) (hw4 : wl ≤ 4096) (hx : ∀ r ∈ rs, XIs w S r.x.f (px r)) (ht : Tabs w) :
  Calls Tryz.prog 16 #[.agg #[.int .i64 s.f.tag, .int .i64 s.f.dim, .slice s.f.a s.f.len s.f.cap, .int .i64 st, .int .i64 sy, .slice ra rl rc], .agg #[.int .i64 p, .slice wa wl wc], .slice la ll lc] w (RunRet S (runF S px rs is 0 (p, ws, oneX S)) w) := by
 refine enterF (args := [.agg #[.int .i64 s.f.tag, .int .i64 s.f.dim, .slice s.f.a s.f.len s.f.cap, .int .i64 st, .int .i64 sy, .slice ra rl rc], .agg #[.int .i64 p, .slice wa wl wc], .slice la ll lc]) Tryz.func16 rfl Tryz.ntmps16 rfl ?_
 have hS := St.start w
 refine seqF (regF ?_)
 refine op_box (cs := [_, _, _, _, _, _]) hS rfl rfl rfl ?_
 clear hS; intro B1 W1 hS
 refine op_box (cs := [_, _]) hS rfl rfl rfl ?_
 clear hS; intro B2 W2 hS
 refine op_alloc (cs := [_, _]) hS Tryz.zeroValue31 rfl rfl ?_
 clear hS; intro B3 W3 hS
 refine op_alloc (cs := [_, _, _, _, _, _]) hS Tryz.zeroValue48 rfl rfl ?_
 clear hS; intro B4 W4 hS
 refine op_assign rfl rfl ?_
 refine op_assign rfl rfl ?_
 refine endF (XF.thenN ?_)
 refine seqF (regF ?_)
 refine op_loadA (vs := [_, _, _, _, _, _]) Tryz.isAgg28 Tryz.sizeOf28 rfl (CellsAt.own (j := 0) (m := 6) (hS.at_ 3 rfl) rfl) rfl ?_
 refine op_loadA (vs := [_, _]) Tryz.isAgg31 Tryz.sizeOf31 rfl (CellsAt.own (j := 0) (m := 2) (hS.at_ 2 rfl) rfl) rfl ?_
 refine op_call (vs := [_, _]) hS goes_13 rfl (stepR_is ds d ⟨s, st, sy, ra, rl, rc, rs⟩ ⟨p, wa, wl, wc, ws⟩ _ (PvIn.below ⟨hs, hprow, hplen, hin⟩ hS.below) (CIn.below ⟨hrow, hlen⟩ hS.below)) rfl ?_
 rintro e W5 ⟨rfl, hb⟩
 refine ⟨_, rfl, hb, fun hS' => ?_⟩
 clear hS; have hS := hS'; clear hS' hb
 refine op_assign rfl rfl ?_
 refine endF (XF.thenN ?_)
 refine seqF ?_
 refine seqF (regF ?_)
 refine op_move rfl rfl ?_
 refine op_neq rfl rfl rfl ?_
 refine endF (XF.thenN ?_)
 refine condF rfl (fun hc => absurd (of_decide_eq_true hc) (by exact fun h => h hchk)) (fun hc => ?_)
 have hc := of_decide_eq_false hc
 refine skipF ?_
 refine XF.thenN ?_
 refine seqF (regF ?_)
 refine op_field (o' := 0) fa_28_0 rfl rfl rfl ?_
 refine op_loadA (vs := [_, _, _]) Tryz.isAgg25 Tryz.sizeOf25 rfl (CellsAt.own (j := 0) (m := 3) (hS.at_ 3 rfl) rfl) rfl ?_
 have hsz4 := hS.below.size
 refine op_call (vs := [_]) hS goes_40 rfl (OneR_ok S s.f _ (hsi.below hS.below) hok) rfl ?_
 rintro e W6 ⟨f1, rfl, hn1, hb⟩
 refine ⟨_, rfl, hb, fun hS' => ?_⟩
 clear hS; have hS := hS'; clear hS'
 refine op_move rfl rfl ?_
 refine op_extract rfl rfl rfl ?_
 refine op_extract rfl rfl rfl ?_
 refine op_alloc (cs := [_, _, _, _, _, _]) hS Tryz.zeroValue48 rfl rfl ?_
 clear hS; intro B7 W7 hS
 refine op_storeA (i := 0) (vs := [_, _, _, _, _, _]) (cs' := [_, _, _, _, _, _]) (O' := [_, _, _, _, _]) hS Tryz.sizeOf48 rfl rfl rfl rfl rfl rfl rfl ?_
 clear hS; intro W8 hS
 refine op_assign rfl rfl ?_
 refine endF (XF.thenN ?_)
 refine seqF (regF ?_)
 refine op_field (o' := 0) fa_31_0 rfl rfl rfl ?_
 refine op_load Tryz.isAgg3 rfl (cell_own (hS.at_ 3 rfl) rfl) rfl ?_
 refine op_field (o' := 1) fa_31_1 rfl rfl rfl ?_
 refine op_load Tryz.isAgg29 rfl (cell_own (hS.at_ 3 rfl) rfl) rfl ?_
 have hsz5 := hS.below.size
 refine op_call (vs := [_, _, _]) hS goes_29 rfl (behind_c p _ _ _ _ _ _ ws [] _ (hrow.below hS.below) hlen (.inl rfl) rfl (by omega) (by omega)) rfl ?_
 rintro e W9 ⟨a0, c0, rfl, hn0, hb⟩
 refine ⟨_, rfl, hb, fun hS' => ?_⟩
 clear hS; have hS := hS'; clear hS'
 refine op_alloc (cs := [_, _]) hS Tryz.zeroValue31 rfl rfl ?_
 clear hS; intro B10 W10 hS
 refine op_storeA (i := 0) (vs := [_, _]) (cs' := [_, _]) (O' := [_, _, _, _, _, _]) hS Tryz.sizeOf31 rfl rfl rfl rfl rfl rfl rfl ?_
 clear hS; intro W11 hS
 refine endF (XF.thenN ?_)
 refine seqF ?_
 refine seqF (regF ?_)
 refine op_assign rfl rfl ?_
 refine endF (XF.thenN ?_)
 refine blockF ?_
 refine loopF (fun m l W => ∃ (k : Nat) (q : Int) (us : List Int) (x : PX) (f : WF) (a : Option Addr) (c : Nat) (Kk : List (Nat × World)), k ≤ ll ∧ m = ll - k ∧ l = [(2, .slice la ll lc), (3, .pointer (some ⟨B1, 0, none⟩)), (6, .pointer (some ⟨B3, 0, none⟩)), (7, .pointer (some ⟨B4, 0, none⟩)), (11, .pointer (some ⟨B7, 0, none⟩)), (13, .pointer (some ⟨B10, 0, none⟩)), (14, .int .i64 (k : Int))] ∧ runF S px rs (is.drop k) k (q, us, x) = runF S px rs is 0 (p, ws, oneX S) ∧ us.length ≤ 4096 ∧ Held w Kk (fun W2 => XNew w.heap.size W2 S f x ∧ RowN w.heap.size W2 a c us) ∧ St w [(B10, [.int .i64 q, .slice a us.length c], 31), (B7, f.six, 48), (B4, [.bool false, .int .i64 0, .int .u64 0, .slice none 0 0, .slice none 0 0, .slice none 0 0], 48), (B3, [.int .i64 0, .slice none 0 0], 31), (B2, [.int .i64 p, .slice wa wl wc], 31), (B1, [.int .i64 s.f.tag, .int .i64 s.f.dim, .slice s.f.a s.f.len s.f.cap, .int .i64 st, .int .i64 sy, .slice ra rl rc], 28)] [] Kk W) (ll - 0) ([(2, _), (3, _), (6, _), (7, _), (11, _), (13, _), (14, _)]) ⟨rfl, rfl, rfl, rfl, rfl, rfl, rfl, trivial⟩ (⟨0, p, ws ++ [], oneX S, f1, a0, c0, [(_, _), (_, _)], Nat.zero_le _, rfl, rfl, by rw [List.append_nil]; rfl, by simp; omega, fun h2 hk => ⟨(hn1.agree (h2.kept (_, _) (hk _ (List.mem_cons_of_mem _ List.mem_cons_self))).1).mono hsz4, (hn0.agree (h2.kept (_, _) (hk _ List.mem_cons_self)).1).mono hsz5⟩, hS.keep [_, _] (fun q hq => by simp at hq; rcases hq with rfl | rfl <;> simp)⟩) ?_
 clear hS
 rintro m l W ⟨k, q, us, x, f, a, c, Kk, hk, rfl, rfl, hrun, hus, hX, hS⟩
 refine seqF ?_
 refine seqF (regF ?_)
 refine op_move rfl rfl ?_
 refine op_move rfl rfl ?_
 refine op_len Tryz.underlying29 rfl rfl ?_
 refine op_lss rfl rfl rfl ?_
 refine endF (XF.thenN ?_)
 refine condF rfl (fun hc => ?_) (fun hc => ?_)
 ·have hc38 := of_decide_eq_true hc; clear hc
  have hk1 : k < ll := by omega
  obtain ⟨b0, off0, y, rfl, hy, hyc⟩ := hrla.at1 (show k < is.length by omega)
  have k1 := hS.old hyc
  rw [drop_at9 hy] at hrun
  refine skipF ?_
  refine XF.thenN ?_
  refine seqF ?_
  refine blockF ?_
  refine seqF ?_
  refine seqF ?_
  by_cases hy0 : y < 0
  ·skip
   refine regB (m := 15) followsM hS (by kernel_rfl) (by kernel_rfl) rfl ?_
   refine bl_cons 1 rfl (isV _) (stab_isV _) (rgV (li := [(2, _)]) rfl (w_free rfl) ⟨g_fr (by kernel_rfl) rfl, trivial⟩ (fun w hw => rn_move rfl) (at_top rfl)) ?_
   refine bl_cons 2 rfl (isV _) (stab_isV _) (rgV (li := [(14, _)]) rfl (w_free rfl) ⟨g_fr (by kernel_rfl) rfl, trivial⟩ (fun w hw => rn_move rfl) (at_top rfl)) ?_
   refine bl_cons 3 rfl (isV _) (stab_isV _) (rgV (li := [(41, _), (42, _)]) rfl (w_free rfl) ⟨g_dep 0 (by kernel_rfl) (at_dep rfl rfl rfl), g_dep 1 (by kernel_rfl) (at_dep rfl rfl rfl), trivial⟩ (fun w hw => rn_indexA  Tryz.underlying29 Tryz.sizeOf3 rfl rfl rfl (by omega) rfl) (at_top rfl)) ?_
   refine bl_cons 4 rfl (isV _) (stab_isV _) (rgV (li := [(43, _)]) rfl (w_free rfl) ⟨g_dep 2 (by kernel_rfl) (at_dep rfl rfl rfl), trivial⟩ (fun w hw => rn_load Tryz.isAgg3 rfl ((below_agree hw 0).cell (Nat.zero_le _) (by assumption))) (at_top rfl)) ?_
   refine bl_cons 5 rfl (isV (.bool true)) (stab_isV _) (rgVe (li := [(44, _)]) rfl (w_free rfl) ⟨g_dep 3 (by kernel_rfl) (at_dep rfl rfl rfl), trivial⟩ (fun w hw => rn_lss rfl rfl) (by rw [decide_eq_true hy0]) (at_top rfl)) ?_
   refine bl_cons 6 rfl (isV _) (stab_isV _) (rgV (li := [(45, _)]) rfl (w_free rfl) ⟨g_dep 4 (by kernel_rfl) (at_dep rfl rfl rfl), trivial⟩ (fun w hw => rn_move rfl) (at_top rfl)) ?_
   refine bl_cons 7 rfl (isV undef) (stab_isV _) (rg_no rfl (w_no 46 rfl (by kernel_rfl) (by kernel_rfl) (at_dep rfl rfl rfl) rfl) (at_top rfl)) ?_
   refine bl_cons 8 rfl (isV undef) (stab_isV _) (rg_no rfl (w_no 46 rfl (by kernel_rfl) (by kernel_rfl) (at_dep rfl rfl rfl) rfl) (at_top rfl)) ?_
   refine bl_cons 9 rfl (isV undef) (stab_isV _) (rg_no rfl (w_no 46 rfl (by kernel_rfl) (by kernel_rfl) (at_dep rfl rfl rfl) rfl) (at_top rfl)) ?_
   refine bl_cons 10 rfl (isV undef) (stab_isV _) (rg_no rfl (w_no 46 rfl (by kernel_rfl) (by kernel_rfl) (at_dep rfl rfl rfl) rfl) (at_top rfl)) ?_
   refine bl_cons 11 rfl (isV undef) (stab_isV _) (rg_no rfl (w_no 46 rfl (by kernel_rfl) (by kernel_rfl) (at_dep rfl rfl rfl) rfl) (at_top rfl)) ?_
   refine bl_cons 12 rfl (isV undef) (stab_isV _) (rg_no rfl (w_no 46 rfl (by kernel_rfl) (by kernel_rfl) (at_dep rfl rfl rfl) rfl) (at_top rfl)) ?_
   refine bl_cons 13 rfl (isV undef) (stab_isV _) (rg_no rfl (w_no 46 rfl (by kernel_rfl) (by kernel_rfl) (at_dep rfl rfl rfl) rfl) (at_top rfl)) ?_
   refine bl_cons 14 rfl (isV undef) (stab_isV _) (rg_no rfl (w_no 46 rfl (by kernel_rfl) (by kernel_rfl) (at_dep rfl rfl rfl) rfl) (at_top rfl)) ?_
   refine bl_cons 15 rfl (isV _) (stab_isV _) (rgV (li := [(46, _)]) rfl (w_free rfl) ⟨g_dep 5 (by kernel_rfl) (at_dep rfl rfl rfl), trivial⟩ (fun w hw => rn_pickT rfl rfl) (at_top rfl)) ?_
   refine bl_nil ?_
   intro W12 hbR hS'
   clear hS; have hS := hS'; clear hS'
   refine fin_v ?_
   refine fin_v ?_
   refine fin_v ?_
   refine fin_v ?_
   refine fin_v ?_
   refine fin_v ?_
   refine fin_v ?_
   refine fin_v ?_
   refine fin_v ?_
   refine fin_v ?_
   refine fin_v ?_
   refine fin_v ?_
   refine fin_v ?_
   refine fin_v ?_
   refine fin_v ?_
   refine fin_nil ?_
   refine XF.thenN ?_
   refine condT rfl ?_
   refine seqF (regF ?_)
   refine op_build (us := []) rfl (bld_31) rfl ?_
   refine op_build (us := []) rfl (bld_48) rfl ?_
   refine op_move rfl rfl ?_
   refine op_storeA (i := 3) (vs := [_, _]) (cs' := [_, _]) (O' := [_, _, _, _, _, _]) hS Tryz.sizeOf31 rfl rfl rfl rfl rfl rfl rfl ?_
   clear hS; intro W13 hS
   refine op_storeA (i := 2) (vs := [_, _, _, _, _, _]) (cs' := [_, _, _, _, _, _]) (O' := [_, _, _, _, _, _]) hS Tryz.sizeOf48 rfl rfl rfl rfl rfl rfl rfl ?_
   clear hS; intro W14 hS
   refine op_assign rfl rfl ?_
   refine op_assign rfl rfl ?_
   refine endF (XF.thenN ?_)
   refine retF ?_
   refine XF.thenR ?_
   refine XF.blkR ?_
   refine XF.thenR ?_
   refine XF.thenR ?_
   refine XF.blkR ?_
   refine XF.thenR ?_
   refine XF.res (resCCTT (vs := [_, _]) (us := [_, _, _, _, _, _]) Tryz.results16 Tryz.isAgg31 Tryz.sizeOf31 rfl (CellsAt.own (j := 0) (m := 2) (hS.at_ 3 rfl) rfl) Tryz.isAgg48 Tryz.sizeOf48 rfl (CellsAt.own (j := 0) (m := 6) (hS.at_ 2 rfl) rfl) rfl rfl) ?_
   rw [← hrun, runF_err (runStep_neg hy0)]
   exact runRet_none hS.below
  ·skip
   refine regB (m := 15) followsM hS (by kernel_rfl) (by kernel_rfl) rfl ?_
   refine bl_cons 1 rfl (isV _) (stab_isV _) (rgV (li := [(2, _)]) rfl (w_free rfl) ⟨g_fr (by kernel_rfl) rfl, trivial⟩ (fun w hw => rn_move rfl) (at_top rfl)) ?_
   refine bl_cons 2 rfl (isV _) (stab_isV _) (rgV (li := [(14, _)]) rfl (w_free rfl) ⟨g_fr (by kernel_rfl) rfl, trivial⟩ (fun w hw => rn_move rfl) (at_top rfl)) ?_
   refine bl_cons 3 rfl (isV _) (stab_isV _) (rgV (li := [(41, _), (42, _)]) rfl (w_free rfl) ⟨g_dep 0 (by kernel_rfl) (at_dep rfl rfl rfl), g_dep 1 (by kernel_rfl) (at_dep rfl rfl rfl), trivial⟩ (fun w hw => rn_indexA  Tryz.underlying29 Tryz.sizeOf3 rfl rfl rfl (by omega) rfl) (at_top rfl)) ?_
   refine bl_cons 4 rfl (isV _) (stab_isV _) (rgV (li := [(43, _)]) rfl (w_free rfl) ⟨g_dep 2 (by kernel_rfl) (at_dep rfl rfl rfl), trivial⟩ (fun w hw => rn_load Tryz.isAgg3 rfl ((below_agree hw 0).cell (Nat.zero_le _) (by assumption))) (at_top rfl)) ?_
   refine bl_cons 5 rfl (isV (.bool false)) (stab_isV _) (rgVe (li := [(44, _)]) rfl (w_free rfl) ⟨g_dep 3 (by kernel_rfl) (at_dep rfl rfl rfl), trivial⟩ (fun w hw => rn_lss rfl rfl) (by rw [decide_eq_false hy0]) (at_top rfl)) ?_
   refine bl_cons 6 rfl (isV _) (stab_isV _) (rgV (li := [(45, _)]) rfl (w_free rfl) ⟨g_dep 4 (by kernel_rfl) (at_dep rfl rfl rfl), trivial⟩ (fun w hw => rn_move rfl) (at_top rfl)) ?_
   refine bl_cons 7 rfl (isV _) (stab_isV _) (rgV (li := [(2, _)]) rfl (w_yes 46 rfl (by kernel_rfl) (by kernel_rfl) (at_dep rfl rfl rfl)) ⟨g_fr (by kernel_rfl) rfl, trivial⟩ (fun w hw => rn_move rfl) (at_top rfl)) ?_
   refine bl_cons 8 rfl (isV _) (stab_isV _) (rgV (li := [(14, _)]) rfl (w_yes 46 rfl (by kernel_rfl) (by kernel_rfl) (at_dep rfl rfl rfl)) ⟨g_fr (by kernel_rfl) rfl, trivial⟩ (fun w hw => rn_move rfl) (at_top rfl)) ?_
   refine bl_cons 9 rfl (isV _) (stab_isV _) (rgV (li := [(47, _), (48, _)]) rfl (w_yes 46 rfl (by kernel_rfl) (by kernel_rfl) (at_dep rfl rfl rfl)) ⟨g_dep 6 (by kernel_rfl) (at_dep rfl rfl rfl), g_dep 7 (by kernel_rfl) (at_dep rfl rfl rfl), trivial⟩ (fun w hw => rn_indexA  Tryz.underlying29 Tryz.sizeOf3 rfl rfl rfl (by omega) rfl) (at_top rfl)) ?_
   refine bl_cons 10 rfl (isV _) (stab_isV _) (rgV (li := [(49, _)]) rfl (w_yes 46 rfl (by kernel_rfl) (by kernel_rfl) (at_dep rfl rfl rfl)) ⟨g_dep 8 (by kernel_rfl) (at_dep rfl rfl rfl), trivial⟩ (fun w hw => rn_load Tryz.isAgg3 rfl ((below_agree hw 0).cell (Nat.zero_le _) (by assumption))) (at_top rfl)) ?_
   refine bl_cons 11 rfl (isV _) (stab_isV _) (rgV (li := [(3, _)]) rfl (w_yes 46 rfl (by kernel_rfl) (by kernel_rfl) (at_dep rfl rfl rfl)) ⟨g_fr (by kernel_rfl) rfl, trivial⟩ (fun w hw => rn_field (o' := 5) fa_28_3 rfl rfl) (at_top rfl)) ?_
   refine bl_cons 12 rfl (isV _) (stab_isV _) (rgV (li := [(51, _)]) rfl (w_yes 46 rfl (by kernel_rfl) (by kernel_rfl) (at_dep rfl rfl rfl)) ⟨g_dep 10 (by kernel_rfl) (at_dep rfl rfl rfl), trivial⟩ (fun w hw => rn_load Tryz.isAgg26 rfl ((below_agree hw 0).cell (Nat.zero_le _) (cell_own (hS.at_ 5 rfl) rfl))) (at_top rfl)) ?_
   refine bl_cons 13 rfl (isV _) (stab_isV _) (rgV (li := [(52, _)]) rfl (w_yes 46 rfl (by kernel_rfl) (by kernel_rfl) (at_dep rfl rfl rfl)) ⟨g_dep 11 (by kernel_rfl) (at_dep rfl rfl rfl), trivial⟩ (fun w hw => rn_len Tryz.underlying26 rfl) (at_top rfl)) ?_
   refine bl_cons 14 rfl (isV _) (stab_isV _) (rgV (li := [(50, _), (53, _)]) rfl (w_yes 46 rfl (by kernel_rfl) (by kernel_rfl) (at_dep rfl rfl rfl)) ⟨g_dep 9 (by kernel_rfl) (at_dep rfl rfl rfl), g_dep 12 (by kernel_rfl) (at_dep rfl rfl rfl), trivial⟩ (fun w hw => rn_geq rfl rfl) (at_top rfl)) ?_
   refine bl_cons 15 rfl (isV _) (stab_isV _) (rgV (li := [(46, _), (54, _)]) rfl (w_free rfl) ⟨g_dep 5 (by kernel_rfl) (at_dep rfl rfl rfl), g_dep 13 (by kernel_rfl) (at_dep rfl rfl rfl), trivial⟩ (fun w hw => rn_pickF rfl rfl) (at_top rfl)) ?_
   refine bl_nil ?_
   intro W15 hbR hS'
   clear hS; have hS := hS'; clear hS'
   refine fin_v ?_
   refine fin_v ?_
   refine fin_v ?_
   refine fin_v ?_
   refine fin_v ?_
   refine fin_v ?_
   refine fin_v ?_
   refine fin_v ?_
   refine fin_v ?_
   refine fin_v ?_
   refine fin_v ?_
   refine fin_v ?_
   refine fin_v ?_
   refine fin_v ?_
   refine fin_v ?_
   refine fin_nil ?_
   refine XF.thenN ?_
   refine condF rfl (fun hc => ?_) (fun hc => ?_)
   ·have hc55 := hc; clear hc
    refine seqF (regF ?_)
    refine op_build (us := []) rfl (bld_31) rfl ?_
    refine op_build (us := []) rfl (bld_48) rfl ?_
    refine op_move rfl rfl ?_
    refine op_storeA (i := 3) (vs := [_, _]) (cs' := [_, _]) (O' := [_, _, _, _, _, _]) hS Tryz.sizeOf31 rfl rfl rfl rfl rfl rfl rfl ?_
    clear hS; intro W16 hS
    refine op_storeA (i := 2) (vs := [_, _, _, _, _, _]) (cs' := [_, _, _, _, _, _]) (O' := [_, _, _, _, _, _]) hS Tryz.sizeOf48 rfl rfl rfl rfl rfl rfl rfl ?_
    clear hS; intro W17 hS
    refine op_assign rfl rfl ?_
    refine op_assign rfl rfl ?_
    refine endF (XF.thenN ?_)
    refine retF ?_
    refine XF.thenR ?_
    refine XF.blkR ?_
    refine XF.thenR ?_
    refine XF.thenR ?_
    refine XF.blkR ?_
    refine XF.thenR ?_
    refine XF.res (resCCTT (vs := [_, _]) (us := [_, _, _, _, _, _]) Tryz.results16 Tryz.isAgg31 Tryz.sizeOf31 rfl (CellsAt.own (j := 0) (m := 2) (hS.at_ 3 rfl) rfl) Tryz.isAgg48 Tryz.sizeOf48 rfl (CellsAt.own (j := 0) (m := 6) (hS.at_ 2 rfl) rfl) rfl rfl) ?_
    rw [← hrun, runF_err (runStep_big (by have := of_decide_eq_true hc55; omega))]
    exact runRet_none hS.below
   ·have hc55 := hc; clear hc
    have hyl := of_decide_eq_false hc55
    obtain ⟨yn, rfl⟩ := Int.eq_ofNat_of_zero_le (show 0 ≤ y by omega)
    have hyn : yn < rl := by omega
    obtain ⟨r, hr⟩ : ∃ r, rs[yn]? = some r := ⟨rs[yn]'(by omega), by simp [show yn < rs.length by omega]⟩
    obtain ⟨b2, off2, rfl, hcs⟩ := hprow.at_ hr
    have hri := hin r (List.mem_of_getElem? hr)
    have hrx := hx r (List.mem_of_getElem? hr)
    have hr4 := h4 r (List.mem_of_getElem? hr)
    have hst := runStep_at (S := S) (px := px) (st := (q, us, x)) hr
    obtain ⟨rp, rg, rq, rwa, rwl, rwc, rws, rx⟩ := r
    dsimp only at hst hr4 hrx
    dsimp only [RV.ten] at hcs
    have hrw : Row w rwa rws := hri.row
    have hrwl : rws.length = rwl := hri.len
    have k2 := CellsAt.agree hS.agree (Nat.zero_le _) hcs
    have k3 := hS.old hyc
    refine skipF ?_
    refine XF.thenN ?_
    refine seqF ?_
    refine regBA (cs := [_, _, _, _, _, _, _, _, _, _]) followsM 9 8 hS rfl rfl rfl rfl Tryz.zeroValue66 rfl (by kernel_rfl) (by kernel_rfl) (by kernel_rfl) (fun d hd => by cases hd) ?_
    refine bla_cons 1 rfl rfl (isV _) (stab_isV _) (agV (li := [(3, _)]) rfl (w_free rfl) ⟨g_fr (by kernel_rfl) rfl, trivial⟩ (fun w hw => rn_field (o' := 5) fa_28_3 rfl rfl) (at_top rfl)) ?_
    refine bla_cons 2 rfl rfl (isV _) (stab_isV _) (agV (li := [(59, _)]) rfl (w_free rfl) ⟨g_dep 0 (by kernel_rfl) (at_dep rfl rfl rfl), trivial⟩ (fun w hw => rn_load Tryz.isAgg26 rfl ((below_agree hw 0).cell (Nat.zero_le _) (cell_own (hS.at_ 5 rfl) rfl))) (at_top rfl)) ?_
    refine bla_cons 3 rfl rfl (isV _) (stab_isV _) (agV (li := [(2, _)]) rfl (w_free rfl) ⟨g_fr (by kernel_rfl) rfl, trivial⟩ (fun w hw => rn_move rfl) (at_top rfl)) ?_
    refine bla_cons 4 rfl rfl (isV _) (stab_isV _) (agV (li := [(14, _)]) rfl (w_free rfl) ⟨g_fr (by kernel_rfl) rfl, trivial⟩ (fun w hw => rn_move rfl) (at_top rfl)) ?_
    refine bla_cons 5 rfl rfl (isV _) (stab_isV _) (agV (li := [(61, _), (62, _)]) rfl (w_free rfl) ⟨g_dep 2 (by kernel_rfl) (at_dep rfl rfl rfl), g_dep 3 (by kernel_rfl) (at_dep rfl rfl rfl), trivial⟩ (fun w hw => rn_indexA  Tryz.underlying29 Tryz.sizeOf3 rfl rfl rfl (by omega) rfl) (at_top rfl)) ?_
    refine bla_cons 6 rfl rfl (isV _) (stab_isV _) (agV (li := [(63, _)]) rfl (w_free rfl) ⟨g_dep 4 (by kernel_rfl) (at_dep rfl rfl rfl), trivial⟩ (fun w hw => rn_load Tryz.isAgg3 rfl ((below_agree hw 0).cell (Nat.zero_le _) (by assumption))) (at_top rfl)) ?_
    refine bla_cons 7 rfl rfl (isV _) (stab_isV _) (agV (li := [(60, _), (64, _)]) rfl (w_free rfl) ⟨g_dep 1 (by kernel_rfl) (at_dep rfl rfl rfl), g_dep 5 (by kernel_rfl) (at_dep rfl rfl rfl), trivial⟩ (fun w hw => rn_indexA  Tryz.underlying26 Tryz.sizeOf66 rfl rfl rfl (by omega) rfl) (at_top rfl)) ?_
    refine bla_cons 8 rfl rfl (isV _) (stab_isV _) (agV (li := [(65, _)]) rfl (w_free rfl) ⟨g_dep 6 (by kernel_rfl) (at_dep rfl rfl rfl), trivial⟩ (fun w hw => rn_loadA (vs := [_, _, _, _, _, _, _, _, _, _]) Tryz.isAgg66 Tryz.sizeOf66 rfl (CellsAt.agree (below_agree hw 0) (Nat.zero_le _) (by assumption))) (at_top rfl)) ?_
    refine bla_alloc 9 rfl rfl ?_
    refine bla_nil ?_
    intro B18 AB18 W18 hbR hA1 hA2 hBlo hBhi hS'
    clear hS; have hS := hS'; clear hS'
    refine fin_av ?_
    refine fin_av ?_
    refine fin_av ?_
    refine fin_av ?_
    refine fin_av ?_
    refine fin_av ?_
    refine fin_av ?_
    refine fin_av ?_
    refine fin_v ?_
    refine fin_nil ?_
    refine op_storeA (i := 0) (vs := [_, _, _, _, _, _, _, _, _, _]) (cs' := [_, _, _, _, _, _, _, _, _, _]) (O' := [_, _, _, _, _, _, _]) hS Tryz.sizeOf66 rfl rfl rfl rfl rfl rfl rfl ?_
    clear hS; intro W19 hS
    refine endF (XF.thenN ?_)
    refine seqF ?_
    refine seqF (regF ?_)
    refine op_loadA (vs := [_, _, _, _, _, _, _, _, _, _]) Tryz.isAgg66 Tryz.sizeOf66 rfl (CellsAt.own (j := 0) (m := 10) (hS.at_ 0 rfl) rfl) rfl ?_
    refine op_loadA (vs := [_, _]) Tryz.isAgg31 Tryz.sizeOf31 rfl (CellsAt.own (j := 0) (m := 2) (hS.at_ 1 rfl) rfl) rfl ?_
    obtain ⟨_, hRn⟩ := hX hS (fun q hq => by simp [hq])
    refine op_call (vs := [_, _]) hS goes_23 rfl (applies_c ⟨rp, rg, rq, rwa, rwl, rwc, rws, rx⟩ q a _ c us _ hRn.row rfl) rfl ?_
    rintro e W20 ⟨rfl, hb⟩
    refine ⟨_, rfl, hb, fun hS' => ?_⟩
    clear hS; have hS := hS'; clear hS' hb
    refine op_not rfl rfl ?_
    refine endF (XF.thenN ?_)
    refine condF rfl (fun hc => ?_) (fun hc => ?_)
    ·have hc70 := hc; clear hc
     have hE : runStep S px rs (yn : Int) (q, us, x) = .error 121 := by rw [hst, if_pos (by simpa using hc70)]
     refine seqF (regF ?_)
     refine op_build (us := []) rfl (bld_31) rfl ?_
     refine op_build (us := []) rfl (bld_48) rfl ?_
     refine op_move rfl rfl ?_
     refine op_storeA (i := 4) (vs := [_, _]) (cs' := [_, _]) (O' := [_, _, _, _, _, _, _]) hS Tryz.sizeOf31 rfl rfl rfl rfl rfl rfl rfl ?_
     clear hS; intro W21 hS
     refine op_storeA (i := 3) (vs := [_, _, _, _, _, _]) (cs' := [_, _, _, _, _, _]) (O' := [_, _, _, _, _, _, _]) hS Tryz.sizeOf48 rfl rfl rfl rfl rfl rfl rfl ?_
     clear hS; intro W22 hS
     refine op_assign rfl rfl ?_
     refine op_assign rfl rfl ?_
     refine endF (XF.thenN ?_)
     refine retF ?_
     refine XF.thenR ?_
     refine XF.blkR ?_
     refine XF.thenR ?_
     refine XF.thenR ?_
     refine XF.blkR ?_
     refine XF.thenR ?_
     refine XF.res (resCCTT (vs := [_, _]) (us := [_, _, _, _, _, _]) Tryz.results16 Tryz.isAgg31 Tryz.sizeOf31 rfl (CellsAt.own (j := 0) (m := 2) (hS.at_ 4 rfl) rfl) Tryz.isAgg48 Tryz.sizeOf48 rfl (CellsAt.own (j := 0) (m := 6) (hS.at_ 3 rfl) rfl) rfl rfl) ?_
     rw [← hrun, runF_err hE]
     exact runRet_none hS.below
    ·have hc70 := hc; clear hc
     have happ : appB ⟨rp, rg, rq, rwa, rwl, rwc, rws, rx⟩ q us = true := by simpa using hc70
     obtain ⟨y2, t, rfl⟩ : ∃ y2 t, us = y2 :: t := by
      cases us with
      | nil => simp [appB] at happ
      | cons y2 t => exact ⟨y2, t, rfl⟩
     have hlt : (y2 :: t).length = t.length + 1 := rfl
     refine skipF ?_
     refine XF.thenN ?_
     refine seqF (regF ?_)
     refine op_loadA (vs := [_, _, _, _, _, _, _, _, _, _]) Tryz.isAgg66 Tryz.sizeOf66 rfl (CellsAt.own (j := 0) (m := 10) (hS.at_ 0 rfl) rfl) rfl ?_
     refine op_loadA (vs := [_, _]) Tryz.isAgg31 Tryz.sizeOf31 rfl (CellsAt.own (j := 0) (m := 2) (hS.at_ 1 rfl) rfl) rfl ?_
     obtain ⟨_, hRn2⟩ := hX hS (fun q hq => by simp [hq])
     have hsz14 := hS.below.size
     refine op_call (vs := [_, _]) hS goes_24 rfl (by_c ⟨rp, rg, rq, rwa, rwl, rwc, rws, rx⟩ q y2 a _ c t _ (hrw.below hS.below) hrwl hRn2.row rfl hRn2.cap (by show rwl ≤ 8192; omega) (by omega)) rfl ?_
     rintro e W23 ⟨a2, c2, rfl, hn2, hb⟩
     refine ⟨_, rfl, hb, fun hS' => ?_⟩
     clear hS; have hS := hS'; clear hS'
     refine op_storeA (i := 1) (vs := [_, _]) (cs' := [_, _]) (O' := [_, _, _, _, _, _, _]) hS Tryz.sizeOf31 rfl rfl rfl rfl rfl rfl rfl ?_
     clear hS; intro W24 hS
     refine endF (XF.thenN ?_)
     refine seqF ?_
     refine seqF ?_
     have hl2 : (rws ++ t).length = rwl + t.length := by rw [List.length_append, hrwl]
     refine regF ?_
     refine op_loadA (vs := [_, _]) Tryz.isAgg31 Tryz.sizeOf31 rfl (CellsAt.own (j := 0) (m := 2) (hS.at_ 1 rfl) rfl) rfl ?_
     refine op_call (vs := [_]) hS goes_25 rfl (long_is ⟨rq, a2, (rws ++ t).length, c2, rws ++ t⟩ _) rfl ?_
     rintro e W25 ⟨rfl, hb⟩
     refine ⟨_, rfl, hb, fun hS' => ?_⟩
     clear hS; have hS := hS'; clear hS' hb
     refine endF (XF.thenN ?_)
     refine condF rfl (fun hc => ?_) (fun hc => ?_)
     ·have hc78 := hc; clear hc
      have hlo2 : 4096 < (rws ++ t).length := of_decide_eq_true hc78
      have hE : runStep S px rs (yn : Int) (q, y2 :: t, x) = .error 2 := by rw [hst, if_neg (by rw [happ]; simp), if_pos (by omega)]
      refine seqF (regF ?_)
      refine op_build (us := []) rfl (bld_31) rfl ?_
      refine op_build (us := []) rfl (bld_48) rfl ?_
      refine op_move rfl rfl ?_
      refine op_storeA (i := 4) (vs := [_, _]) (cs' := [_, _]) (O' := [_, _, _, _, _, _, _]) hS Tryz.sizeOf31 rfl rfl rfl rfl rfl rfl rfl ?_
      clear hS; intro W26 hS
      refine op_storeA (i := 3) (vs := [_, _, _, _, _, _]) (cs' := [_, _, _, _, _, _]) (O' := [_, _, _, _, _, _, _]) hS Tryz.sizeOf48 rfl rfl rfl rfl rfl rfl rfl ?_
      clear hS; intro W27 hS
      refine op_assign rfl rfl ?_
      refine op_assign rfl rfl ?_
      refine endF (XF.thenN ?_)
      refine retF ?_
      refine XF.thenR ?_
      refine XF.blkR ?_
      refine XF.thenR ?_
      refine XF.thenR ?_
      refine XF.blkR ?_
      refine XF.thenR ?_
      refine XF.res (resCCTT (vs := [_, _]) (us := [_, _, _, _, _, _]) Tryz.results16 Tryz.isAgg31 Tryz.sizeOf31 rfl (CellsAt.own (j := 0) (m := 2) (hS.at_ 4 rfl) rfl) Tryz.isAgg48 Tryz.sizeOf48 rfl (CellsAt.own (j := 0) (m := 6) (hS.at_ 3 rfl) rfl) rfl rfl) ?_
      rw [← hrun, runF_err hE]
      exact runRet_none hS.below
     ·have hc78 := hc; clear hc
      have hlo2 : ¬ 4096 < (rws ++ t).length := of_decide_eq_false hc78
      have hO : runStep S px rs (yn : Int) (q, y2 :: t, x) = .ok (rq, rws ++ t, extX S x (px ⟨rp, rg, rq, rwa, rwl, rwc, rws, rx⟩)) := by rw [hst, if_neg (by rw [happ]; simp), if_neg (by omega)]; rfl
      refine skipF ?_
      refine XF.thenN ?_
      refine regF ?_
      refine op_field (o' := 0) fa_28_0 rfl rfl rfl ?_
      refine op_loadA (vs := [_, _, _]) Tryz.isAgg25 Tryz.sizeOf25 rfl (CellsAt.own (j := 0) (m := 3) (hS.at_ 6 rfl) rfl) rfl ?_
      refine op_loadA (vs := [_, _, _, _, _, _]) Tryz.isAgg48 Tryz.sizeOf48 rfl (CellsAt.own (j := 0) (m := 6) (hS.at_ 2 rfl) rfl) rfl ?_
      refine op_field (o' := 4) fa_66_4 rfl rfl rfl ?_
      refine op_loadA (vs := [_, _, _, _, _, _]) Tryz.isAgg48 Tryz.sizeOf48 rfl (CellsAt.own (j := 4) (m := 6) (hS.at_ 0 rfl) rfl) rfl ?_
      obtain ⟨hXn, _⟩ := hX hS (fun q hq => by simp [hq])
      have hsz17 := hS.below.size
      refine op_call (vs := [_, _, _]) hS goes_41 rfl (thenR_ok (hsi.below hS.below) hok hXn.is (hrx.below hS.below)) rfl ?_
      rintro e W28 ⟨f2, rfl, hn3, hb⟩
      refine ⟨_, rfl, hb, fun hS' => ?_⟩
      clear hS; have hS := hS'; clear hS'
      refine op_storeA (i := 2) (vs := [_, _, _, _, _, _]) (cs' := [_, _, _, _, _, _]) (O' := [_, _, _, _, _, _, _]) hS Tryz.sizeOf48 rfl rfl rfl rfl rfl rfl rfl ?_
      clear hS; intro W29 hS
      refine endF ?_
      refine XF.blkN ?_
      refine XF.thenN ?_
      refine regF ?_
      refine op_move rfl rfl ?_
      refine op_add rfl rfl (IntWalk.i64_in _ (by omega)) rfl ?_
      refine op_assign rfl rfl ?_
      refine endF ?_
      exact XF.round (ll - (k + 1)) [(2, _), (3, _), (6, _), (7, _), (11, _), (13, _), (14, _)] (by omega) ⟨rfl, rfl, rfl, rfl, rfl, rfl, rfl, trivial⟩ ⟨k + 1, rq, rws ++ t, extX S x (px ⟨rp, rg, rq, rwa, rwl, rwc, rws, rx⟩), f2, a2, c2, [(_, _), (_, _)], by omega, rfl, rfl, by rw [← hrun, runF_ok hO], by omega, fun h2 hk => ⟨(hn3.agree (h2.kept (_, _) (hk _ List.mem_cons_self)).1).mono hsz17, (hn2.agree (h2.kept (_, _) (hk _ (List.mem_cons_of_mem _ List.mem_cons_self))).1).mono hsz14⟩, hS.tail.keep [_, _] (fun q hq => by simp at hq; rcases hq with rfl | rfl <;> simp)⟩
 ·have hc38 := of_decide_eq_false hc; clear hc
  rw [List.drop_of_length_le (by omega)] at hrun
  refine exitF ?_
  refine XF.thenX ?_
  refine XF.thenX ?_
  refine XF.blkX ?_
  refine XF.thenN ?_
  refine seqF ?_
  refine regS (ef := 2) (jy := 6) (ca := caNo (fun _ => [])) (ta := fun _ => 0) (Os := osSt _ 3 0 B3 ([.int .i64 0, .slice none 0 0]) ([.int .i64 q, .slice a us.length c]) 31) (Gs := gsNo _) (al := []) (k := 3) (ds := [8, 9]) followsM rfl hS rfl (by kernel_rfl) (by kernel_rfl) rfl (by decide) rfl (some) (.inl ⟨rfl, rfl⟩) rfl rfl ?_
  refine bls_cons 1 rfl rfl (isV _) (fun hNo => sgV [(13, _)] rfl rfl rfl rfl hNo (w_free rfl) ⟨g_fr (by kernel_rfl) rfl, trivial⟩ (fun ev w he hw => rn_loadA (vs := [_, _]) Tryz.isAgg31 Tryz.sizeOf31 rfl ((CellsAt.own (j := 0) (m := 2) (hw.at_ 0 (osSt_at (i := 0) (j := 3) rfl rfl)) rfl))) (at_top rfl)) ?_
  refine bls_cons 2 rfl rfl (isV _) (fun hNo => sgV [(11, _)] rfl rfl rfl rfl hNo (w_free rfl) ⟨g_fr (by kernel_rfl) rfl, trivial⟩ (fun ev w he hw => rn_loadA (vs := [_, _, _, _, _, _]) Tryz.isAgg48 Tryz.sizeOf48 rfl ((CellsAt.own (j := 0) (m := 6) (hw.at_ 1 (osSt_at (i := 1) (j := 3) rfl rfl)) rfl))) (at_top rfl)) ?_
  refine bls_any 3 rfl (eff_stO (m := 2) 3 0 [(6, _), (88, _)] rfl rfl rfl rfl (fun j hj => by rcases hj with h | rfl <;> first | (cases h <;> rfl) | rfl) ⟨g_fr (by kernel_rfl) rfl, g_dep 0 (by kernel_rfl) (at_dep rfl rfl rfl), trivial⟩ rfl rfl rfl Tryz.sizeOf31 rfl rfl rfl rfl) ?_
  refine bls_nil ?_
  intro Bf30 y30 W30 Ks30 hsz30 hKs30 hS' hcov30
  clear hS; have hS := hS'.castO (O' := [_, _, _, _, _, _]) rfl; clear hS'
  refine castL (L' := [AwS _ _ (isV _), AwS _ _ (isV _), isV _]) rfl ?_
  refine fin_sV ?_
  refine fin_sV ?_
  refine fin_0 ?_
  refine fin_nil ?_
  refine op_storeA (i := 2) (vs := [_, _, _, _, _, _]) (cs' := [_, _, _, _, _, _]) (O' := [_, _, _, _, _, _]) hS Tryz.sizeOf48 rfl rfl rfl rfl rfl rfl rfl ?_
  clear hS; intro W31 hS
  refine op_assign rfl rfl ?_
  refine op_assign rfl rfl ?_
  refine endF (XF.thenN ?_)
  refine retF ?_
  refine XF.res (resCCTT (vs := [_, _]) (us := [_, _, _, _, _, _]) Tryz.results16 Tryz.isAgg31 Tryz.sizeOf31 rfl (CellsAt.own (j := 0) (m := 2) (hS.at_ 3 rfl) rfl) Tryz.isAgg48 Tryz.sizeOf48 rfl (CellsAt.own (j := 0) (m := 6) (hS.at_ 2 rfl) rfl) rfl rfl) ?_
  rw [← hrun]
  obtain ⟨hXn, hRn⟩ := hX hS (fun q hq => List.mem_append_right _ hq)
  exact ⟨hS.below, a, c, f, rfl, hRn, hXn⟩
end Go.Proofs.YtfkbkekgnoanaaaGreatDoor
