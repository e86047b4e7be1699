import Derived.Orders
import Derived.Below
import Derived.Deep.RegionHeld
import Derived.WalkKit
import Derived.KernelRfl
import Derived.Laws.Rows
import Derived.Laws.AppendOwn
import Derived.Laws.Strings
import Derived.Laws.Small
import Derived.Lib.Hide
import Derived.IntWalk
import Derived.Laws.Tables
import Derived.Laws.Concat
import Derived.Laws.MakeOwn
import Derived.Lib.OwnBridge
import Derived.Laws.IdiomStrings
import Derived.Lib.ItoaLen
import Derived.Lib.UnsafeStr
import Derived.Lib.AppendIntMem
import Derived.Test.YtpinbmjkbkogdaaRows
import Derived.Lib.SmallJoins
import Derived.Deep.Slices
import Derived.Deep.Fields
import Derived.ChangeSlices
import Derived.ChangeSame
import Derived.ProofKit
import Derived.RangeFuncNested
import Derived.RangeFuncBound
import Derived.RangeFuncCalls
import Derived.RangeFuncLeaves
import Derived.OwnWalkIn
import Derived.TacticsInMore
import Derived.LoopNIn
import Derived.Shelf.Abstract
import Derived.Test.YtpinbmjkbkogdaaConfA
import Derived.Test.YtpinbmjkbkogdaaConfB
import Derived.Test.YtpinbmjkbkogdaaConfC
import Derived.Test.YtpinbmjkbkogdaaConfD
set_option linter.unusedVariables false
set_option linter.unusedSimpArgs false
set_option linter.unusedSectionVars false
set_option linter.unnecessarySimpa false
namespace Go.Proofs.Ytpinbmjkbkogdaa
open Go Go.RowKit
set_option linter.unusedVariables false
theorem goes_16 : goesIn Try.prog 16 = true := by kernel_rfl
set_option maxRecDepth 100000 in
set_option maxHeartbeats 4000000 in
theorem confR_c (va : Option Addr) (vl : Nat) (vc : Nat) (pa : Option Addr) (pl : Nat) (pc : Nat) (ea : Option Addr) (el : Nat) (ec : Nat) (es : List Int) (xa : Option Addr) (xl : Nat) (xc : Nat) (xs : List Int) (mn : Int) (oa : Option Addr) (ol : Nat) (oc : Nat) (os : List Int) (sa : Option Addr) (sl : Nat) (sc : Nat) (ss : List TV) (ta : Option Addr) (tl : Nat) (tc : Nat) (ts : List UV) (na : Option Addr) (nl : Nat) (nc : Nat) (ns : List NV) (ka : Option Addr) (kl : Nat) (kc : Nat) (ks : List KV) (node : Int) (la : Option Addr) (ll lc : Nat) (is : List Int) (w : World) (he : RowI w ea es) (hel : es.length = el) (hx : RowI w xa xs) (hxl : xs.length = xl) (ho : RowI w oa os) (hol : os.length = ol) (hs : RowL TV.sev 7 w sa ss) (hsl : ss.length = sl) (ht : RowL UV.four 4 w ta ts) (htl : ts.length = tl) (hn : RowL NV.two 2 w na ns) (hnl : ns.length = nl) (hk : RowL KV.two 2 w ka ks) (hkl : ks.length = kl) (b1 : vl ≤ 5000) (b2 : pl ≤ 5000) (b3 : el ≤ 5000) (b4 : xl ≤ 5000) (b5 : ol ≤ 5000) (b6 : sl ≤ 5000) (b7 : tl ≤ 5000) (b8 : nl ≤ 5000) (b9 : kl ≤ 5000) (hrla : RowI w la is) (hll : is.length = ll) (hlm : ll ≤ 5000) :
    Calls Try.prog 8 #[.agg #[.slice va vl vc, .slice pa pl pc, .slice ea el ec, .slice xa xl xc, .int .i64 mn, .slice oa ol oc, .slice sa sl sc, .slice ta tl tc, .slice na nl nc, .slice ka kl kc], .int .i64 node, .slice la ll lc] w (ConfRet (confE ⟨va, vl, vc, pa, pl, pc, ea, el, ec, es, xa, xl, xc, xs, mn, oa, ol, oc, os, sa, sl, sc, ss, ta, tl, tc, ts, na, nl, nc, ns, ka, kl, kc, ks⟩ node is) w) := by
  refine enterF (args := [.agg #[.slice va vl vc, .slice pa pl pc, .slice ea el ec, .slice xa xl xc, .int .i64 mn, .slice oa ol oc, .slice sa sl sc, .slice ta tl tc, .slice na nl nc, .slice ka kl kc], .int .i64 node, .slice la ll lc]) Try.func8 rfl Try.ntmps8 rfl ?_
  have hS := St.start w
  refine seqF ?_
  refine regF ?_
  refine op_box (cs := [_, _, _, _, _, _, _, _, _, _]) hS rfl rfl rfl ?_
  clear hS; intro B1 W1 hS
  refine op_alloc (cs := [_, _]) hS Try.zeroValue31 rfl rfl ?_
  clear hS; intro B2 W2 hS
  refine op_assign rfl rfl ?_
  refine endF ?_
  refine XF.thenN ?_
  refine seqF ?_
  refine regF ?_
  refine op_loadA (vs := [_, _, _, _, _, _, _, _, _, _]) Try.isAgg29 Try.sizeOf29 rfl (CellsAt.own (j := 0) (m := 10) (hS.at_ 1 rfl) rfl) rfl ?_
  refine op_call (vs := [_]) hS goes_16 rfl (checkR_c _ vl vc _ pl pc _ el ec es _ xl xc xs mn _ ol oc os _ sl sc ss _ tl tc ts _ nl nc ns _ kl kc ks  _ (he.below hS.below) hel (hx.below hS.below) hxl (ho.below hS.below) hol (hs.below hS.below) hsl (ht.below hS.below) htl (hn.below hS.below) hnl (hk.below hS.below) hkl b1 b2 b3 b4 b5 b6 b7 b8 b9) rfl ?_
  rintro e W3 ⟨rfl, hb⟩
  refine ⟨_, rfl, hb, fun hS' => ?_⟩
  clear hS; have hS := hS'; clear hS' hb
  refine op_assign rfl rfl ?_
  refine endF ?_
  refine XF.thenN ?_
  refine seqF ?_
  refine seqF ?_
  refine regF ?_
  refine op_move rfl rfl ?_
  refine op_neq rfl rfl rfl ?_
  refine endF ?_
  refine XF.thenN ?_
  refine condF rfl (fun hc => ?_) (fun hc => ?_)
  · have hc14 := of_decide_eq_true hc; clear hc
    have hce : checkE ⟨va, vl, vc, pa, pl, pc, ea, el, ec, es, xa, xl, xc, xs, mn, oa, ol, oc, os, sa, sl, sc, ss, ta, tl, tc, ts, na, nl, nc, ns, ka, kl, kc, ks⟩ ≠ 0 := hc14
    refine seqF ?_
    refine regF ?_
    refine op_build (us := []) rfl (bld_31) rfl ?_
    refine op_move rfl rfl ?_
    refine op_storeA (i := 0) (vs := [_, _]) (cs' := [_, _]) (O' := [_, _]) hS Try.sizeOf31 rfl rfl rfl rfl rfl rfl rfl ?_
    clear hS; intro W4 hS
    refine op_assign rfl rfl ?_
    refine endF ?_
    refine XF.thenN ?_
    refine retF ?_
    refine XF.thenR ?_
    refine XF.res (resCT (vs := [_, _]) Try.results8 Try.isAgg31 Try.sizeOf31 rfl (CellsAt.own (j := 0) (m := 2) (hS.at_ 0 rfl) rfl) rfl) ?_
    exact confRet_bad hS.below (by unfold confE; rw [if_pos hce]) hce
  · have hc14 := of_decide_eq_false hc; clear hc
    have hce : checkE ⟨va, vl, vc, pa, pl, pc, ea, el, ec, es, xa, xl, xc, xs, mn, oa, ol, oc, os, sa, sl, sc, ss, ta, tl, tc, ts, na, nl, nc, ns, ka, kl, kc, ks⟩ = 0 := Decidable.of_not_not hc14
    refine skipF ?_
    refine XF.thenN ?_
    refine seqF ?_
    refine seqF ?_
    refine regF ?_
    refine op_move rfl rfl ?_
    refine op_lss rfl rfl rfl ?_
    refine op_move rfl rfl ?_
    refine op_cases (d := 19) rfl (fun hc => ?_) (fun hc => ?_)
    · have hg19 := of_decide_eq_true hc; clear hc
      refine op_notF (d := 19) rfl rfl rfl rfl ?_
      refine op_notF (d := 19) rfl rfl rfl rfl ?_
      refine op_notF (d := 19) rfl rfl rfl rfl ?_
      refine op_notF (d := 19) rfl rfl rfl rfl ?_
      refine op_notF (d := 19) rfl rfl rfl rfl ?_
      refine op_pickT rfl rfl rfl ?_
      refine endF ?_
      refine XF.thenN ?_
      refine condT rfl ?_
      refine seqF ?_
      refine regF ?_
      refine op_build (us := []) rfl (bld_31) rfl ?_
      refine op_storeA (i := 0) (vs := [_, _]) (cs' := [_, _]) (O' := [_, _]) hS Try.sizeOf31 rfl rfl rfl rfl rfl rfl rfl ?_
      clear hS; intro W5 hS
      refine op_assign rfl rfl ?_
      refine endF ?_
      refine XF.thenN ?_
      refine retF ?_
      refine XF.thenR ?_
      refine XF.res (resCT (vs := [_, _]) Try.results8 Try.isAgg31 Try.sizeOf31 rfl (CellsAt.own (j := 0) (m := 2) (hS.at_ 0 rfl) rfl) rfl) ?_
      exact confRet_bad hS.below (by unfold confE; dsimp only; rw [if_neg (by rw [hce]; simp), if_pos (inQ_neg hg19)]) (by decide)
    · have hg19 := of_decide_eq_false hc; clear hc
      refine op_wantedF (d := 19) rfl rfl ?_
      refine op_move rfl rfl ?_
      refine op_wantedF (d := 19) rfl rfl ?_
      refine op_field (o' := 5) fa_29_5 rfl rfl rfl ?_
      refine op_wantedF (d := 19) rfl rfl ?_
      refine op_load Try.isAgg23 rfl (cell_own (hS.at_ 1 rfl) rfl) rfl ?_
      refine op_wantedF (d := 19) rfl rfl ?_
      refine op_len Try.underlying23 rfl rfl ?_
      refine op_wantedF (d := 19) rfl rfl ?_
      refine op_geq rfl rfl rfl ?_
      refine op_pickF rfl rfl rfl ?_
      refine endF ?_
      refine XF.thenN ?_
      refine condF rfl (fun hc => ?_) (fun hc => ?_)
      · have hc25 := of_decide_eq_true hc; clear hc
        refine seqF ?_
        refine regF ?_
        refine op_build (us := []) rfl (bld_31) rfl ?_
        refine op_storeA (i := 0) (vs := [_, _]) (cs' := [_, _]) (O' := [_, _]) hS Try.sizeOf31 rfl rfl rfl rfl rfl rfl rfl ?_
        clear hS; intro W6 hS
        refine op_assign rfl rfl ?_
        refine endF ?_
        refine XF.thenN ?_
        refine retF ?_
        refine XF.thenR ?_
        refine XF.res (resCT (vs := [_, _]) Try.results8 Try.isAgg31 Try.sizeOf31 rfl (CellsAt.own (j := 0) (m := 2) (hS.at_ 0 rfl) rfl) rfl) ?_
        exact confRet_bad hS.below (by unfold confE; dsimp only; rw [if_neg (by rw [hce]; simp), if_pos (inQ_big (by omega))]) (by decide)
      · have hc25 := of_decide_eq_false hc; clear hc
        have hnd : inQ node ol = true := by unfold inQ; rw [decide_eq_true (by omega), decide_eq_true (by omega)]; rfl
        refine skipF ?_
        refine XF.thenN ?_
        refine seqF ?_
        refine regF ?_
        refine op_move rfl rfl ?_
        refine op_buildSlice (us := [(0, .int .i64 _)]) hS Try.underlying23 Try.sizeOf3 Try.zeroValue3 rfl rfl rfl (bs_23_1 _) rfl ?_
        clear hS; intro B7 W7 hS
        refine op_build (us := [(1, .slice _ _ _)]) rfl (bld_31_1 _ _ _) rfl ?_
        refine op_alloc (cs := [_, _]) hS Try.zeroValue31 rfl rfl ?_
        clear hS; intro B8 W8 hS
        refine op_storeA (i := 0) (vs := [_, _]) (cs' := [_, _]) (O' := [_, _, _, _]) hS Try.sizeOf31 rfl rfl rfl rfl rfl rfl rfl ?_
        clear hS; intro W9 hS
        refine endF ?_
        refine XF.thenN ?_
        refine seqF ?_
        refine seqF ?_
        have hS := (hS.perm (List.Perm.swap _ _ _)).ownG (n := 1) (size := 1) rfl (by decide)
        refine regF ?_
        refine op_assign rfl rfl ?_
        refine endF ?_
        refine XF.thenN ?_
        refine blockF ?_
        refine loopF (fun m l W => ∃ (i : Nat) (acc : List Int) (v : Value), i ≤ ll ∧ m = ll - i ∧ l = [(3, .pointer (some ⟨B1, 0, none⟩)), (6, .pointer (some ⟨B2, 0, none⟩)), (9, .pointer (some ⟨B8, 0, none⟩)), (2, .slice la ll lc), (10, .int .i64 (i : Int))] ∧ acc.length = i ∧ (backs ts tl (is.drop i)).map (acc ++ ·) = backs ts tl is ∧ St w [(B8, [.int .i64 0, v], 31), (B2, [.int .i64 0, .slice none 0 0], 31), (B1, [.slice va vl vc, .slice pa pl pc, .slice ea el ec, .slice xa xl xc, .int .i64 mn, .slice oa ol oc, .slice sa sl sc, .slice ta tl tc, .slice na nl nc, .slice ka kl kc], 29)] [⟨v, i + 1, (node :: acc).map (Value.int .i64), 3, 1⟩] [] W) (ll - 0) ([(3, _), (6, _), (9, _), (2, _), (10, _)]) ⟨rfl, rfl, rfl, rfl, rfl, trivial⟩ (⟨0, [], _, Nat.zero_le _, rfl, rfl, rfl, by rw [List.drop_zero]; cases backs ts tl is <;> rfl, hS.clear⟩) ?_
        clear hS
        rintro m l W ⟨i, acc, v, hi, rfl, rfl, hacc, hrun, hS⟩
        obtain ⟨a9, c9, rfl, hac⟩ := ownsRow_sl (v := v) (n := i + 1) (hS.row 0 rfl)
        refine seqF ?_
        refine seqF ?_
        refine regF ?_
        refine op_move rfl rfl ?_
        refine op_move rfl rfl ?_
        refine op_len Try.underlying23 rfl rfl ?_
        refine op_lss rfl rfl rfl ?_
        refine endF ?_
        refine XF.thenN ?_
        refine condF rfl (fun hc => ?_) (fun hc => ?_)
        · have hc33 := of_decide_eq_true hc; clear hc
          have hk1 : i < ll := by omega
          obtain ⟨b, off, y, rfl, hy, hyc⟩ := hrla.get (i := i) (by omega)
          have k1 := (CellsAt.agree hS.agree (Nat.zero_le _) hyc).1
          rw [drop_at hy] at hrun
          refine skipF ?_
          refine XF.thenN ?_
          refine seqF ?_
          refine blockF ?_
          refine seqF ?_
          refine seqF ?_
          rcases (show y < 0 ∨ (0 ≤ y ∧ (tl : Int) ≤ y) ∨ (0 ≤ y ∧ y < (tl : Int)) by omega) with hy0 | ⟨hy0, hyt⟩ | ⟨hy0, hyt⟩
          · rw [backs_no (inQ_neg hy0)] at hrun
            refine regB (m := 15) followsM hS (by kernel_rfl) (by kernel_rfl) rfl ?_
            refine bl_cons 1 rfl (isV _) (stab_isV _) (rgV (li := [(2, _)]) rfl (w_free rfl) ⟨g_fr (by kernel_rfl) rfl, trivial⟩ (fun w hw => rn_move rfl) (at_top rfl)) ?_
            refine bl_cons 2 rfl (isV _) (stab_isV _) (rgV (li := [(10, _)]) rfl (w_free rfl) ⟨g_fr (by kernel_rfl) rfl, trivial⟩ (fun w hw => rn_move rfl) (at_top rfl)) ?_
            refine bl_cons 3 rfl (isV _) (stab_isV _) (rgV (li := [(36, _), (37, _)]) rfl (w_free rfl) ⟨g_dep 0 (by kernel_rfl) (at_dep rfl rfl rfl), g_dep 1 (by kernel_rfl) (at_dep rfl rfl rfl), trivial⟩ (fun w hw => rn_indexA  Try.underlying23 Try.sizeOf3 rfl rfl rfl (by omega) rfl) (at_top rfl)) ?_
            refine bl_cons 4 rfl (isV _) (stab_isV _) (rgV (li := [(38, _)]) rfl (w_free rfl) ⟨g_dep 2 (by kernel_rfl) (at_dep rfl rfl rfl), trivial⟩ (fun w hw => rn_load Try.isAgg3 rfl ((below_agree hw 0).cell (Nat.zero_le _) (k1))) (at_top rfl)) ?_
            refine bl_cons 5 rfl (isV (.bool true)) (stab_isV _) (rgVe (li := [(39, _)]) rfl (w_free rfl) ⟨g_dep 3 (by kernel_rfl) (at_dep rfl rfl rfl), trivial⟩ (fun w hw => rn_lss rfl rfl) (by rw [decide_eq_true hy0]) (at_top rfl)) ?_
            refine bl_cons 6 rfl (isV _) (stab_isV _) (rgV (li := [(40, _)]) rfl (w_free rfl) ⟨g_dep 4 (by kernel_rfl) (at_dep rfl rfl rfl), trivial⟩ (fun w hw => rn_move rfl) (at_top rfl)) ?_
            refine bl_cons 7 rfl (isV undef) (stab_isV _) (rg_no rfl (w_no 41 rfl (by kernel_rfl) (by kernel_rfl) (at_dep rfl rfl rfl) rfl) (at_top rfl)) ?_
            refine bl_cons 8 rfl (isV undef) (stab_isV _) (rg_no rfl (w_no 41 rfl (by kernel_rfl) (by kernel_rfl) (at_dep rfl rfl rfl) rfl) (at_top rfl)) ?_
            refine bl_cons 9 rfl (isV undef) (stab_isV _) (rg_no rfl (w_no 41 rfl (by kernel_rfl) (by kernel_rfl) (at_dep rfl rfl rfl) rfl) (at_top rfl)) ?_
            refine bl_cons 10 rfl (isV undef) (stab_isV _) (rg_no rfl (w_no 41 rfl (by kernel_rfl) (by kernel_rfl) (at_dep rfl rfl rfl) rfl) (at_top rfl)) ?_
            refine bl_cons 11 rfl (isV undef) (stab_isV _) (rg_no rfl (w_no 41 rfl (by kernel_rfl) (by kernel_rfl) (at_dep rfl rfl rfl) rfl) (at_top rfl)) ?_
            refine bl_cons 12 rfl (isV undef) (stab_isV _) (rg_no rfl (w_no 41 rfl (by kernel_rfl) (by kernel_rfl) (at_dep rfl rfl rfl) rfl) (at_top rfl)) ?_
            refine bl_cons 13 rfl (isV undef) (stab_isV _) (rg_no rfl (w_no 41 rfl (by kernel_rfl) (by kernel_rfl) (at_dep rfl rfl rfl) rfl) (at_top rfl)) ?_
            refine bl_cons 14 rfl (isV undef) (stab_isV _) (rg_no rfl (w_no 41 rfl (by kernel_rfl) (by kernel_rfl) (at_dep rfl rfl rfl) rfl) (at_top rfl)) ?_
            refine bl_cons 15 rfl (isV _) (stab_isV _) (rgV (li := [(41, _)]) rfl (w_free rfl) ⟨g_dep 5 (by kernel_rfl) (at_dep rfl rfl rfl), trivial⟩ (fun w hw => rn_pickT rfl rfl) (at_top rfl)) ?_
            refine bl_nil ?_
            intro W10 hbR hS'
            clear hS; have hS := hS'; clear hS'
            refine fin_v ?_
            refine fin_v ?_
            refine fin_v ?_
            refine fin_v ?_
            refine fin_v ?_
            refine fin_v ?_
            refine fin_v ?_
            refine fin_v ?_
            refine fin_v ?_
            refine fin_v ?_
            refine fin_v ?_
            refine fin_v ?_
            refine fin_v ?_
            refine fin_v ?_
            refine fin_v ?_
            refine fin_nil ?_
            refine XF.thenN ?_
            refine condT rfl ?_
            refine seqF ?_
            refine regF ?_
            refine op_build (us := []) rfl (bld_31) rfl ?_
            refine op_storeA (i := 1) (vs := [_, _]) (cs' := [_, _]) (O' := [_, _, _]) hS Try.sizeOf31 rfl rfl rfl rfl rfl rfl rfl ?_
            clear hS; intro W11 hS
            refine op_assign rfl rfl ?_
            refine endF ?_
            refine XF.thenN ?_
            refine retF ?_
            refine XF.thenR ?_
            refine XF.blkR ?_
            refine XF.thenR ?_
            refine XF.thenR ?_
            refine XF.blkR ?_
            refine XF.thenR ?_
            refine XF.res (resCT (vs := [_, _]) Try.results8 Try.isAgg31 Try.sizeOf31 rfl (CellsAt.own (j := 0) (m := 2) (hS.at_ 1 rfl) rfl) rfl) ?_
            exact confRet_bad hS.below (by unfold confE; dsimp only; rw [if_neg (by rw [hce]; simp), if_neg (by rw [hnd]; simp), ← hrun]; rfl) (by decide)
          · rw [backs_no (inQ_big hyt)] at hrun
            refine regB (m := 15) followsM hS (by kernel_rfl) (by kernel_rfl) rfl ?_
            refine bl_cons 1 rfl (isV _) (stab_isV _) (rgV (li := [(2, _)]) rfl (w_free rfl) ⟨g_fr (by kernel_rfl) rfl, trivial⟩ (fun w hw => rn_move rfl) (at_top rfl)) ?_
            refine bl_cons 2 rfl (isV _) (stab_isV _) (rgV (li := [(10, _)]) rfl (w_free rfl) ⟨g_fr (by kernel_rfl) rfl, trivial⟩ (fun w hw => rn_move rfl) (at_top rfl)) ?_
            refine bl_cons 3 rfl (isV _) (stab_isV _) (rgV (li := [(36, _), (37, _)]) rfl (w_free rfl) ⟨g_dep 0 (by kernel_rfl) (at_dep rfl rfl rfl), g_dep 1 (by kernel_rfl) (at_dep rfl rfl rfl), trivial⟩ (fun w hw => rn_indexA  Try.underlying23 Try.sizeOf3 rfl rfl rfl (by omega) rfl) (at_top rfl)) ?_
            refine bl_cons 4 rfl (isV _) (stab_isV _) (rgV (li := [(38, _)]) rfl (w_free rfl) ⟨g_dep 2 (by kernel_rfl) (at_dep rfl rfl rfl), trivial⟩ (fun w hw => rn_load Try.isAgg3 rfl ((below_agree hw 0).cell (Nat.zero_le _) (k1))) (at_top rfl)) ?_
            refine bl_cons 5 rfl (isV (.bool false)) (stab_isV _) (rgVe (li := [(39, _)]) rfl (w_free rfl) ⟨g_dep 3 (by kernel_rfl) (at_dep rfl rfl rfl), trivial⟩ (fun w hw => rn_lss rfl rfl) (by rw [decide_eq_false (by omega)]) (at_top rfl)) ?_
            refine bl_cons 6 rfl (isV _) (stab_isV _) (rgV (li := [(40, _)]) rfl (w_free rfl) ⟨g_dep 4 (by kernel_rfl) (at_dep rfl rfl rfl), trivial⟩ (fun w hw => rn_move rfl) (at_top rfl)) ?_
            refine bl_cons 7 rfl (isV _) (stab_isV _) (rgV (li := [(2, _)]) rfl (w_yes 41 rfl (by kernel_rfl) (by kernel_rfl) (at_dep rfl rfl rfl)) ⟨g_fr (by kernel_rfl) rfl, trivial⟩ (fun w hw => rn_move rfl) (at_top rfl)) ?_
            refine bl_cons 8 rfl (isV _) (stab_isV _) (rgV (li := [(10, _)]) rfl (w_yes 41 rfl (by kernel_rfl) (by kernel_rfl) (at_dep rfl rfl rfl)) ⟨g_fr (by kernel_rfl) rfl, trivial⟩ (fun w hw => rn_move rfl) (at_top rfl)) ?_
            refine bl_cons 9 rfl (isV _) (stab_isV _) (rgV (li := [(42, _), (43, _)]) rfl (w_yes 41 rfl (by kernel_rfl) (by kernel_rfl) (at_dep rfl rfl rfl)) ⟨g_dep 6 (by kernel_rfl) (at_dep rfl rfl rfl), g_dep 7 (by kernel_rfl) (at_dep rfl rfl rfl), trivial⟩ (fun w hw => rn_indexA  Try.underlying23 Try.sizeOf3 rfl rfl rfl (by omega) rfl) (at_top rfl)) ?_
            refine bl_cons 10 rfl (isV _) (stab_isV _) (rgV (li := [(44, _)]) rfl (w_yes 41 rfl (by kernel_rfl) (by kernel_rfl) (at_dep rfl rfl rfl)) ⟨g_dep 8 (by kernel_rfl) (at_dep rfl rfl rfl), trivial⟩ (fun w hw => rn_load Try.isAgg3 rfl ((below_agree hw 0).cell (Nat.zero_le _) (k1))) (at_top rfl)) ?_
            refine bl_cons 11 rfl (isV _) (stab_isV _) (rgV (li := [(3, _)]) rfl (w_yes 41 rfl (by kernel_rfl) (by kernel_rfl) (at_dep rfl rfl rfl)) ⟨g_fr (by kernel_rfl) rfl, trivial⟩ (fun w hw => rn_field (o' := 7) fa_29_7 rfl rfl) (at_top rfl)) ?_
            refine bl_cons 12 rfl (isV _) (stab_isV _) (rgV (li := [(46, _)]) rfl (w_yes 41 rfl (by kernel_rfl) (by kernel_rfl) (at_dep rfl rfl rfl)) ⟨g_dep 10 (by kernel_rfl) (at_dep rfl rfl rfl), trivial⟩ (fun w hw => rn_load Try.isAgg25 rfl ((below_agree hw 0).cell (Nat.zero_le _) (cell_own (hS.at_ 2 rfl) rfl))) (at_top rfl)) ?_
            refine bl_cons 13 rfl (isV _) (stab_isV _) (rgV (li := [(47, _)]) rfl (w_yes 41 rfl (by kernel_rfl) (by kernel_rfl) (at_dep rfl rfl rfl)) ⟨g_dep 11 (by kernel_rfl) (at_dep rfl rfl rfl), trivial⟩ (fun w hw => rn_len Try.underlying25 rfl) (at_top rfl)) ?_
            refine bl_cons 14 rfl (isV (.bool true)) (stab_isV _) (rgVe (li := [(45, _), (48, _)]) rfl (w_yes 41 rfl (by kernel_rfl) (by kernel_rfl) (at_dep rfl rfl rfl)) ⟨g_dep 9 (by kernel_rfl) (at_dep rfl rfl rfl), g_dep 12 (by kernel_rfl) (at_dep rfl rfl rfl), trivial⟩ (fun w hw => rn_geq rfl rfl) (by rw [decide_eq_true (by omega)]) (at_top rfl)) ?_
            refine bl_cons 15 rfl (isV _) (stab_isV _) (rgV (li := [(41, _), (49, _)]) rfl (w_free rfl) ⟨g_dep 5 (by kernel_rfl) (at_dep rfl rfl rfl), g_dep 13 (by kernel_rfl) (at_dep rfl rfl rfl), trivial⟩ (fun w hw => rn_pickF rfl rfl) (at_top rfl)) ?_
            refine bl_nil ?_
            intro W12 hbR hS'
            clear hS; have hS := hS'; clear hS'
            refine fin_v ?_
            refine fin_v ?_
            refine fin_v ?_
            refine fin_v ?_
            refine fin_v ?_
            refine fin_v ?_
            refine fin_v ?_
            refine fin_v ?_
            refine fin_v ?_
            refine fin_v ?_
            refine fin_v ?_
            refine fin_v ?_
            refine fin_v ?_
            refine fin_v ?_
            refine fin_v ?_
            refine fin_nil ?_
            refine XF.thenN ?_
            refine condT rfl ?_
            refine seqF ?_
            refine regF ?_
            refine op_build (us := []) rfl (bld_31) rfl ?_
            refine op_storeA (i := 1) (vs := [_, _]) (cs' := [_, _]) (O' := [_, _, _]) hS Try.sizeOf31 rfl rfl rfl rfl rfl rfl rfl ?_
            clear hS; intro W13 hS
            refine op_assign rfl rfl ?_
            refine endF ?_
            refine XF.thenN ?_
            refine retF ?_
            refine XF.thenR ?_
            refine XF.blkR ?_
            refine XF.thenR ?_
            refine XF.thenR ?_
            refine XF.blkR ?_
            refine XF.thenR ?_
            refine XF.res (resCT (vs := [_, _]) Try.results8 Try.isAgg31 Try.sizeOf31 rfl (CellsAt.own (j := 0) (m := 2) (hS.at_ 1 rfl) rfl) rfl) ?_
            exact confRet_bad hS.below (by unfold confE; dsimp only; rw [if_neg (by rw [hce]; simp), if_neg (by rw [hnd]; simp), ← hrun]; rfl) (by decide)
          · obtain ⟨k, rfl⟩ := Int.eq_ofNat_of_zero_le hy0
            have hkt : k < tl := by omega
            obtain ⟨tb, to_, u, rfl, hu, huc⟩ := ht.get (i := k) (by omega)
            have k2 := (CellsAt.agree hS.agree (Nat.zero_le _) huc).2.2.2.1
            rw [backs_yes hkt hu, Option.map_map] at hrun
            refine regB (m := 15) followsM hS (by kernel_rfl) (by kernel_rfl) rfl ?_
            refine bl_cons 1 rfl (isV _) (stab_isV _) (rgV (li := [(2, _)]) rfl (w_free rfl) ⟨g_fr (by kernel_rfl) rfl, trivial⟩ (fun w hw => rn_move rfl) (at_top rfl)) ?_
            refine bl_cons 2 rfl (isV _) (stab_isV _) (rgV (li := [(10, _)]) rfl (w_free rfl) ⟨g_fr (by kernel_rfl) rfl, trivial⟩ (fun w hw => rn_move rfl) (at_top rfl)) ?_
            refine bl_cons 3 rfl (isV _) (stab_isV _) (rgV (li := [(36, _), (37, _)]) rfl (w_free rfl) ⟨g_dep 0 (by kernel_rfl) (at_dep rfl rfl rfl), g_dep 1 (by kernel_rfl) (at_dep rfl rfl rfl), trivial⟩ (fun w hw => rn_indexA  Try.underlying23 Try.sizeOf3 rfl rfl rfl (by omega) rfl) (at_top rfl)) ?_
            refine bl_cons 4 rfl (isV _) (stab_isV _) (rgV (li := [(38, _)]) rfl (w_free rfl) ⟨g_dep 2 (by kernel_rfl) (at_dep rfl rfl rfl), trivial⟩ (fun w hw => rn_load Try.isAgg3 rfl ((below_agree hw 0).cell (Nat.zero_le _) (k1))) (at_top rfl)) ?_
            refine bl_cons 5 rfl (isV (.bool false)) (stab_isV _) (rgVe (li := [(39, _)]) rfl (w_free rfl) ⟨g_dep 3 (by kernel_rfl) (at_dep rfl rfl rfl), trivial⟩ (fun w hw => rn_lss rfl rfl) (by rw [decide_eq_false (by omega)]) (at_top rfl)) ?_
            refine bl_cons 6 rfl (isV _) (stab_isV _) (rgV (li := [(40, _)]) rfl (w_free rfl) ⟨g_dep 4 (by kernel_rfl) (at_dep rfl rfl rfl), trivial⟩ (fun w hw => rn_move rfl) (at_top rfl)) ?_
            refine bl_cons 7 rfl (isV _) (stab_isV _) (rgV (li := [(2, _)]) rfl (w_yes 41 rfl (by kernel_rfl) (by kernel_rfl) (at_dep rfl rfl rfl)) ⟨g_fr (by kernel_rfl) rfl, trivial⟩ (fun w hw => rn_move rfl) (at_top rfl)) ?_
            refine bl_cons 8 rfl (isV _) (stab_isV _) (rgV (li := [(10, _)]) rfl (w_yes 41 rfl (by kernel_rfl) (by kernel_rfl) (at_dep rfl rfl rfl)) ⟨g_fr (by kernel_rfl) rfl, trivial⟩ (fun w hw => rn_move rfl) (at_top rfl)) ?_
            refine bl_cons 9 rfl (isV _) (stab_isV _) (rgV (li := [(42, _), (43, _)]) rfl (w_yes 41 rfl (by kernel_rfl) (by kernel_rfl) (at_dep rfl rfl rfl)) ⟨g_dep 6 (by kernel_rfl) (at_dep rfl rfl rfl), g_dep 7 (by kernel_rfl) (at_dep rfl rfl rfl), trivial⟩ (fun w hw => rn_indexA  Try.underlying23 Try.sizeOf3 rfl rfl rfl (by omega) rfl) (at_top rfl)) ?_
            refine bl_cons 10 rfl (isV _) (stab_isV _) (rgV (li := [(44, _)]) rfl (w_yes 41 rfl (by kernel_rfl) (by kernel_rfl) (at_dep rfl rfl rfl)) ⟨g_dep 8 (by kernel_rfl) (at_dep rfl rfl rfl), trivial⟩ (fun w hw => rn_load Try.isAgg3 rfl ((below_agree hw 0).cell (Nat.zero_le _) (k1))) (at_top rfl)) ?_
            refine bl_cons 11 rfl (isV _) (stab_isV _) (rgV (li := [(3, _)]) rfl (w_yes 41 rfl (by kernel_rfl) (by kernel_rfl) (at_dep rfl rfl rfl)) ⟨g_fr (by kernel_rfl) rfl, trivial⟩ (fun w hw => rn_field (o' := 7) fa_29_7 rfl rfl) (at_top rfl)) ?_
            refine bl_cons 12 rfl (isV _) (stab_isV _) (rgV (li := [(46, _)]) rfl (w_yes 41 rfl (by kernel_rfl) (by kernel_rfl) (at_dep rfl rfl rfl)) ⟨g_dep 10 (by kernel_rfl) (at_dep rfl rfl rfl), trivial⟩ (fun w hw => rn_load Try.isAgg25 rfl ((below_agree hw 0).cell (Nat.zero_le _) (cell_own (hS.at_ 2 rfl) rfl))) (at_top rfl)) ?_
            refine bl_cons 13 rfl (isV _) (stab_isV _) (rgV (li := [(47, _)]) rfl (w_yes 41 rfl (by kernel_rfl) (by kernel_rfl) (at_dep rfl rfl rfl)) ⟨g_dep 11 (by kernel_rfl) (at_dep rfl rfl rfl), trivial⟩ (fun w hw => rn_len Try.underlying25 rfl) (at_top rfl)) ?_
            refine bl_cons 14 rfl (isV (.bool false)) (stab_isV _) (rgVe (li := [(45, _), (48, _)]) rfl (w_yes 41 rfl (by kernel_rfl) (by kernel_rfl) (at_dep rfl rfl rfl)) ⟨g_dep 9 (by kernel_rfl) (at_dep rfl rfl rfl), g_dep 12 (by kernel_rfl) (at_dep rfl rfl rfl), trivial⟩ (fun w hw => rn_geq rfl rfl) (by rw [decide_eq_false (by omega)]) (at_top rfl)) ?_
            refine bl_cons 15 rfl (isV _) (stab_isV _) (rgV (li := [(41, _), (49, _)]) rfl (w_free rfl) ⟨g_dep 5 (by kernel_rfl) (at_dep rfl rfl rfl), g_dep 13 (by kernel_rfl) (at_dep rfl rfl rfl), trivial⟩ (fun w hw => rn_pickF rfl rfl) (at_top rfl)) ?_
            refine bl_nil ?_
            intro W14 hbR hS'
            clear hS; have hS := hS'; clear hS'
            refine fin_v ?_
            refine fin_v ?_
            refine fin_v ?_
            refine fin_v ?_
            refine fin_v ?_
            refine fin_v ?_
            refine fin_v ?_
            refine fin_v ?_
            refine fin_v ?_
            refine fin_v ?_
            refine fin_v ?_
            refine fin_v ?_
            refine fin_v ?_
            refine fin_v ?_
            refine fin_v ?_
            refine fin_nil ?_
            refine XF.thenN ?_
            refine condN rfl ?_
            refine skipF ?_
            refine XF.thenN ?_
            have k1 := (CellsAt.agree hS.agree (Nat.zero_le _) hyc).1
            have k2 := (CellsAt.agree hS.agree (Nat.zero_le _) huc).2.2.2.1
            refine regBP (p := 12) (k := 14) (gi := 0) (m := 1) followsM hS rfl rfl (by kernel_rfl) (by kernel_rfl) (by kernel_rfl) (fun d hd => by cases hd) rfl rfl Try.underlying23 inf_3 rfl rfl (by show 0 < 1; decide) rfl rfl rfl (by simp only [maxLen]; omega) (by show (i + 1 + 1) * 8 ≤ _; omega) ?_
            refine blp_v 1 rfl rfl (by kernel_rfl) (rgV (li := [(9, _)]) rfl (w_free rfl) ⟨g_fr (by kernel_rfl) rfl, trivial⟩ (fun w hw => rn_field (o' := 1) fa_31_1 rfl rfl) (at_top rfl)) ?_
            refine blp_v 2 rfl rfl (by kernel_rfl) (rgV (li := [(52, _)]) rfl (w_free rfl) ⟨g_dep 0 (by kernel_rfl) (at_dep rfl rfl rfl), trivial⟩ (fun w hw => rn_load Try.isAgg23 rfl ((below_agree hw 0).cell (Nat.zero_le _) (cell_own (hS.at_ 0 rfl) rfl))) (at_top rfl)) ?_
            refine blp_v 3 rfl rfl (by kernel_rfl) (rgV (li := [(3, _)]) rfl (w_free rfl) ⟨g_fr (by kernel_rfl) rfl, trivial⟩ (fun w hw => rn_field (o' := 7) fa_29_7 rfl rfl) (at_top rfl)) ?_
            refine blp_v 4 rfl rfl (by kernel_rfl) (rgV (li := [(54, _)]) rfl (w_free rfl) ⟨g_dep 2 (by kernel_rfl) (at_dep rfl rfl rfl), trivial⟩ (fun w hw => rn_load Try.isAgg25 rfl ((below_agree hw 0).cell (Nat.zero_le _) (cell_own (hS.at_ 2 rfl) rfl))) (at_top rfl)) ?_
            refine blp_v 5 rfl rfl (by kernel_rfl) (rgV (li := [(2, _)]) rfl (w_free rfl) ⟨g_fr (by kernel_rfl) rfl, trivial⟩ (fun w hw => rn_move rfl) (at_top rfl)) ?_
            refine blp_v 6 rfl rfl (by kernel_rfl) (rgV (li := [(10, _)]) rfl (w_free rfl) ⟨g_fr (by kernel_rfl) rfl, trivial⟩ (fun w hw => rn_move rfl) (at_top rfl)) ?_
            refine blp_v 7 rfl rfl (by kernel_rfl) (rgV (li := [(56, _), (57, _)]) rfl (w_free rfl) ⟨g_dep 4 (by kernel_rfl) (at_dep rfl rfl rfl), g_dep 5 (by kernel_rfl) (at_dep rfl rfl rfl), trivial⟩ (fun w hw => rn_indexA  Try.underlying23 Try.sizeOf3 rfl rfl rfl (by omega) rfl) (at_top rfl)) ?_
            refine blp_v 8 rfl rfl (by kernel_rfl) (rgV (li := [(58, _)]) rfl (w_free rfl) ⟨g_dep 6 (by kernel_rfl) (at_dep rfl rfl rfl), trivial⟩ (fun w hw => rn_load Try.isAgg3 rfl ((below_agree hw 0).cell (Nat.zero_le _) (k1))) (at_top rfl)) ?_
            refine blp_v 9 rfl rfl (by kernel_rfl) (rgV (li := [(55, _), (59, _)]) rfl (w_free rfl) ⟨g_dep 3 (by kernel_rfl) (at_dep rfl rfl rfl), g_dep 7 (by kernel_rfl) (at_dep rfl rfl rfl), trivial⟩ (fun w hw => rn_indexA (j := k) Try.underlying25 Try.sizeOf47 rfl rfl (by omega) (by omega) rfl) (at_top rfl)) ?_
            refine blp_v 10 rfl rfl (by kernel_rfl) (rgV (li := [(60, _)]) rfl (w_free rfl) ⟨g_dep 8 (by kernel_rfl) (at_dep rfl rfl rfl), trivial⟩ (fun w hw => rn_field fa_47_3 rfl rfl) (at_top rfl)) ?_
            refine blp_v 11 rfl rfl (by kernel_rfl) (rgV (li := [(61, _)]) rfl (w_free rfl) ⟨g_dep 9 (by kernel_rfl) (at_dep rfl rfl rfl), trivial⟩ (fun w hw => rn_load Try.isAgg3 rfl ((below_agree hw 0).cell (Nat.zero_le _) (k2))) (at_top rfl)) ?_
            refine blp_q 12 rfl rfl (by kernel_rfl) (isRow W14.heap.size 1 3 _) (stab_isRow) (rg_rowV (us := [.int .i64 _]) rfl (w_free rfl) Try.underlying23 Try.sizeOf3 Try.zeroValue3 rfl rfl ⟨p_tmp (g_dep 10 (by kernel_rfl) (at_dep rfl rfl rfl)), trivial⟩ (bs_23_1 _) (at_top rfl)) ?_
            refine blp_app 13 rfl rfl ?_
            refine blp_late 14 rfl rfl (rgV (li := [(9, _)]) rfl (w_free rfl) ⟨g_fr (by kernel_rfl) rfl, trivial⟩ (fun w hw => rn_field (o' := 1) fa_31_1 rfl rfl) (at_top rfl)) (lgV (li := [(9, _)]) rfl (w_free rfl) ⟨g_fr (by kernel_rfl) rfl, trivial⟩ (fun w => rn_field (o' := 1) fa_31_1 rfl rfl) (at_top rfl) rfl) ?_
            refine blp_nil ⟨_, _, g_dep 1 (by kernel_rfl) (at_dep rfl rfl rfl), g_dep 11 (by kernel_rfl) (at_dep rfl rfl rfl), rowOf_isRow rfl rfl, ?_⟩
            intro A15 v15 news15 W15 hbR hqA15 hS'
            clear hS; have hS := hS'; clear hS'
            cases hqA15
            refine fin_v ?_
            refine fin_v ?_
            refine fin_v ?_
            refine fin_v ?_
            refine fin_v ?_
            refine fin_v ?_
            refine fin_v ?_
            refine fin_v ?_
            refine fin_v ?_
            refine fin_v ?_
            refine fin_v ?_
            refine fin_p ?_; intro _ _
            refine fin_v ?_
            refine fin_v ?_
            obtain ⟨a2, c2, e2, hac2⟩ := ownsRow_sl (hS.row 0 rfl)
            dsimp only at e2
            subst e2
            refine fin_nil ?_
            refine op_store (i := 0) (cs' := [_, _]) (O' := [_, _, _]) hS Try.sizeOf23 rfl rfl rfl rfl rfl rfl rfl ?_
            clear hS; intro W16 hS
            refine endF ?_
            refine XF.blkN ?_
            refine XF.thenN ?_
            refine regF ?_
            refine op_move rfl rfl ?_
            refine op_add rfl rfl (IntWalk.i64_in _ (by omega)) rfl ?_
            refine op_assign rfl rfl ?_
            refine endF ?_
            exact XF.round (ll - (i + 1)) [(3, _), (6, _), (9, _), (2, _), (10, _)] (by omega) ⟨rfl, rfl, rfl, rfl, rfl, trivial⟩ ⟨i + 1, acc ++ [u.bk], _, by omega, rfl, rfl, by simp [hacc], by rw [← hrun]; congr 1; funext z; simp, hS.clear.castG (by simp)⟩
        · have hc33 := of_decide_eq_false hc; clear hc
          rw [List.drop_of_length_le (by omega)] at hrun
          simp only [backs, Option.map_some, List.append_nil] at hrun
          refine exitF ?_
          refine XF.thenX ?_
          refine XF.thenX ?_
          refine XF.blkX ?_
          refine XF.thenN ?_
          refine seqF ?_
          refine seqF ?_
          refine regF ?_
          refine op_field (o' := 1) fa_31_1 rfl rfl rfl ?_
          refine op_load Try.isAgg23 rfl (cell_own (hS.at_ 0 rfl) rfl) rfl ?_
          refine op_len Try.underlying23 rfl rfl ?_
          refine op_gtr rfl rfl rfl ?_
          refine endF ?_
          refine XF.thenN ?_
          refine condF rfl (fun hc => ?_) (fun hc => ?_)
          · have hc69 := of_decide_eq_true hc; clear hc
            refine seqF ?_
            refine regF ?_
            refine op_build (us := []) rfl (bld_31) rfl ?_
            refine op_storeA (i := 1) (vs := [_, _]) (cs' := [_, _]) (O' := [_, _, _]) hS Try.sizeOf31 rfl rfl rfl rfl rfl rfl rfl ?_
            clear hS; intro W17 hS
            refine op_assign rfl rfl ?_
            refine endF ?_
            refine XF.thenN ?_
            refine retF ?_
            refine XF.thenR ?_
            refine XF.res (resCT (vs := [_, _]) Try.results8 Try.isAgg31 Try.sizeOf31 rfl (CellsAt.own (j := 0) (m := 2) (hS.at_ 1 rfl) rfl) rfl) ?_
            exact confRet_bad hS.below (by unfold confE; dsimp only; rw [if_neg (by rw [hce]; simp), if_neg (by rw [hnd]; simp), ← hrun]; exact if_pos (by rw [hacc]; omega)) (by decide)
          · have hc69 := of_decide_eq_false hc; clear hc
            refine skipF ?_
            refine XF.thenN ?_
            refine seqF ?_
            refine regF ?_
            refine op_loadA (vs := [_, _]) Try.isAgg31 Try.sizeOf31 rfl (CellsAt.own (j := 0) (m := 2) (hS.at_ 0 rfl) rfl) rfl ?_
            refine op_storeA (i := 1) (vs := [_, _]) (cs' := [_, _]) (O' := [_, _, _]) hS Try.sizeOf31 rfl rfl rfl rfl rfl rfl rfl ?_
            clear hS; intro W18 hS
            refine op_assign rfl rfl ?_
            refine endF ?_
            refine XF.thenN ?_
            refine retF ?_
            refine XF.res (resCT (vs := [_, _]) Try.results8 Try.isAgg31 Try.sizeOf31 rfl (CellsAt.own (j := 0) (m := 2) (hS.at_ 1 rfl) rfl) rfl) ?_
            have hR : confE ⟨va, vl, vc, pa, pl, pc, ea, el, ec, es, xa, xl, xc, xs, mn, oa, ol, oc, os, sa, sl, sc, ss, ta, tl, tc, ts, na, nl, nc, ns, ka, kl, kc, ks⟩ node is = (0, node :: acc) := by unfold confE; dsimp only; rw [if_neg (by rw [hce]; simp), if_neg (by rw [hnd]; simp), ← hrun]; exact if_neg (by rw [hacc]; omega)
            rw [hR]
            exact ⟨hS.below, .inr ⟨rfl, a9, c9, by rw [List.length_cons, hacc], by have h9 := hS.row 0 rfl; unfold RowN; rw [List.length_cons, hacc]; exact h9⟩⟩
end Go.Proofs.Ytpinbmjkbkogdaa
namespace Go.Proofs.Ytpinbmjkbkogdaa
open Go Go.RowKit
set_option linter.unusedVariables false
def siteF (back : Int) : List UV → Nat → Int
  | [], _ => -1
  | u :: r, i => if u.bk = back then (i : Int) else siteF back r (i + 1)
theorem foldr_len (b : Nat → Nat) : ∀ (l : List Nat) (vs : List Int), (l.foldr (fun i vs => vs.set (b i) (i : Int)) vs).length = vs.length
  | [], vs => rfl
  | x :: l, vs => by rw [List.foldr_cons, List.length_set, foldr_len b l vs]
theorem first_from {ts : List UV} {ol k : Nat} (hk : k < ol) (hin : ∀ u ∈ ts, inQ u.bk ol = true) : ∀ (suf : List UV) (s : Nat), ts.drop s = suf → ((List.range' s suf.length).foldr (fun i vs => vs.set (uat ts i).bk.toNat (i : Int)) (List.replicate ol (-1)))[k]? = some (siteF (k : Int) suf s)
  | [], s, h => by simp [siteF, hk]
  | u :: r, s, h => by
    have hs : ts[s]? = some u := by
      have := congrArg (·[0]?) h
      simpa [List.getElem?_drop] using this
    have hr : ts.drop (s + 1) = r := by
      have := congrArg List.tail h
      simpa using this
    have hu : uat ts s = u := by unfold uat; rw [hs]; rfl
    obtain ⟨kb, ekb, hkb⟩ := inQ_nat (hin u (List.mem_of_getElem? hs))
    rw [List.length_cons, List.range'_succ, List.foldr_cons, hu, ekb, Int.toNat_natCast]
    simp only [siteF]
    by_cases e : kb = k
    · subst e
      rw [if_pos ekb, List.getElem?_set_self (by rw [foldr_len, List.length_replicate]; exact hk)]
    · rw [if_neg (by rw [ekb]; omega), List.getElem?_set_ne e]
      exact first_from hk hin r (s + 1) hr
theorem first_site {ts : List UV} {ol k : Nat} (hk : k < ol) (hin : ∀ u ∈ ts, inQ u.bk ol = true) : (firstL ts ol)[k]? = some (siteF (k : Int) ts 0) := by
  have h := first_from hk hin ts 0 rfl
  unfold firstL valsF
  rw [List.foldl_reverse, List.range_eq_range']
  exact h
theorem siteF_out {n : Int} {ol : Nat} (hn : inQ n ol = false) : ∀ (ts : List UV) (i : Nat), (∀ u ∈ ts, inQ u.bk ol = true) → siteF n ts i = -1
  | [], i, h => rfl
  | u :: r, i, h => by
    simp only [siteF]
    rw [if_neg (fun e => by have := h u List.mem_cons_self; rw [e, hn] at this; cases this)]
    exact siteF_out hn r (i + 1) (fun v hv => h v (List.mem_cons_of_mem _ hv))
theorem fsts_site {ts : List UV} {ol : Nat} (hin : ∀ u ∈ ts, inQ u.bk ol = true) (n : Int) (r : List Int) : fsts (firstL ts ol) ol (n :: r) = if siteF n ts 0 < 0 then none else (fsts (firstL ts ol) ol r).map (siteF n ts 0 :: ·) := by
  cases h : inQ n ol with
  | false => rw [fsts_out h, siteF_out h ts 0 hin, if_pos (by decide)]
  | true =>
    obtain ⟨k, rfl, hk⟩ := inQ_nat h
    rw [fsts_at hk (first_site hk hin)]
theorem sites_cases (p : Int) (ws : List Int) (wl ol : Nat) (hwl : ws.length = wl) : p ≠ 0 ∨ (p = 0 ∧ wl < 1) ∨ (p = 0 ∧ 1 ≤ wl ∧ 4096 < wl) ∨ (p = 0 ∧ 1 ≤ wl ∧ wl ≤ 4096 ∧ ∃ n r, ws = n :: r ∧ (n < 0 ∨ (0 ≤ n ∧ (ol : Int) ≤ n) ∨ (0 ≤ n ∧ n < (ol : Int)))) := by
  by_cases hp : p = 0
  · by_cases h1 : wl < 1
    · exact .inr (.inl ⟨hp, h1⟩)
    · by_cases h2 : 4096 < wl
      · exact .inr (.inr (.inl ⟨hp, by omega, h2⟩))
      · refine .inr (.inr (.inr ⟨hp, by omega, by omega, ?_⟩))
        cases ws with
        | nil => simp at hwl; omega
        | cons n r => exact ⟨n, r, rfl, by omega⟩
  · exact .inl hp
end Go.Proofs.Ytpinbmjkbkogdaa
namespace Go.Proofs.Ytpinbmjkbkogdaa
open Go Go.RowKit
set_option linter.unusedVariables false
theorem goes_18 : goesIn Try.prog 18 = true := by kernel_rfl
set_option maxRecDepth 100000 in
set_option maxHeartbeats 4000000 in
theorem siteR_c (va : Option Addr) (vl : Nat) (vc : Nat) (pa : Option Addr) (pl : Nat) (pc : Nat) (ea : Option Addr) (el : Nat) (ec : Nat) (es : List Int) (xa : Option Addr) (xl : Nat) (xc : Nat) (xs : List Int) (mn : Int) (oa : Option Addr) (ol : Nat) (oc : Nat) (os : List Int) (sa : Option Addr) (sl : Nat) (sc : Nat) (ss : List TV) (ta : Option Addr) (tl : Nat) (tc : Nat) (ts : List UV) (na : Option Addr) (nl : Nat) (nc : Nat) (ns : List NV) (ka : Option Addr) (kl : Nat) (kc : Nat) (ks : List KV) (back : Int) (w : World) (he : RowI w ea es) (hel : es.length = el) (hx : RowI w xa xs) (hxl : xs.length = xl) (ho : RowI w oa os) (hol : os.length = ol) (hs : RowL TV.sev 7 w sa ss) (hsl : ss.length = sl) (ht : RowL UV.four 4 w ta ts) (htl : ts.length = tl) (hn : RowL NV.two 2 w na ns) (hnl : ns.length = nl) (hk : RowL KV.two 2 w ka ks) (hkl : ks.length = kl) (b1 : vl ≤ 5000) (b2 : pl ≤ 5000) (b3 : el ≤ 5000) (b4 : xl ≤ 5000) (b5 : ol ≤ 5000) (b6 : sl ≤ 5000) (b7 : tl ≤ 5000) (b8 : nl ≤ 5000) (b9 : kl ≤ 5000) :
    Calls Try.prog 18 #[.agg #[.slice va vl vc, .slice pa pl pc, .slice ea el ec, .slice xa xl xc, .int .i64 mn, .slice oa ol oc, .slice sa sl sc, .slice ta tl tc, .slice na nl nc, .slice ka kl kc], .int .i64 back] w (fun e w' => e = .returned (.int .i64 (siteF back ts 0)) ∧ Below w.heap.size w w') := by
  refine enterF (args := [.agg #[.slice va vl vc, .slice pa pl pc, .slice ea el ec, .slice xa xl xc, .int .i64 mn, .slice oa ol oc, .slice sa sl sc, .slice ta tl tc, .slice na nl nc, .slice ka kl kc], .int .i64 back]) Try.func18 rfl Try.ntmps18 rfl ?_
  have hS := St.start w
  refine seqF ?_
  refine regF ?_
  refine op_box (cs := [_, _, _, _, _, _, _, _, _, _]) hS rfl rfl rfl ?_
  clear hS; intro B1 W1 hS
  refine op_assign rfl rfl ?_
  refine endF ?_
  refine XF.thenN ?_
  refine seqF ?_
  refine seqF ?_
  refine regF ?_
  refine op_assign rfl rfl ?_
  refine endF ?_
  refine XF.thenN ?_
  refine blockF ?_
  refine loopF (fun m l W => ∃ i : Nat, i ≤ tl ∧ m = tl - i ∧ l = [(1, .int .i64 back), (2, .pointer (some ⟨B1, 0, none⟩)), (5, .int .i64 (i : Int))] ∧ siteF back (ts.drop i) i = siteF back ts 0 ∧ St w [(B1, [.slice va vl vc, .slice pa pl pc, .slice ea el ec, .slice xa xl xc, .int .i64 mn, .slice oa ol oc, .slice sa sl sc, .slice ta tl tc, .slice na nl nc, .slice ka kl kc], 29)] [] [] W) (tl - 0) ([(1, _), (2, _), (5, _)]) ⟨rfl, rfl, rfl, trivial⟩ (⟨0, Nat.zero_le _, rfl, rfl, rfl, hS.clear⟩) ?_
  clear hS
  rintro m l W ⟨i, hi, rfl, rfl, hrun, hS⟩
  refine seqF ?_
  refine seqF ?_
  refine regF ?_
  refine op_move rfl rfl ?_
  refine op_field (o' := 7) fa_29_7 rfl rfl rfl ?_
  refine op_load Try.isAgg25 rfl (cell_own (hS.at_ 0 rfl) rfl) rfl ?_
  refine op_len Try.underlying25 rfl rfl ?_
  refine op_lss rfl rfl rfl ?_
  refine endF ?_
  refine XF.thenN ?_
  refine condF rfl (fun hc => ?_) (fun hc => ?_)
  · have hc10 := of_decide_eq_true hc; clear hc
    have hk1 : i < tl := by omega
    obtain ⟨b, off, u, rfl, hy, hyc⟩ := ht.get (i := i) (by omega)
    have k1 := (CellsAt.agree hS.agree (Nat.zero_le _) hyc).2.2.2.1
    rw [drop_at hy] at hrun
    simp only [siteF] at hrun
    refine skipF ?_
    refine XF.thenN ?_
    refine seqF ?_
    refine blockF ?_
    refine seqF ?_
    refine regF ?_
    refine op_field (o' := 7) fa_29_7 rfl rfl rfl ?_
    refine op_load Try.isAgg25 rfl (cell_own (hS.at_ 0 rfl) rfl) rfl ?_
    refine op_move rfl rfl ?_
    refine op_indexA  Try.underlying25 Try.sizeOf47 rfl rfl rfl (by omega) rfl rfl ?_
    refine op_field fa_47_3 rfl rfl rfl ?_
    refine op_load Try.isAgg3 rfl (k1) rfl ?_
    refine op_move rfl rfl ?_
    refine op_eql rfl rfl rfl ?_
    refine endF ?_
    refine XF.thenN ?_
    refine condF rfl (fun hc => ?_) (fun hc => ?_)
    · have hc20 := of_decide_eq_true hc; clear hc
      rw [if_pos hc20] at hrun
      refine seqF ?_
      refine regF ?_
      refine op_move rfl rfl ?_
      refine op_assign rfl rfl ?_
      refine endF ?_
      refine XF.thenN ?_
      refine retF ?_
      refine XF.blkR ?_
      refine XF.thenR ?_
      refine XF.thenR ?_
      refine XF.blkR ?_
      refine XF.thenR ?_
      refine XF.res (res1 Try.results18 rfl) ?_
      exact ⟨rint hrun, hS.below⟩
    · have hc20 := of_decide_eq_false hc; clear hc
      rw [if_neg hc20] at hrun
      refine skipF ?_
      refine XF.blkN ?_
      refine XF.thenN ?_
      refine regF ?_
      refine op_move rfl rfl ?_
      refine op_add rfl rfl (IntWalk.i64_in _ (by omega)) rfl ?_
      refine op_assign rfl rfl ?_
      refine endF ?_
      exact XF.round (tl - (i + 1)) [(1, _), (2, _), (5, _)] (by omega) ⟨rfl, rfl, rfl, trivial⟩ ⟨i + 1, by omega, rfl, rfl, hrun, hS.clear⟩
  · have hc10 := of_decide_eq_false hc; clear hc
    rw [List.drop_of_length_le (by omega)] at hrun
    simp only [siteF] at hrun
    refine exitF ?_
    refine XF.thenX ?_
    refine XF.thenX ?_
    refine XF.blkX ?_
    refine XF.thenN ?_
    refine seqF ?_
    refine regF ?_
    refine op_assign rfl rfl ?_
    refine endF ?_
    refine XF.thenN ?_
    refine retF ?_
    refine XF.res (res1 Try.results18 rfl) ?_
    exact ⟨rint hrun, hS.below⟩

set_option maxRecDepth 100000 in
set_option maxHeartbeats 4000000 in
theorem sitesR_c (va : Option Addr) (vl : Nat) (vc : Nat) (pa : Option Addr) (pl : Nat) (pc : Nat) (ea : Option Addr) (el : Nat) (ec : Nat) (es : List Int) (xa : Option Addr) (xl : Nat) (xc : Nat) (xs : List Int) (mn : Int) (oa : Option Addr) (ol : Nat) (oc : Nat) (os : List Int) (sa : Option Addr) (sl : Nat) (sc : Nat) (ss : List TV) (ta : Option Addr) (tl : Nat) (tc : Nat) (ts : List UV) (na : Option Addr) (nl : Nat) (nc : Nat) (ns : List NV) (ka : Option Addr) (kl : Nat) (kc : Nat) (ks : List KV) (w : World) (he : RowI w ea es) (hel : es.length = el) (hx : RowI w xa xs) (hxl : xs.length = xl) (ho : RowI w oa os) (hol : os.length = ol) (hs : RowL TV.sev 7 w sa ss) (hsl : ss.length = sl) (ht : RowL UV.four 4 w ta ts) (htl : ts.length = tl) (hn : RowL NV.two 2 w na ns) (hnl : ns.length = nl) (hk : RowL KV.two 2 w ka ks) (hkl : ks.length = kl) (b1 : vl ≤ 5000) (b2 : pl ≤ 5000) (b3 : el ≤ 5000) (b4 : xl ≤ 5000) (b5 : ol ≤ 5000) (b6 : sl ≤ 5000) (b7 : tl ≤ 5000) (b8 : nl ≤ 5000) (b9 : kl ≤ 5000) (p : Int) (wa : Option Addr) (wl wc : Nat) (ws : List Int) (hrw : RowI w wa ws) (hwl : ws.length = wl) (hwc : wl ≤ wc) :
    Calls Try.prog 10 #[.agg #[.slice va vl vc, .slice pa pl pc, .slice ea el ec, .slice xa xl xc, .int .i64 mn, .slice oa ol oc, .slice sa sl sc, .slice ta tl tc, .slice na nl nc, .slice ka kl kc], .agg #[.int .i64 p, .slice wa wl wc]] w (SitesRet (sitesE ⟨va, vl, vc, pa, pl, pc, ea, el, ec, es, xa, xl, xc, xs, mn, oa, ol, oc, os, sa, sl, sc, ss, ta, tl, tc, ts, na, nl, nc, ns, ka, kl, kc, ks⟩ p ws) w) := by
  refine enterF (args := [.agg #[.slice va vl vc, .slice pa pl pc, .slice ea el ec, .slice xa xl xc, .int .i64 mn, .slice oa ol oc, .slice sa sl sc, .slice ta tl tc, .slice na nl nc, .slice ka kl kc], .agg #[.int .i64 p, .slice wa wl wc]]) Try.func10 rfl Try.ntmps10 rfl ?_
  have hS := St.start w
  refine seqF ?_
  refine regF ?_
  refine op_box (cs := [_, _, _, _, _, _, _, _, _, _]) hS rfl rfl rfl ?_
  clear hS; intro B1 W1 hS
  refine op_box (cs := [_, _]) hS rfl rfl rfl ?_
  clear hS; intro B2 W2 hS
  refine op_assign rfl rfl ?_
  refine op_assign rfl rfl ?_
  refine op_assign rfl rfl ?_
  refine endF ?_
  refine XF.thenN ?_
  refine seqF ?_
  refine regF ?_
  refine op_loadA (vs := [_, _, _, _, _, _, _, _, _, _]) Try.isAgg29 Try.sizeOf29 rfl (CellsAt.own (j := 0) (m := 10) (hS.at_ 1 rfl) rfl) rfl ?_
  refine op_call (vs := [_]) hS goes_16 rfl (checkR_c _ vl vc _ pl pc _ el ec es _ xl xc xs mn _ ol oc os _ sl sc ss _ tl tc ts _ nl nc ns _ kl kc ks  _ (he.below hS.below) hel (hx.below hS.below) hxl (ho.below hS.below) hol (hs.below hS.below) hsl (ht.below hS.below) htl (hn.below hS.below) hnl (hk.below hS.below) hkl b1 b2 b3 b4 b5 b6 b7 b8 b9) rfl ?_
  rintro e W3 ⟨rfl, hb⟩
  refine ⟨_, rfl, hb, fun hS' => ?_⟩
  clear hS; have hS := hS'; clear hS' hb
  refine op_assign rfl rfl ?_
  refine endF ?_
  refine XF.thenN ?_
  refine seqF ?_
  refine seqF ?_
  refine regF ?_
  refine op_move rfl rfl ?_
  refine op_neq rfl rfl rfl ?_
  refine endF ?_
  refine XF.thenN ?_
  refine condF rfl (fun hc => ?_) (fun hc => ?_)
  · have hc14 := of_decide_eq_true hc; clear hc
    have hce : checkE ⟨va, vl, vc, pa, pl, pc, ea, el, ec, es, xa, xl, xc, xs, mn, oa, ol, oc, os, sa, sl, sc, ss, ta, tl, tc, ts, na, nl, nc, ns, ka, kl, kc, ks⟩ ≠ 0 := hc14
    refine seqF ?_
    refine regF ?_
    refine op_move rfl rfl ?_
    refine op_assign rfl rfl ?_
    refine op_assign rfl rfl ?_
    refine op_assign rfl rfl ?_
    refine endF ?_
    refine XF.thenN ?_
    refine retF ?_
    refine XF.thenR ?_
    refine XF.res (res3 Try.results10 rfl rfl rfl) ?_
    exact sitesRet_bad hS.below (by unfold sitesE; rw [if_pos hce]) hce
  · have hc14 := of_decide_eq_false hc; clear hc
    have hce : checkE ⟨va, vl, vc, pa, pl, pc, ea, el, ec, es, xa, xl, xc, xs, mn, oa, ol, oc, os, sa, sl, sc, ss, ta, tl, tc, ts, na, nl, nc, ns, ka, kl, kc, ks⟩ = 0 := Decidable.of_not_not hc14
    have hbk := backs_in (g := ⟨va, vl, vc, pa, pl, pc, ea, el, ec, es, xa, xl, xc, xs, mn, oa, ol, oc, os, sa, sl, sc, ss, ta, tl, tc, ts, na, nl, nc, ns, ka, kl, kc, ks⟩) htl hce
    refine skipF ?_
    refine XF.thenN ?_
    refine seqF ?_
    refine seqF ?_
    rcases (sites_cases p ws wl ol hwl) with hp0 | ⟨hp0, hw1⟩ | ⟨hp0, hw1, hw4⟩ | ⟨hp0, hw1, hw4, n0, r0, rfl, hn0 | ⟨hn0, hno⟩ | ⟨hn0, hno⟩⟩
    · skip
      refine regB (m := 32) followsM hS (by kernel_rfl) (by kernel_rfl) rfl ?_
      refine bl_cons 1 rfl (isV _) (stab_isV _) (rgV (li := [(3, _)]) rfl (w_free rfl) ⟨g_fr (by kernel_rfl) rfl, trivial⟩ (fun w hw => rn_field (o' := 0) fa_31_0 rfl rfl) (at_top rfl)) ?_
      refine bl_cons 2 rfl (isV _) (stab_isV _) (rgV (li := [(16, _)]) rfl (w_free rfl) ⟨g_dep 0 (by kernel_rfl) (at_dep rfl rfl rfl), trivial⟩ (fun w hw => rn_load Try.isAgg3 rfl ((below_agree hw 0).cell (Nat.zero_le _) (cell_own (hS.at_ 0 rfl) rfl))) (at_top rfl)) ?_
      refine bl_cons 3 rfl (isV (.bool true)) (stab_isV _) (rgVe (li := [(17, _)]) rfl (w_free rfl) ⟨g_dep 1 (by kernel_rfl) (at_dep rfl rfl rfl), trivial⟩ (fun w hw => rn_neq rfl rfl) (by rw [decide_eq_true hp0]) (at_top rfl)) ?_
      refine bl_cons 4 rfl (isV _) (stab_isV _) (rgV (li := [(18, _)]) rfl (w_free rfl) ⟨g_dep 2 (by kernel_rfl) (at_dep rfl rfl rfl), trivial⟩ (fun w hw => rn_move rfl) (at_top rfl)) ?_
      refine bl_cons 5 rfl (isV undef) (stab_isV _) (rg_no rfl (w_no 19 rfl (by kernel_rfl) (by kernel_rfl) (at_dep rfl rfl rfl) rfl) (at_top rfl)) ?_
      refine bl_cons 6 rfl (isV undef) (stab_isV _) (rg_no rfl (w_no 19 rfl (by kernel_rfl) (by kernel_rfl) (at_dep rfl rfl rfl) rfl) (at_top rfl)) ?_
      refine bl_cons 7 rfl (isV undef) (stab_isV _) (rg_no rfl (w_no 19 rfl (by kernel_rfl) (by kernel_rfl) (at_dep rfl rfl rfl) rfl) (at_top rfl)) ?_
      refine bl_cons 8 rfl (isV undef) (stab_isV _) (rg_no rfl (w_no 19 rfl (by kernel_rfl) (by kernel_rfl) (at_dep rfl rfl rfl) rfl) (at_top rfl)) ?_
      refine bl_cons 9 rfl (isV _) (stab_isV _) (rgV (li := [(19, _)]) rfl (w_free rfl) ⟨g_dep 3 (by kernel_rfl) (at_dep rfl rfl rfl), trivial⟩ (fun w hw => rn_pickT rfl rfl) (at_top rfl)) ?_
      refine bl_cons 10 rfl (isV _) (stab_isV _) (rgV (li := [(24, _)]) rfl (w_free rfl) ⟨g_dep 8 (by kernel_rfl) (at_dep rfl rfl rfl), trivial⟩ (fun w hw => rn_move rfl) (at_top rfl)) ?_
      refine bl_cons 11 rfl (isV undef) (stab_isV _) (rg_no rfl (w_no 25 rfl (by kernel_rfl) (by kernel_rfl) (at_dep rfl rfl rfl) rfl) (at_top rfl)) ?_
      refine bl_cons 12 rfl (isV undef) (stab_isV _) (rg_no rfl (w_no 25 rfl (by kernel_rfl) (by kernel_rfl) (at_dep rfl rfl rfl) rfl) (at_top rfl)) ?_
      refine bl_cons 13 rfl (isV undef) (stab_isV _) (rg_no rfl (w_no 25 rfl (by kernel_rfl) (by kernel_rfl) (at_dep rfl rfl rfl) rfl) (at_top rfl)) ?_
      refine bl_cons 14 rfl (isV undef) (stab_isV _) (rg_no rfl (w_no 25 rfl (by kernel_rfl) (by kernel_rfl) (at_dep rfl rfl rfl) rfl) (at_top rfl)) ?_
      refine bl_cons 15 rfl (isV _) (stab_isV _) (rgV (li := [(25, _)]) rfl (w_free rfl) ⟨g_dep 9 (by kernel_rfl) (at_dep rfl rfl rfl), trivial⟩ (fun w hw => rn_pickT rfl rfl) (at_top rfl)) ?_
      refine bl_cons 16 rfl (isV _) (stab_isV _) (rgV (li := [(30, _)]) rfl (w_free rfl) ⟨g_dep 14 (by kernel_rfl) (at_dep rfl rfl rfl), trivial⟩ (fun w hw => rn_move rfl) (at_top rfl)) ?_
      refine bl_cons 17 rfl (isV undef) (stab_isV _) (rg_no rfl (w_no 31 rfl (by kernel_rfl) (by kernel_rfl) (at_dep rfl rfl rfl) rfl) (at_top rfl)) ?_
      refine bl_cons 18 rfl (isV undef) (stab_isV _) (rg_no rfl (w_no 31 rfl (by kernel_rfl) (by kernel_rfl) (at_dep rfl rfl rfl) rfl) (at_top rfl)) ?_
      refine bl_cons 19 rfl (isV undef) (stab_isV _) (rg_no rfl (w_no 31 rfl (by kernel_rfl) (by kernel_rfl) (at_dep rfl rfl rfl) rfl) (at_top rfl)) ?_
      refine bl_cons 20 rfl (isV undef) (stab_isV _) (rg_no rfl (w_no 31 rfl (by kernel_rfl) (by kernel_rfl) (at_dep rfl rfl rfl) rfl) (at_top rfl)) ?_
      refine bl_cons 21 rfl (isV undef) (stab_isV _) (rg_no rfl (w_no 31 rfl (by kernel_rfl) (by kernel_rfl) (at_dep rfl rfl rfl) rfl) (at_top rfl)) ?_
      refine bl_cons 22 rfl (isV _) (stab_isV _) (rgV (li := [(31, _)]) rfl (w_free rfl) ⟨g_dep 15 (by kernel_rfl) (at_dep rfl rfl rfl), trivial⟩ (fun w hw => rn_pickT rfl rfl) (at_top rfl)) ?_
      refine bl_cons 23 rfl (isV _) (stab_isV _) (rgV (li := [(37, _)]) rfl (w_free rfl) ⟨g_dep 21 (by kernel_rfl) (at_dep rfl rfl rfl), trivial⟩ (fun w hw => rn_move rfl) (at_top rfl)) ?_
      refine bl_cons 24 rfl (isV undef) (stab_isV _) (rg_no rfl (w_no 38 rfl (by kernel_rfl) (by kernel_rfl) (at_dep rfl rfl rfl) rfl) (at_top rfl)) ?_
      refine bl_cons 25 rfl (isV undef) (stab_isV _) (rg_no rfl (w_no 38 rfl (by kernel_rfl) (by kernel_rfl) (at_dep rfl rfl rfl) rfl) (at_top rfl)) ?_
      refine bl_cons 26 rfl (isV undef) (stab_isV _) (rg_no rfl (w_no 38 rfl (by kernel_rfl) (by kernel_rfl) (at_dep rfl rfl rfl) rfl) (at_top rfl)) ?_
      refine bl_cons 27 rfl (isV undef) (stab_isV _) (rg_no rfl (w_no 38 rfl (by kernel_rfl) (by kernel_rfl) (at_dep rfl rfl rfl) rfl) (at_top rfl)) ?_
      refine bl_cons 28 rfl (isV undef) (stab_isV _) (rg_no rfl (w_no 38 rfl (by kernel_rfl) (by kernel_rfl) (at_dep rfl rfl rfl) rfl) (at_top rfl)) ?_
      refine bl_cons 29 rfl (isV undef) (stab_isV _) (rg_no rfl (w_no 38 rfl (by kernel_rfl) (by kernel_rfl) (at_dep rfl rfl rfl) rfl) (at_top rfl)) ?_
      refine bl_cons 30 rfl (isV undef) (stab_isV _) (rg_no rfl (w_no 38 rfl (by kernel_rfl) (by kernel_rfl) (at_dep rfl rfl rfl) rfl) (at_top rfl)) ?_
      refine bl_cons 31 rfl (isV undef) (stab_isV _) (rg_no rfl (w_no 38 rfl (by kernel_rfl) (by kernel_rfl) (at_dep rfl rfl rfl) rfl) (at_top rfl)) ?_
      refine bl_cons 32 rfl (isV _) (stab_isV _) (rgV (li := [(38, _)]) rfl (w_free rfl) ⟨g_dep 22 (by kernel_rfl) (at_dep rfl rfl rfl), trivial⟩ (fun w hw => rn_pickT rfl rfl) (at_top rfl)) ?_
      refine bl_nil ?_
      intro W4 hbR hS'
      clear hS; have hS := hS'; clear hS'
      refine fin_v ?_
      refine fin_v ?_
      refine fin_v ?_
      refine fin_v ?_
      refine fin_v ?_
      refine fin_v ?_
      refine fin_v ?_
      refine fin_v ?_
      refine fin_v ?_
      refine fin_v ?_
      refine fin_v ?_
      refine fin_v ?_
      refine fin_v ?_
      refine fin_v ?_
      refine fin_v ?_
      refine fin_v ?_
      refine fin_v ?_
      refine fin_v ?_
      refine fin_v ?_
      refine fin_v ?_
      refine fin_v ?_
      refine fin_v ?_
      refine fin_v ?_
      refine fin_v ?_
      refine fin_v ?_
      refine fin_v ?_
      refine fin_v ?_
      refine fin_v ?_
      refine fin_v ?_
      refine fin_v ?_
      refine fin_v ?_
      refine fin_v ?_
      refine fin_nil ?_
      refine XF.thenN ?_
      refine condT rfl ?_
      refine seqF ?_
      refine regF ?_
      refine op_assign rfl rfl ?_
      refine op_assign rfl rfl ?_
      refine op_assign rfl rfl ?_
      refine endF ?_
      refine XF.thenN ?_
      refine retF ?_
      refine XF.thenR ?_
      refine XF.res (res3 Try.results10 rfl rfl rfl) ?_
      exact sitesRet_bad hS.below (by unfold sitesE; dsimp only; rw [if_neg (by rw [hce]; simp)]; cases ws with | nil => rfl | cons n r => exact if_pos (.inl hp0)) (by decide)
    · skip
      refine regB (m := 32) followsM hS (by kernel_rfl) (by kernel_rfl) rfl ?_
      refine bl_cons 1 rfl (isV _) (stab_isV _) (rgV (li := [(3, _)]) rfl (w_free rfl) ⟨g_fr (by kernel_rfl) rfl, trivial⟩ (fun w hw => rn_field (o' := 0) fa_31_0 rfl rfl) (at_top rfl)) ?_
      refine bl_cons 2 rfl (isV _) (stab_isV _) (rgV (li := [(16, _)]) rfl (w_free rfl) ⟨g_dep 0 (by kernel_rfl) (at_dep rfl rfl rfl), trivial⟩ (fun w hw => rn_load Try.isAgg3 rfl ((below_agree hw 0).cell (Nat.zero_le _) (cell_own (hS.at_ 0 rfl) rfl))) (at_top rfl)) ?_
      refine bl_cons 3 rfl (isV (.bool false)) (stab_isV _) (rgVe (li := [(17, _)]) rfl (w_free rfl) ⟨g_dep 1 (by kernel_rfl) (at_dep rfl rfl rfl), trivial⟩ (fun w hw => rn_neq rfl rfl) (by rw [decide_eq_false (not_not_intro hp0)]) (at_top rfl)) ?_
      refine bl_cons 4 rfl (isV _) (stab_isV _) (rgV (li := [(18, _)]) rfl (w_free rfl) ⟨g_dep 2 (by kernel_rfl) (at_dep rfl rfl rfl), trivial⟩ (fun w hw => rn_move rfl) (at_top rfl)) ?_
      refine bl_cons 5 rfl (isV _) (stab_isV _) (rgV (li := [(3, _)]) rfl (w_yes 19 rfl (by kernel_rfl) (by kernel_rfl) (at_dep rfl rfl rfl)) ⟨g_fr (by kernel_rfl) rfl, trivial⟩ (fun w hw => rn_field (o' := 1) fa_31_1 rfl rfl) (at_top rfl)) ?_
      refine bl_cons 6 rfl (isV _) (stab_isV _) (rgV (li := [(20, _)]) rfl (w_yes 19 rfl (by kernel_rfl) (by kernel_rfl) (at_dep rfl rfl rfl)) ⟨g_dep 4 (by kernel_rfl) (at_dep rfl rfl rfl), trivial⟩ (fun w hw => rn_load Try.isAgg23 rfl ((below_agree hw 0).cell (Nat.zero_le _) (cell_own (hS.at_ 0 rfl) rfl))) (at_top rfl)) ?_
      refine bl_cons 7 rfl (isV _) (stab_isV _) (rgV (li := [(21, _)]) rfl (w_yes 19 rfl (by kernel_rfl) (by kernel_rfl) (at_dep rfl rfl rfl)) ⟨g_dep 5 (by kernel_rfl) (at_dep rfl rfl rfl), trivial⟩ (fun w hw => rn_len Try.underlying23 rfl) (at_top rfl)) ?_
      refine bl_cons 8 rfl (isV (.bool true)) (stab_isV _) (rgVe (li := [(22, _)]) rfl (w_yes 19 rfl (by kernel_rfl) (by kernel_rfl) (at_dep rfl rfl rfl)) ⟨g_dep 6 (by kernel_rfl) (at_dep rfl rfl rfl), trivial⟩ (fun w hw => rn_lss rfl rfl) (by rw [decide_eq_true (by omega)]) (at_top rfl)) ?_
      refine bl_cons 9 rfl (isV _) (stab_isV _) (rgV (li := [(19, _), (23, _)]) rfl (w_free rfl) ⟨g_dep 3 (by kernel_rfl) (at_dep rfl rfl rfl), g_dep 7 (by kernel_rfl) (at_dep rfl rfl rfl), trivial⟩ (fun w hw => rn_pickF rfl rfl) (at_top rfl)) ?_
      refine bl_cons 10 rfl (isV _) (stab_isV _) (rgV (li := [(24, _)]) rfl (w_free rfl) ⟨g_dep 8 (by kernel_rfl) (at_dep rfl rfl rfl), trivial⟩ (fun w hw => rn_move rfl) (at_top rfl)) ?_
      refine bl_cons 11 rfl (isV undef) (stab_isV _) (rg_no rfl (w_no 25 rfl (by kernel_rfl) (by kernel_rfl) (at_dep rfl rfl rfl) rfl) (at_top rfl)) ?_
      refine bl_cons 12 rfl (isV undef) (stab_isV _) (rg_no rfl (w_no 25 rfl (by kernel_rfl) (by kernel_rfl) (at_dep rfl rfl rfl) rfl) (at_top rfl)) ?_
      refine bl_cons 13 rfl (isV undef) (stab_isV _) (rg_no rfl (w_no 25 rfl (by kernel_rfl) (by kernel_rfl) (at_dep rfl rfl rfl) rfl) (at_top rfl)) ?_
      refine bl_cons 14 rfl (isV undef) (stab_isV _) (rg_no rfl (w_no 25 rfl (by kernel_rfl) (by kernel_rfl) (at_dep rfl rfl rfl) rfl) (at_top rfl)) ?_
      refine bl_cons 15 rfl (isV _) (stab_isV _) (rgV (li := [(25, _)]) rfl (w_free rfl) ⟨g_dep 9 (by kernel_rfl) (at_dep rfl rfl rfl), trivial⟩ (fun w hw => rn_pickT rfl rfl) (at_top rfl)) ?_
      refine bl_cons 16 rfl (isV _) (stab_isV _) (rgV (li := [(30, _)]) rfl (w_free rfl) ⟨g_dep 14 (by kernel_rfl) (at_dep rfl rfl rfl), trivial⟩ (fun w hw => rn_move rfl) (at_top rfl)) ?_
      refine bl_cons 17 rfl (isV undef) (stab_isV _) (rg_no rfl (w_no 31 rfl (by kernel_rfl) (by kernel_rfl) (at_dep rfl rfl rfl) rfl) (at_top rfl)) ?_
      refine bl_cons 18 rfl (isV undef) (stab_isV _) (rg_no rfl (w_no 31 rfl (by kernel_rfl) (by kernel_rfl) (at_dep rfl rfl rfl) rfl) (at_top rfl)) ?_
      refine bl_cons 19 rfl (isV undef) (stab_isV _) (rg_no rfl (w_no 31 rfl (by kernel_rfl) (by kernel_rfl) (at_dep rfl rfl rfl) rfl) (at_top rfl)) ?_
      refine bl_cons 20 rfl (isV undef) (stab_isV _) (rg_no rfl (w_no 31 rfl (by kernel_rfl) (by kernel_rfl) (at_dep rfl rfl rfl) rfl) (at_top rfl)) ?_
      refine bl_cons 21 rfl (isV undef) (stab_isV _) (rg_no rfl (w_no 31 rfl (by kernel_rfl) (by kernel_rfl) (at_dep rfl rfl rfl) rfl) (at_top rfl)) ?_
      refine bl_cons 22 rfl (isV _) (stab_isV _) (rgV (li := [(31, _)]) rfl (w_free rfl) ⟨g_dep 15 (by kernel_rfl) (at_dep rfl rfl rfl), trivial⟩ (fun w hw => rn_pickT rfl rfl) (at_top rfl)) ?_
      refine bl_cons 23 rfl (isV _) (stab_isV _) (rgV (li := [(37, _)]) rfl (w_free rfl) ⟨g_dep 21 (by kernel_rfl) (at_dep rfl rfl rfl), trivial⟩ (fun w hw => rn_move rfl) (at_top rfl)) ?_
      refine bl_cons 24 rfl (isV undef) (stab_isV _) (rg_no rfl (w_no 38 rfl (by kernel_rfl) (by kernel_rfl) (at_dep rfl rfl rfl) rfl) (at_top rfl)) ?_
      refine bl_cons 25 rfl (isV undef) (stab_isV _) (rg_no rfl (w_no 38 rfl (by kernel_rfl) (by kernel_rfl) (at_dep rfl rfl rfl) rfl) (at_top rfl)) ?_
      refine bl_cons 26 rfl (isV undef) (stab_isV _) (rg_no rfl (w_no 38 rfl (by kernel_rfl) (by kernel_rfl) (at_dep rfl rfl rfl) rfl) (at_top rfl)) ?_
      refine bl_cons 27 rfl (isV undef) (stab_isV _) (rg_no rfl (w_no 38 rfl (by kernel_rfl) (by kernel_rfl) (at_dep rfl rfl rfl) rfl) (at_top rfl)) ?_
      refine bl_cons 28 rfl (isV undef) (stab_isV _) (rg_no rfl (w_no 38 rfl (by kernel_rfl) (by kernel_rfl) (at_dep rfl rfl rfl) rfl) (at_top rfl)) ?_
      refine bl_cons 29 rfl (isV undef) (stab_isV _) (rg_no rfl (w_no 38 rfl (by kernel_rfl) (by kernel_rfl) (at_dep rfl rfl rfl) rfl) (at_top rfl)) ?_
      refine bl_cons 30 rfl (isV undef) (stab_isV _) (rg_no rfl (w_no 38 rfl (by kernel_rfl) (by kernel_rfl) (at_dep rfl rfl rfl) rfl) (at_top rfl)) ?_
      refine bl_cons 31 rfl (isV undef) (stab_isV _) (rg_no rfl (w_no 38 rfl (by kernel_rfl) (by kernel_rfl) (at_dep rfl rfl rfl) rfl) (at_top rfl)) ?_
      refine bl_cons 32 rfl (isV _) (stab_isV _) (rgV (li := [(38, _)]) rfl (w_free rfl) ⟨g_dep 22 (by kernel_rfl) (at_dep rfl rfl rfl), trivial⟩ (fun w hw => rn_pickT rfl rfl) (at_top rfl)) ?_
      refine bl_nil ?_
      intro W5 hbR hS'
      clear hS; have hS := hS'; clear hS'
      refine fin_v ?_
      refine fin_v ?_
      refine fin_v ?_
      refine fin_v ?_
      refine fin_v ?_
      refine fin_v ?_
      refine fin_v ?_
      refine fin_v ?_
      refine fin_v ?_
      refine fin_v ?_
      refine fin_v ?_
      refine fin_v ?_
      refine fin_v ?_
      refine fin_v ?_
      refine fin_v ?_
      refine fin_v ?_
      refine fin_v ?_
      refine fin_v ?_
      refine fin_v ?_
      refine fin_v ?_
      refine fin_v ?_
      refine fin_v ?_
      refine fin_v ?_
      refine fin_v ?_
      refine fin_v ?_
      refine fin_v ?_
      refine fin_v ?_
      refine fin_v ?_
      refine fin_v ?_
      refine fin_v ?_
      refine fin_v ?_
      refine fin_v ?_
      refine fin_nil ?_
      refine XF.thenN ?_
      refine condT rfl ?_
      refine seqF ?_
      refine regF ?_
      refine op_assign rfl rfl ?_
      refine op_assign rfl rfl ?_
      refine op_assign rfl rfl ?_
      refine endF ?_
      refine XF.thenN ?_
      refine retF ?_
      refine XF.thenR ?_
      refine XF.res (res3 Try.results10 rfl rfl rfl) ?_
      exact sitesRet_bad hS.below (by unfold sitesE; dsimp only; rw [if_neg (by rw [hce]; simp)]; cases ws with | nil => rfl | cons n r => exact absurd hwl (by rw [List.length_cons]; omega)) (by decide)
    · skip
      refine regB (m := 32) followsM hS (by kernel_rfl) (by kernel_rfl) rfl ?_
      refine bl_cons 1 rfl (isV _) (stab_isV _) (rgV (li := [(3, _)]) rfl (w_free rfl) ⟨g_fr (by kernel_rfl) rfl, trivial⟩ (fun w hw => rn_field (o' := 0) fa_31_0 rfl rfl) (at_top rfl)) ?_
      refine bl_cons 2 rfl (isV _) (stab_isV _) (rgV (li := [(16, _)]) rfl (w_free rfl) ⟨g_dep 0 (by kernel_rfl) (at_dep rfl rfl rfl), trivial⟩ (fun w hw => rn_load Try.isAgg3 rfl ((below_agree hw 0).cell (Nat.zero_le _) (cell_own (hS.at_ 0 rfl) rfl))) (at_top rfl)) ?_
      refine bl_cons 3 rfl (isV (.bool false)) (stab_isV _) (rgVe (li := [(17, _)]) rfl (w_free rfl) ⟨g_dep 1 (by kernel_rfl) (at_dep rfl rfl rfl), trivial⟩ (fun w hw => rn_neq rfl rfl) (by rw [decide_eq_false (not_not_intro hp0)]) (at_top rfl)) ?_
      refine bl_cons 4 rfl (isV _) (stab_isV _) (rgV (li := [(18, _)]) rfl (w_free rfl) ⟨g_dep 2 (by kernel_rfl) (at_dep rfl rfl rfl), trivial⟩ (fun w hw => rn_move rfl) (at_top rfl)) ?_
      refine bl_cons 5 rfl (isV _) (stab_isV _) (rgV (li := [(3, _)]) rfl (w_yes 19 rfl (by kernel_rfl) (by kernel_rfl) (at_dep rfl rfl rfl)) ⟨g_fr (by kernel_rfl) rfl, trivial⟩ (fun w hw => rn_field (o' := 1) fa_31_1 rfl rfl) (at_top rfl)) ?_
      refine bl_cons 6 rfl (isV _) (stab_isV _) (rgV (li := [(20, _)]) rfl (w_yes 19 rfl (by kernel_rfl) (by kernel_rfl) (at_dep rfl rfl rfl)) ⟨g_dep 4 (by kernel_rfl) (at_dep rfl rfl rfl), trivial⟩ (fun w hw => rn_load Try.isAgg23 rfl ((below_agree hw 0).cell (Nat.zero_le _) (cell_own (hS.at_ 0 rfl) rfl))) (at_top rfl)) ?_
      refine bl_cons 7 rfl (isV _) (stab_isV _) (rgV (li := [(21, _)]) rfl (w_yes 19 rfl (by kernel_rfl) (by kernel_rfl) (at_dep rfl rfl rfl)) ⟨g_dep 5 (by kernel_rfl) (at_dep rfl rfl rfl), trivial⟩ (fun w hw => rn_len Try.underlying23 rfl) (at_top rfl)) ?_
      refine bl_cons 8 rfl (isV (.bool false)) (stab_isV _) (rgVe (li := [(22, _)]) rfl (w_yes 19 rfl (by kernel_rfl) (by kernel_rfl) (at_dep rfl rfl rfl)) ⟨g_dep 6 (by kernel_rfl) (at_dep rfl rfl rfl), trivial⟩ (fun w hw => rn_lss rfl rfl) (by rw [decide_eq_false (by omega)]) (at_top rfl)) ?_
      refine bl_cons 9 rfl (isV _) (stab_isV _) (rgV (li := [(19, _), (23, _)]) rfl (w_free rfl) ⟨g_dep 3 (by kernel_rfl) (at_dep rfl rfl rfl), g_dep 7 (by kernel_rfl) (at_dep rfl rfl rfl), trivial⟩ (fun w hw => rn_pickF rfl rfl) (at_top rfl)) ?_
      refine bl_cons 10 rfl (isV _) (stab_isV _) (rgV (li := [(24, _)]) rfl (w_free rfl) ⟨g_dep 8 (by kernel_rfl) (at_dep rfl rfl rfl), trivial⟩ (fun w hw => rn_move rfl) (at_top rfl)) ?_
      refine bl_cons 11 rfl (isV _) (stab_isV _) (rgV (li := [(3, _)]) rfl (w_yes 25 rfl (by kernel_rfl) (by kernel_rfl) (at_dep rfl rfl rfl)) ⟨g_fr (by kernel_rfl) rfl, trivial⟩ (fun w hw => rn_field (o' := 1) fa_31_1 rfl rfl) (at_top rfl)) ?_
      refine bl_cons 12 rfl (isV _) (stab_isV _) (rgV (li := [(26, _)]) rfl (w_yes 25 rfl (by kernel_rfl) (by kernel_rfl) (at_dep rfl rfl rfl)) ⟨g_dep 10 (by kernel_rfl) (at_dep rfl rfl rfl), trivial⟩ (fun w hw => rn_load Try.isAgg23 rfl ((below_agree hw 0).cell (Nat.zero_le _) (cell_own (hS.at_ 0 rfl) rfl))) (at_top rfl)) ?_
      refine bl_cons 13 rfl (isV _) (stab_isV _) (rgV (li := [(27, _)]) rfl (w_yes 25 rfl (by kernel_rfl) (by kernel_rfl) (at_dep rfl rfl rfl)) ⟨g_dep 11 (by kernel_rfl) (at_dep rfl rfl rfl), trivial⟩ (fun w hw => rn_len Try.underlying23 rfl) (at_top rfl)) ?_
      refine bl_cons 14 rfl (isV (.bool true)) (stab_isV _) (rgVe (li := [(28, _)]) rfl (w_yes 25 rfl (by kernel_rfl) (by kernel_rfl) (at_dep rfl rfl rfl)) ⟨g_dep 12 (by kernel_rfl) (at_dep rfl rfl rfl), trivial⟩ (fun w hw => rn_gtr rfl rfl) (by rw [decide_eq_true (by omega)]) (at_top rfl)) ?_
      refine bl_cons 15 rfl (isV _) (stab_isV _) (rgV (li := [(25, _), (29, _)]) rfl (w_free rfl) ⟨g_dep 9 (by kernel_rfl) (at_dep rfl rfl rfl), g_dep 13 (by kernel_rfl) (at_dep rfl rfl rfl), trivial⟩ (fun w hw => rn_pickF rfl rfl) (at_top rfl)) ?_
      refine bl_cons 16 rfl (isV _) (stab_isV _) (rgV (li := [(30, _)]) rfl (w_free rfl) ⟨g_dep 14 (by kernel_rfl) (at_dep rfl rfl rfl), trivial⟩ (fun w hw => rn_move rfl) (at_top rfl)) ?_
      refine bl_cons 17 rfl (isV undef) (stab_isV _) (rg_no rfl (w_no 31 rfl (by kernel_rfl) (by kernel_rfl) (at_dep rfl rfl rfl) rfl) (at_top rfl)) ?_
      refine bl_cons 18 rfl (isV undef) (stab_isV _) (rg_no rfl (w_no 31 rfl (by kernel_rfl) (by kernel_rfl) (at_dep rfl rfl rfl) rfl) (at_top rfl)) ?_
      refine bl_cons 19 rfl (isV undef) (stab_isV _) (rg_no rfl (w_no 31 rfl (by kernel_rfl) (by kernel_rfl) (at_dep rfl rfl rfl) rfl) (at_top rfl)) ?_
      refine bl_cons 20 rfl (isV undef) (stab_isV _) (rg_no rfl (w_no 31 rfl (by kernel_rfl) (by kernel_rfl) (at_dep rfl rfl rfl) rfl) (at_top rfl)) ?_
      refine bl_cons 21 rfl (isV undef) (stab_isV _) (rg_no rfl (w_no 31 rfl (by kernel_rfl) (by kernel_rfl) (at_dep rfl rfl rfl) rfl) (at_top rfl)) ?_
      refine bl_cons 22 rfl (isV _) (stab_isV _) (rgV (li := [(31, _)]) rfl (w_free rfl) ⟨g_dep 15 (by kernel_rfl) (at_dep rfl rfl rfl), trivial⟩ (fun w hw => rn_pickT rfl rfl) (at_top rfl)) ?_
      refine bl_cons 23 rfl (isV _) (stab_isV _) (rgV (li := [(37, _)]) rfl (w_free rfl) ⟨g_dep 21 (by kernel_rfl) (at_dep rfl rfl rfl), trivial⟩ (fun w hw => rn_move rfl) (at_top rfl)) ?_
      refine bl_cons 24 rfl (isV undef) (stab_isV _) (rg_no rfl (w_no 38 rfl (by kernel_rfl) (by kernel_rfl) (at_dep rfl rfl rfl) rfl) (at_top rfl)) ?_
      refine bl_cons 25 rfl (isV undef) (stab_isV _) (rg_no rfl (w_no 38 rfl (by kernel_rfl) (by kernel_rfl) (at_dep rfl rfl rfl) rfl) (at_top rfl)) ?_
      refine bl_cons 26 rfl (isV undef) (stab_isV _) (rg_no rfl (w_no 38 rfl (by kernel_rfl) (by kernel_rfl) (at_dep rfl rfl rfl) rfl) (at_top rfl)) ?_
      refine bl_cons 27 rfl (isV undef) (stab_isV _) (rg_no rfl (w_no 38 rfl (by kernel_rfl) (by kernel_rfl) (at_dep rfl rfl rfl) rfl) (at_top rfl)) ?_
      refine bl_cons 28 rfl (isV undef) (stab_isV _) (rg_no rfl (w_no 38 rfl (by kernel_rfl) (by kernel_rfl) (at_dep rfl rfl rfl) rfl) (at_top rfl)) ?_
      refine bl_cons 29 rfl (isV undef) (stab_isV _) (rg_no rfl (w_no 38 rfl (by kernel_rfl) (by kernel_rfl) (at_dep rfl rfl rfl) rfl) (at_top rfl)) ?_
      refine bl_cons 30 rfl (isV undef) (stab_isV _) (rg_no rfl (w_no 38 rfl (by kernel_rfl) (by kernel_rfl) (at_dep rfl rfl rfl) rfl) (at_top rfl)) ?_
      refine bl_cons 31 rfl (isV undef) (stab_isV _) (rg_no rfl (w_no 38 rfl (by kernel_rfl) (by kernel_rfl) (at_dep rfl rfl rfl) rfl) (at_top rfl)) ?_
      refine bl_cons 32 rfl (isV _) (stab_isV _) (rgV (li := [(38, _)]) rfl (w_free rfl) ⟨g_dep 22 (by kernel_rfl) (at_dep rfl rfl rfl), trivial⟩ (fun w hw => rn_pickT rfl rfl) (at_top rfl)) ?_
      refine bl_nil ?_
      intro W6 hbR hS'
      clear hS; have hS := hS'; clear hS'
      refine fin_v ?_
      refine fin_v ?_
      refine fin_v ?_
      refine fin_v ?_
      refine fin_v ?_
      refine fin_v ?_
      refine fin_v ?_
      refine fin_v ?_
      refine fin_v ?_
      refine fin_v ?_
      refine fin_v ?_
      refine fin_v ?_
      refine fin_v ?_
      refine fin_v ?_
      refine fin_v ?_
      refine fin_v ?_
      refine fin_v ?_
      refine fin_v ?_
      refine fin_v ?_
      refine fin_v ?_
      refine fin_v ?_
      refine fin_v ?_
      refine fin_v ?_
      refine fin_v ?_
      refine fin_v ?_
      refine fin_v ?_
      refine fin_v ?_
      refine fin_v ?_
      refine fin_v ?_
      refine fin_v ?_
      refine fin_v ?_
      refine fin_v ?_
      refine fin_nil ?_
      refine XF.thenN ?_
      refine condT rfl ?_
      refine seqF ?_
      refine regF ?_
      refine op_assign rfl rfl ?_
      refine op_assign rfl rfl ?_
      refine op_assign rfl rfl ?_
      refine endF ?_
      refine XF.thenN ?_
      refine retF ?_
      refine XF.thenR ?_
      refine XF.res (res3 Try.results10 rfl rfl rfl) ?_
      exact sitesRet_bad hS.below (by unfold sitesE; dsimp only; rw [if_neg (by rw [hce]; simp)]; cases ws with | nil => rfl | cons n r => exact if_pos (.inr (.inl (by rw [List.length_cons] at hwl; omega)))) (by decide)
    · rw [List.length_cons] at hwl
      obtain ⟨cb, co, n1, rfl, hn1, hnc⟩ := hrw.get (i := 0) (by simp)
      obtain rfl : n0 = n1 := Option.some.inj hn1
      have k1 : W3.cell? ⟨cb, co, none⟩ = some (.int .i64 n0) := (CellsAt.agree hS.agree (Nat.zero_le _) hnc).1
      refine regB (m := 32) followsM hS (by kernel_rfl) (by kernel_rfl) rfl ?_
      refine bl_cons 1 rfl (isV _) (stab_isV _) (rgV (li := [(3, _)]) rfl (w_free rfl) ⟨g_fr (by kernel_rfl) rfl, trivial⟩ (fun w hw => rn_field (o' := 0) fa_31_0 rfl rfl) (at_top rfl)) ?_
      refine bl_cons 2 rfl (isV _) (stab_isV _) (rgV (li := [(16, _)]) rfl (w_free rfl) ⟨g_dep 0 (by kernel_rfl) (at_dep rfl rfl rfl), trivial⟩ (fun w hw => rn_load Try.isAgg3 rfl ((below_agree hw 0).cell (Nat.zero_le _) (cell_own (hS.at_ 0 rfl) rfl))) (at_top rfl)) ?_
      refine bl_cons 3 rfl (isV (.bool false)) (stab_isV _) (rgVe (li := [(17, _)]) rfl (w_free rfl) ⟨g_dep 1 (by kernel_rfl) (at_dep rfl rfl rfl), trivial⟩ (fun w hw => rn_neq rfl rfl) (by rw [decide_eq_false (not_not_intro hp0)]) (at_top rfl)) ?_
      refine bl_cons 4 rfl (isV _) (stab_isV _) (rgV (li := [(18, _)]) rfl (w_free rfl) ⟨g_dep 2 (by kernel_rfl) (at_dep rfl rfl rfl), trivial⟩ (fun w hw => rn_move rfl) (at_top rfl)) ?_
      refine bl_cons 5 rfl (isV _) (stab_isV _) (rgV (li := [(3, _)]) rfl (w_yes 19 rfl (by kernel_rfl) (by kernel_rfl) (at_dep rfl rfl rfl)) ⟨g_fr (by kernel_rfl) rfl, trivial⟩ (fun w hw => rn_field (o' := 1) fa_31_1 rfl rfl) (at_top rfl)) ?_
      refine bl_cons 6 rfl (isV _) (stab_isV _) (rgV (li := [(20, _)]) rfl (w_yes 19 rfl (by kernel_rfl) (by kernel_rfl) (at_dep rfl rfl rfl)) ⟨g_dep 4 (by kernel_rfl) (at_dep rfl rfl rfl), trivial⟩ (fun w hw => rn_load Try.isAgg23 rfl ((below_agree hw 0).cell (Nat.zero_le _) (cell_own (hS.at_ 0 rfl) rfl))) (at_top rfl)) ?_
      refine bl_cons 7 rfl (isV _) (stab_isV _) (rgV (li := [(21, _)]) rfl (w_yes 19 rfl (by kernel_rfl) (by kernel_rfl) (at_dep rfl rfl rfl)) ⟨g_dep 5 (by kernel_rfl) (at_dep rfl rfl rfl), trivial⟩ (fun w hw => rn_len Try.underlying23 rfl) (at_top rfl)) ?_
      refine bl_cons 8 rfl (isV (.bool false)) (stab_isV _) (rgVe (li := [(22, _)]) rfl (w_yes 19 rfl (by kernel_rfl) (by kernel_rfl) (at_dep rfl rfl rfl)) ⟨g_dep 6 (by kernel_rfl) (at_dep rfl rfl rfl), trivial⟩ (fun w hw => rn_lss rfl rfl) (by rw [decide_eq_false (by omega)]) (at_top rfl)) ?_
      refine bl_cons 9 rfl (isV _) (stab_isV _) (rgV (li := [(19, _), (23, _)]) rfl (w_free rfl) ⟨g_dep 3 (by kernel_rfl) (at_dep rfl rfl rfl), g_dep 7 (by kernel_rfl) (at_dep rfl rfl rfl), trivial⟩ (fun w hw => rn_pickF rfl rfl) (at_top rfl)) ?_
      refine bl_cons 10 rfl (isV _) (stab_isV _) (rgV (li := [(24, _)]) rfl (w_free rfl) ⟨g_dep 8 (by kernel_rfl) (at_dep rfl rfl rfl), trivial⟩ (fun w hw => rn_move rfl) (at_top rfl)) ?_
      refine bl_cons 11 rfl (isV _) (stab_isV _) (rgV (li := [(3, _)]) rfl (w_yes 25 rfl (by kernel_rfl) (by kernel_rfl) (at_dep rfl rfl rfl)) ⟨g_fr (by kernel_rfl) rfl, trivial⟩ (fun w hw => rn_field (o' := 1) fa_31_1 rfl rfl) (at_top rfl)) ?_
      refine bl_cons 12 rfl (isV _) (stab_isV _) (rgV (li := [(26, _)]) rfl (w_yes 25 rfl (by kernel_rfl) (by kernel_rfl) (at_dep rfl rfl rfl)) ⟨g_dep 10 (by kernel_rfl) (at_dep rfl rfl rfl), trivial⟩ (fun w hw => rn_load Try.isAgg23 rfl ((below_agree hw 0).cell (Nat.zero_le _) (cell_own (hS.at_ 0 rfl) rfl))) (at_top rfl)) ?_
      refine bl_cons 13 rfl (isV _) (stab_isV _) (rgV (li := [(27, _)]) rfl (w_yes 25 rfl (by kernel_rfl) (by kernel_rfl) (at_dep rfl rfl rfl)) ⟨g_dep 11 (by kernel_rfl) (at_dep rfl rfl rfl), trivial⟩ (fun w hw => rn_len Try.underlying23 rfl) (at_top rfl)) ?_
      refine bl_cons 14 rfl (isV (.bool false)) (stab_isV _) (rgVe (li := [(28, _)]) rfl (w_yes 25 rfl (by kernel_rfl) (by kernel_rfl) (at_dep rfl rfl rfl)) ⟨g_dep 12 (by kernel_rfl) (at_dep rfl rfl rfl), trivial⟩ (fun w hw => rn_gtr rfl rfl) (by rw [decide_eq_false (by omega)]) (at_top rfl)) ?_
      refine bl_cons 15 rfl (isV _) (stab_isV _) (rgV (li := [(25, _), (29, _)]) rfl (w_free rfl) ⟨g_dep 9 (by kernel_rfl) (at_dep rfl rfl rfl), g_dep 13 (by kernel_rfl) (at_dep rfl rfl rfl), trivial⟩ (fun w hw => rn_pickF rfl rfl) (at_top rfl)) ?_
      refine bl_cons 16 rfl (isV _) (stab_isV _) (rgV (li := [(30, _)]) rfl (w_free rfl) ⟨g_dep 14 (by kernel_rfl) (at_dep rfl rfl rfl), trivial⟩ (fun w hw => rn_move rfl) (at_top rfl)) ?_
      refine bl_cons 17 rfl (isV _) (stab_isV _) (rgV (li := [(3, _)]) rfl (w_yes 31 rfl (by kernel_rfl) (by kernel_rfl) (at_dep rfl rfl rfl)) ⟨g_fr (by kernel_rfl) rfl, trivial⟩ (fun w hw => rn_field (o' := 1) fa_31_1 rfl rfl) (at_top rfl)) ?_
      refine bl_cons 18 rfl (isV _) (stab_isV _) (rgV (li := [(32, _)]) rfl (w_yes 31 rfl (by kernel_rfl) (by kernel_rfl) (at_dep rfl rfl rfl)) ⟨g_dep 16 (by kernel_rfl) (at_dep rfl rfl rfl), trivial⟩ (fun w hw => rn_load Try.isAgg23 rfl ((below_agree hw 0).cell (Nat.zero_le _) (cell_own (hS.at_ 0 rfl) rfl))) (at_top rfl)) ?_
      refine bl_cons 19 rfl (isV _) (stab_isV _) (rgV (li := [(33, _)]) rfl (w_yes 31 rfl (by kernel_rfl) (by kernel_rfl) (at_dep rfl rfl rfl)) ⟨g_dep 17 (by kernel_rfl) (at_dep rfl rfl rfl), trivial⟩ (fun w hw => rn_indexA (j := 0) Try.underlying23 Try.sizeOf3 rfl rfl rfl (by omega) (Nat.add_zero _)) (at_top rfl)) ?_
      refine bl_cons 20 rfl (isV _) (stab_isV _) (rgV (li := [(34, _)]) rfl (w_yes 31 rfl (by kernel_rfl) (by kernel_rfl) (at_dep rfl rfl rfl)) ⟨g_dep 18 (by kernel_rfl) (at_dep rfl rfl rfl), trivial⟩ (fun w hw => rn_load Try.isAgg3 rfl ((below_agree hw 0).cell (Nat.zero_le _) (k1))) (at_top rfl)) ?_
      refine bl_cons 21 rfl (isV (.bool true)) (stab_isV _) (rgVe (li := [(35, _)]) rfl (w_yes 31 rfl (by kernel_rfl) (by kernel_rfl) (at_dep rfl rfl rfl)) ⟨g_dep 19 (by kernel_rfl) (at_dep rfl rfl rfl), trivial⟩ (fun w hw => rn_lss rfl rfl) (by rw [decide_eq_true hn0]) (at_top rfl)) ?_
      refine bl_cons 22 rfl (isV _) (stab_isV _) (rgV (li := [(31, _), (36, _)]) rfl (w_free rfl) ⟨g_dep 15 (by kernel_rfl) (at_dep rfl rfl rfl), g_dep 20 (by kernel_rfl) (at_dep rfl rfl rfl), trivial⟩ (fun w hw => rn_pickF rfl rfl) (at_top rfl)) ?_
      refine bl_cons 23 rfl (isV _) (stab_isV _) (rgV (li := [(37, _)]) rfl (w_free rfl) ⟨g_dep 21 (by kernel_rfl) (at_dep rfl rfl rfl), trivial⟩ (fun w hw => rn_move rfl) (at_top rfl)) ?_
      refine bl_cons 24 rfl (isV undef) (stab_isV _) (rg_no rfl (w_no 38 rfl (by kernel_rfl) (by kernel_rfl) (at_dep rfl rfl rfl) rfl) (at_top rfl)) ?_
      refine bl_cons 25 rfl (isV undef) (stab_isV _) (rg_no rfl (w_no 38 rfl (by kernel_rfl) (by kernel_rfl) (at_dep rfl rfl rfl) rfl) (at_top rfl)) ?_
      refine bl_cons 26 rfl (isV undef) (stab_isV _) (rg_no rfl (w_no 38 rfl (by kernel_rfl) (by kernel_rfl) (at_dep rfl rfl rfl) rfl) (at_top rfl)) ?_
      refine bl_cons 27 rfl (isV undef) (stab_isV _) (rg_no rfl (w_no 38 rfl (by kernel_rfl) (by kernel_rfl) (at_dep rfl rfl rfl) rfl) (at_top rfl)) ?_
      refine bl_cons 28 rfl (isV undef) (stab_isV _) (rg_no rfl (w_no 38 rfl (by kernel_rfl) (by kernel_rfl) (at_dep rfl rfl rfl) rfl) (at_top rfl)) ?_
      refine bl_cons 29 rfl (isV undef) (stab_isV _) (rg_no rfl (w_no 38 rfl (by kernel_rfl) (by kernel_rfl) (at_dep rfl rfl rfl) rfl) (at_top rfl)) ?_
      refine bl_cons 30 rfl (isV undef) (stab_isV _) (rg_no rfl (w_no 38 rfl (by kernel_rfl) (by kernel_rfl) (at_dep rfl rfl rfl) rfl) (at_top rfl)) ?_
      refine bl_cons 31 rfl (isV undef) (stab_isV _) (rg_no rfl (w_no 38 rfl (by kernel_rfl) (by kernel_rfl) (at_dep rfl rfl rfl) rfl) (at_top rfl)) ?_
      refine bl_cons 32 rfl (isV _) (stab_isV _) (rgV (li := [(38, _)]) rfl (w_free rfl) ⟨g_dep 22 (by kernel_rfl) (at_dep rfl rfl rfl), trivial⟩ (fun w hw => rn_pickT rfl rfl) (at_top rfl)) ?_
      refine bl_nil ?_
      intro W7 hbR hS'
      clear hS; have hS := hS'; clear hS'
      refine fin_v ?_
      refine fin_v ?_
      refine fin_v ?_
      refine fin_v ?_
      refine fin_v ?_
      refine fin_v ?_
      refine fin_v ?_
      refine fin_v ?_
      refine fin_v ?_
      refine fin_v ?_
      refine fin_v ?_
      refine fin_v ?_
      refine fin_v ?_
      refine fin_v ?_
      refine fin_v ?_
      refine fin_v ?_
      refine fin_v ?_
      refine fin_v ?_
      refine fin_v ?_
      refine fin_v ?_
      refine fin_v ?_
      refine fin_v ?_
      refine fin_v ?_
      refine fin_v ?_
      refine fin_v ?_
      refine fin_v ?_
      refine fin_v ?_
      refine fin_v ?_
      refine fin_v ?_
      refine fin_v ?_
      refine fin_v ?_
      refine fin_v ?_
      refine fin_nil ?_
      refine XF.thenN ?_
      refine condT rfl ?_
      refine seqF ?_
      refine regF ?_
      refine op_assign rfl rfl ?_
      refine op_assign rfl rfl ?_
      refine op_assign rfl rfl ?_
      refine endF ?_
      refine XF.thenN ?_
      refine retF ?_
      refine XF.thenR ?_
      refine XF.res (res3 Try.results10 rfl rfl rfl) ?_
      exact sitesRet_bad hS.below (by unfold sitesE; dsimp only; rw [if_neg (by rw [hce]; simp)]; exact if_pos (.inr (.inr (inQ_neg hn0)))) (by decide)
    · rw [List.length_cons] at hwl
      obtain ⟨cb, co, n1, rfl, hn1, hnc⟩ := hrw.get (i := 0) (by simp)
      obtain rfl : n0 = n1 := Option.some.inj hn1
      have k1 : W3.cell? ⟨cb, co, none⟩ = some (.int .i64 n0) := (CellsAt.agree hS.agree (Nat.zero_le _) hnc).1
      refine regB (m := 32) followsM hS (by kernel_rfl) (by kernel_rfl) rfl ?_
      refine bl_cons 1 rfl (isV _) (stab_isV _) (rgV (li := [(3, _)]) rfl (w_free rfl) ⟨g_fr (by kernel_rfl) rfl, trivial⟩ (fun w hw => rn_field (o' := 0) fa_31_0 rfl rfl) (at_top rfl)) ?_
      refine bl_cons 2 rfl (isV _) (stab_isV _) (rgV (li := [(16, _)]) rfl (w_free rfl) ⟨g_dep 0 (by kernel_rfl) (at_dep rfl rfl rfl), trivial⟩ (fun w hw => rn_load Try.isAgg3 rfl ((below_agree hw 0).cell (Nat.zero_le _) (cell_own (hS.at_ 0 rfl) rfl))) (at_top rfl)) ?_
      refine bl_cons 3 rfl (isV (.bool false)) (stab_isV _) (rgVe (li := [(17, _)]) rfl (w_free rfl) ⟨g_dep 1 (by kernel_rfl) (at_dep rfl rfl rfl), trivial⟩ (fun w hw => rn_neq rfl rfl) (by rw [decide_eq_false (not_not_intro hp0)]) (at_top rfl)) ?_
      refine bl_cons 4 rfl (isV _) (stab_isV _) (rgV (li := [(18, _)]) rfl (w_free rfl) ⟨g_dep 2 (by kernel_rfl) (at_dep rfl rfl rfl), trivial⟩ (fun w hw => rn_move rfl) (at_top rfl)) ?_
      refine bl_cons 5 rfl (isV _) (stab_isV _) (rgV (li := [(3, _)]) rfl (w_yes 19 rfl (by kernel_rfl) (by kernel_rfl) (at_dep rfl rfl rfl)) ⟨g_fr (by kernel_rfl) rfl, trivial⟩ (fun w hw => rn_field (o' := 1) fa_31_1 rfl rfl) (at_top rfl)) ?_
      refine bl_cons 6 rfl (isV _) (stab_isV _) (rgV (li := [(20, _)]) rfl (w_yes 19 rfl (by kernel_rfl) (by kernel_rfl) (at_dep rfl rfl rfl)) ⟨g_dep 4 (by kernel_rfl) (at_dep rfl rfl rfl), trivial⟩ (fun w hw => rn_load Try.isAgg23 rfl ((below_agree hw 0).cell (Nat.zero_le _) (cell_own (hS.at_ 0 rfl) rfl))) (at_top rfl)) ?_
      refine bl_cons 7 rfl (isV _) (stab_isV _) (rgV (li := [(21, _)]) rfl (w_yes 19 rfl (by kernel_rfl) (by kernel_rfl) (at_dep rfl rfl rfl)) ⟨g_dep 5 (by kernel_rfl) (at_dep rfl rfl rfl), trivial⟩ (fun w hw => rn_len Try.underlying23 rfl) (at_top rfl)) ?_
      refine bl_cons 8 rfl (isV (.bool false)) (stab_isV _) (rgVe (li := [(22, _)]) rfl (w_yes 19 rfl (by kernel_rfl) (by kernel_rfl) (at_dep rfl rfl rfl)) ⟨g_dep 6 (by kernel_rfl) (at_dep rfl rfl rfl), trivial⟩ (fun w hw => rn_lss rfl rfl) (by rw [decide_eq_false (by omega)]) (at_top rfl)) ?_
      refine bl_cons 9 rfl (isV _) (stab_isV _) (rgV (li := [(19, _), (23, _)]) rfl (w_free rfl) ⟨g_dep 3 (by kernel_rfl) (at_dep rfl rfl rfl), g_dep 7 (by kernel_rfl) (at_dep rfl rfl rfl), trivial⟩ (fun w hw => rn_pickF rfl rfl) (at_top rfl)) ?_
      refine bl_cons 10 rfl (isV _) (stab_isV _) (rgV (li := [(24, _)]) rfl (w_free rfl) ⟨g_dep 8 (by kernel_rfl) (at_dep rfl rfl rfl), trivial⟩ (fun w hw => rn_move rfl) (at_top rfl)) ?_
      refine bl_cons 11 rfl (isV _) (stab_isV _) (rgV (li := [(3, _)]) rfl (w_yes 25 rfl (by kernel_rfl) (by kernel_rfl) (at_dep rfl rfl rfl)) ⟨g_fr (by kernel_rfl) rfl, trivial⟩ (fun w hw => rn_field (o' := 1) fa_31_1 rfl rfl) (at_top rfl)) ?_
      refine bl_cons 12 rfl (isV _) (stab_isV _) (rgV (li := [(26, _)]) rfl (w_yes 25 rfl (by kernel_rfl) (by kernel_rfl) (at_dep rfl rfl rfl)) ⟨g_dep 10 (by kernel_rfl) (at_dep rfl rfl rfl), trivial⟩ (fun w hw => rn_load Try.isAgg23 rfl ((below_agree hw 0).cell (Nat.zero_le _) (cell_own (hS.at_ 0 rfl) rfl))) (at_top rfl)) ?_
      refine bl_cons 13 rfl (isV _) (stab_isV _) (rgV (li := [(27, _)]) rfl (w_yes 25 rfl (by kernel_rfl) (by kernel_rfl) (at_dep rfl rfl rfl)) ⟨g_dep 11 (by kernel_rfl) (at_dep rfl rfl rfl), trivial⟩ (fun w hw => rn_len Try.underlying23 rfl) (at_top rfl)) ?_
      refine bl_cons 14 rfl (isV (.bool false)) (stab_isV _) (rgVe (li := [(28, _)]) rfl (w_yes 25 rfl (by kernel_rfl) (by kernel_rfl) (at_dep rfl rfl rfl)) ⟨g_dep 12 (by kernel_rfl) (at_dep rfl rfl rfl), trivial⟩ (fun w hw => rn_gtr rfl rfl) (by rw [decide_eq_false (by omega)]) (at_top rfl)) ?_
      refine bl_cons 15 rfl (isV _) (stab_isV _) (rgV (li := [(25, _), (29, _)]) rfl (w_free rfl) ⟨g_dep 9 (by kernel_rfl) (at_dep rfl rfl rfl), g_dep 13 (by kernel_rfl) (at_dep rfl rfl rfl), trivial⟩ (fun w hw => rn_pickF rfl rfl) (at_top rfl)) ?_
      refine bl_cons 16 rfl (isV _) (stab_isV _) (rgV (li := [(30, _)]) rfl (w_free rfl) ⟨g_dep 14 (by kernel_rfl) (at_dep rfl rfl rfl), trivial⟩ (fun w hw => rn_move rfl) (at_top rfl)) ?_
      refine bl_cons 17 rfl (isV _) (stab_isV _) (rgV (li := [(3, _)]) rfl (w_yes 31 rfl (by kernel_rfl) (by kernel_rfl) (at_dep rfl rfl rfl)) ⟨g_fr (by kernel_rfl) rfl, trivial⟩ (fun w hw => rn_field (o' := 1) fa_31_1 rfl rfl) (at_top rfl)) ?_
      refine bl_cons 18 rfl (isV _) (stab_isV _) (rgV (li := [(32, _)]) rfl (w_yes 31 rfl (by kernel_rfl) (by kernel_rfl) (at_dep rfl rfl rfl)) ⟨g_dep 16 (by kernel_rfl) (at_dep rfl rfl rfl), trivial⟩ (fun w hw => rn_load Try.isAgg23 rfl ((below_agree hw 0).cell (Nat.zero_le _) (cell_own (hS.at_ 0 rfl) rfl))) (at_top rfl)) ?_
      refine bl_cons 19 rfl (isV _) (stab_isV _) (rgV (li := [(33, _)]) rfl (w_yes 31 rfl (by kernel_rfl) (by kernel_rfl) (at_dep rfl rfl rfl)) ⟨g_dep 17 (by kernel_rfl) (at_dep rfl rfl rfl), trivial⟩ (fun w hw => rn_indexA (j := 0) Try.underlying23 Try.sizeOf3 rfl rfl rfl (by omega) (Nat.add_zero _)) (at_top rfl)) ?_
      refine bl_cons 20 rfl (isV _) (stab_isV _) (rgV (li := [(34, _)]) rfl (w_yes 31 rfl (by kernel_rfl) (by kernel_rfl) (at_dep rfl rfl rfl)) ⟨g_dep 18 (by kernel_rfl) (at_dep rfl rfl rfl), trivial⟩ (fun w hw => rn_load Try.isAgg3 rfl ((below_agree hw 0).cell (Nat.zero_le _) (k1))) (at_top rfl)) ?_
      refine bl_cons 21 rfl (isV (.bool false)) (stab_isV _) (rgVe (li := [(35, _)]) rfl (w_yes 31 rfl (by kernel_rfl) (by kernel_rfl) (at_dep rfl rfl rfl)) ⟨g_dep 19 (by kernel_rfl) (at_dep rfl rfl rfl), trivial⟩ (fun w hw => rn_lss rfl rfl) (by rw [decide_eq_false (by omega)]) (at_top rfl)) ?_
      refine bl_cons 22 rfl (isV _) (stab_isV _) (rgV (li := [(31, _), (36, _)]) rfl (w_free rfl) ⟨g_dep 15 (by kernel_rfl) (at_dep rfl rfl rfl), g_dep 20 (by kernel_rfl) (at_dep rfl rfl rfl), trivial⟩ (fun w hw => rn_pickF rfl rfl) (at_top rfl)) ?_
      refine bl_cons 23 rfl (isV _) (stab_isV _) (rgV (li := [(37, _)]) rfl (w_free rfl) ⟨g_dep 21 (by kernel_rfl) (at_dep rfl rfl rfl), trivial⟩ (fun w hw => rn_move rfl) (at_top rfl)) ?_
      refine bl_cons 24 rfl (isV _) (stab_isV _) (rgV (li := [(3, _)]) rfl (w_yes 38 rfl (by kernel_rfl) (by kernel_rfl) (at_dep rfl rfl rfl)) ⟨g_fr (by kernel_rfl) rfl, trivial⟩ (fun w hw => rn_field (o' := 1) fa_31_1 rfl rfl) (at_top rfl)) ?_
      refine bl_cons 25 rfl (isV _) (stab_isV _) (rgV (li := [(39, _)]) rfl (w_yes 38 rfl (by kernel_rfl) (by kernel_rfl) (at_dep rfl rfl rfl)) ⟨g_dep 23 (by kernel_rfl) (at_dep rfl rfl rfl), trivial⟩ (fun w hw => rn_load Try.isAgg23 rfl ((below_agree hw 0).cell (Nat.zero_le _) (cell_own (hS.at_ 0 rfl) rfl))) (at_top rfl)) ?_
      refine bl_cons 26 rfl (isV _) (stab_isV _) (rgV (li := [(40, _)]) rfl (w_yes 38 rfl (by kernel_rfl) (by kernel_rfl) (at_dep rfl rfl rfl)) ⟨g_dep 24 (by kernel_rfl) (at_dep rfl rfl rfl), trivial⟩ (fun w hw => rn_indexA (j := 0) Try.underlying23 Try.sizeOf3 rfl rfl rfl (by omega) (Nat.add_zero _)) (at_top rfl)) ?_
      refine bl_cons 27 rfl (isV _) (stab_isV _) (rgV (li := [(41, _)]) rfl (w_yes 38 rfl (by kernel_rfl) (by kernel_rfl) (at_dep rfl rfl rfl)) ⟨g_dep 25 (by kernel_rfl) (at_dep rfl rfl rfl), trivial⟩ (fun w hw => rn_load Try.isAgg3 rfl ((below_agree hw 0).cell (Nat.zero_le _) (k1))) (at_top rfl)) ?_
      refine bl_cons 28 rfl (isV _) (stab_isV _) (rgV (li := [(2, _)]) rfl (w_yes 38 rfl (by kernel_rfl) (by kernel_rfl) (at_dep rfl rfl rfl)) ⟨g_fr (by kernel_rfl) rfl, trivial⟩ (fun w hw => rn_field (o' := 5) fa_29_5 rfl rfl) (at_top rfl)) ?_
      refine bl_cons 29 rfl (isV _) (stab_isV _) (rgV (li := [(43, _)]) rfl (w_yes 38 rfl (by kernel_rfl) (by kernel_rfl) (at_dep rfl rfl rfl)) ⟨g_dep 27 (by kernel_rfl) (at_dep rfl rfl rfl), trivial⟩ (fun w hw => rn_load Try.isAgg23 rfl ((below_agree hw 0).cell (Nat.zero_le _) (cell_own (hS.at_ 1 rfl) rfl))) (at_top rfl)) ?_
      refine bl_cons 30 rfl (isV _) (stab_isV _) (rgV (li := [(44, _)]) rfl (w_yes 38 rfl (by kernel_rfl) (by kernel_rfl) (at_dep rfl rfl rfl)) ⟨g_dep 28 (by kernel_rfl) (at_dep rfl rfl rfl), trivial⟩ (fun w hw => rn_len Try.underlying23 rfl) (at_top rfl)) ?_
      refine bl_cons 31 rfl (isV (.bool true)) (stab_isV _) (rgVe (li := [(42, _), (45, _)]) rfl (w_yes 38 rfl (by kernel_rfl) (by kernel_rfl) (at_dep rfl rfl rfl)) ⟨g_dep 26 (by kernel_rfl) (at_dep rfl rfl rfl), g_dep 29 (by kernel_rfl) (at_dep rfl rfl rfl), trivial⟩ (fun w hw => rn_geq rfl rfl) (by rw [decide_eq_true (by omega)]) (at_top rfl)) ?_
      refine bl_cons 32 rfl (isV _) (stab_isV _) (rgV (li := [(38, _), (46, _)]) rfl (w_free rfl) ⟨g_dep 22 (by kernel_rfl) (at_dep rfl rfl rfl), g_dep 30 (by kernel_rfl) (at_dep rfl rfl rfl), trivial⟩ (fun w hw => rn_pickF rfl rfl) (at_top rfl)) ?_
      refine bl_nil ?_
      intro W8 hbR hS'
      clear hS; have hS := hS'; clear hS'
      refine fin_v ?_
      refine fin_v ?_
      refine fin_v ?_
      refine fin_v ?_
      refine fin_v ?_
      refine fin_v ?_
      refine fin_v ?_
      refine fin_v ?_
      refine fin_v ?_
      refine fin_v ?_
      refine fin_v ?_
      refine fin_v ?_
      refine fin_v ?_
      refine fin_v ?_
      refine fin_v ?_
      refine fin_v ?_
      refine fin_v ?_
      refine fin_v ?_
      refine fin_v ?_
      refine fin_v ?_
      refine fin_v ?_
      refine fin_v ?_
      refine fin_v ?_
      refine fin_v ?_
      refine fin_v ?_
      refine fin_v ?_
      refine fin_v ?_
      refine fin_v ?_
      refine fin_v ?_
      refine fin_v ?_
      refine fin_v ?_
      refine fin_v ?_
      refine fin_nil ?_
      refine XF.thenN ?_
      refine condT rfl ?_
      refine seqF ?_
      refine regF ?_
      refine op_assign rfl rfl ?_
      refine op_assign rfl rfl ?_
      refine op_assign rfl rfl ?_
      refine endF ?_
      refine XF.thenN ?_
      refine retF ?_
      refine XF.thenR ?_
      refine XF.res (res3 Try.results10 rfl rfl rfl) ?_
      exact sitesRet_bad hS.below (by unfold sitesE; dsimp only; rw [if_neg (by rw [hce]; simp)]; exact if_pos (.inr (.inr (inQ_big hno)))) (by decide)
    · rw [List.length_cons] at hwl
      obtain ⟨cb, co, n1, rfl, hn1, hnc⟩ := hrw.get (i := 0) (by simp)
      obtain rfl : n0 = n1 := Option.some.inj hn1
      have k1 : W3.cell? ⟨cb, co, none⟩ = some (.int .i64 n0) := (CellsAt.agree hS.agree (Nat.zero_le _) hnc).1
      have hnd : inQ n0 ol = true := by unfold inQ; rw [decide_eq_true hn0, decide_eq_true hno]; rfl
      refine regB (m := 32) followsM hS (by kernel_rfl) (by kernel_rfl) rfl ?_
      refine bl_cons 1 rfl (isV _) (stab_isV _) (rgV (li := [(3, _)]) rfl (w_free rfl) ⟨g_fr (by kernel_rfl) rfl, trivial⟩ (fun w hw => rn_field (o' := 0) fa_31_0 rfl rfl) (at_top rfl)) ?_
      refine bl_cons 2 rfl (isV _) (stab_isV _) (rgV (li := [(16, _)]) rfl (w_free rfl) ⟨g_dep 0 (by kernel_rfl) (at_dep rfl rfl rfl), trivial⟩ (fun w hw => rn_load Try.isAgg3 rfl ((below_agree hw 0).cell (Nat.zero_le _) (cell_own (hS.at_ 0 rfl) rfl))) (at_top rfl)) ?_
      refine bl_cons 3 rfl (isV (.bool false)) (stab_isV _) (rgVe (li := [(17, _)]) rfl (w_free rfl) ⟨g_dep 1 (by kernel_rfl) (at_dep rfl rfl rfl), trivial⟩ (fun w hw => rn_neq rfl rfl) (by rw [decide_eq_false (not_not_intro hp0)]) (at_top rfl)) ?_
      refine bl_cons 4 rfl (isV _) (stab_isV _) (rgV (li := [(18, _)]) rfl (w_free rfl) ⟨g_dep 2 (by kernel_rfl) (at_dep rfl rfl rfl), trivial⟩ (fun w hw => rn_move rfl) (at_top rfl)) ?_
      refine bl_cons 5 rfl (isV _) (stab_isV _) (rgV (li := [(3, _)]) rfl (w_yes 19 rfl (by kernel_rfl) (by kernel_rfl) (at_dep rfl rfl rfl)) ⟨g_fr (by kernel_rfl) rfl, trivial⟩ (fun w hw => rn_field (o' := 1) fa_31_1 rfl rfl) (at_top rfl)) ?_
      refine bl_cons 6 rfl (isV _) (stab_isV _) (rgV (li := [(20, _)]) rfl (w_yes 19 rfl (by kernel_rfl) (by kernel_rfl) (at_dep rfl rfl rfl)) ⟨g_dep 4 (by kernel_rfl) (at_dep rfl rfl rfl), trivial⟩ (fun w hw => rn_load Try.isAgg23 rfl ((below_agree hw 0).cell (Nat.zero_le _) (cell_own (hS.at_ 0 rfl) rfl))) (at_top rfl)) ?_
      refine bl_cons 7 rfl (isV _) (stab_isV _) (rgV (li := [(21, _)]) rfl (w_yes 19 rfl (by kernel_rfl) (by kernel_rfl) (at_dep rfl rfl rfl)) ⟨g_dep 5 (by kernel_rfl) (at_dep rfl rfl rfl), trivial⟩ (fun w hw => rn_len Try.underlying23 rfl) (at_top rfl)) ?_
      refine bl_cons 8 rfl (isV (.bool false)) (stab_isV _) (rgVe (li := [(22, _)]) rfl (w_yes 19 rfl (by kernel_rfl) (by kernel_rfl) (at_dep rfl rfl rfl)) ⟨g_dep 6 (by kernel_rfl) (at_dep rfl rfl rfl), trivial⟩ (fun w hw => rn_lss rfl rfl) (by rw [decide_eq_false (by omega)]) (at_top rfl)) ?_
      refine bl_cons 9 rfl (isV _) (stab_isV _) (rgV (li := [(19, _), (23, _)]) rfl (w_free rfl) ⟨g_dep 3 (by kernel_rfl) (at_dep rfl rfl rfl), g_dep 7 (by kernel_rfl) (at_dep rfl rfl rfl), trivial⟩ (fun w hw => rn_pickF rfl rfl) (at_top rfl)) ?_
      refine bl_cons 10 rfl (isV _) (stab_isV _) (rgV (li := [(24, _)]) rfl (w_free rfl) ⟨g_dep 8 (by kernel_rfl) (at_dep rfl rfl rfl), trivial⟩ (fun w hw => rn_move rfl) (at_top rfl)) ?_
      refine bl_cons 11 rfl (isV _) (stab_isV _) (rgV (li := [(3, _)]) rfl (w_yes 25 rfl (by kernel_rfl) (by kernel_rfl) (at_dep rfl rfl rfl)) ⟨g_fr (by kernel_rfl) rfl, trivial⟩ (fun w hw => rn_field (o' := 1) fa_31_1 rfl rfl) (at_top rfl)) ?_
      refine bl_cons 12 rfl (isV _) (stab_isV _) (rgV (li := [(26, _)]) rfl (w_yes 25 rfl (by kernel_rfl) (by kernel_rfl) (at_dep rfl rfl rfl)) ⟨g_dep 10 (by kernel_rfl) (at_dep rfl rfl rfl), trivial⟩ (fun w hw => rn_load Try.isAgg23 rfl ((below_agree hw 0).cell (Nat.zero_le _) (cell_own (hS.at_ 0 rfl) rfl))) (at_top rfl)) ?_
      refine bl_cons 13 rfl (isV _) (stab_isV _) (rgV (li := [(27, _)]) rfl (w_yes 25 rfl (by kernel_rfl) (by kernel_rfl) (at_dep rfl rfl rfl)) ⟨g_dep 11 (by kernel_rfl) (at_dep rfl rfl rfl), trivial⟩ (fun w hw => rn_len Try.underlying23 rfl) (at_top rfl)) ?_
      refine bl_cons 14 rfl (isV (.bool false)) (stab_isV _) (rgVe (li := [(28, _)]) rfl (w_yes 25 rfl (by kernel_rfl) (by kernel_rfl) (at_dep rfl rfl rfl)) ⟨g_dep 12 (by kernel_rfl) (at_dep rfl rfl rfl), trivial⟩ (fun w hw => rn_gtr rfl rfl) (by rw [decide_eq_false (by omega)]) (at_top rfl)) ?_
      refine bl_cons 15 rfl (isV _) (stab_isV _) (rgV (li := [(25, _), (29, _)]) rfl (w_free rfl) ⟨g_dep 9 (by kernel_rfl) (at_dep rfl rfl rfl), g_dep 13 (by kernel_rfl) (at_dep rfl rfl rfl), trivial⟩ (fun w hw => rn_pickF rfl rfl) (at_top rfl)) ?_
      refine bl_cons 16 rfl (isV _) (stab_isV _) (rgV (li := [(30, _)]) rfl (w_free rfl) ⟨g_dep 14 (by kernel_rfl) (at_dep rfl rfl rfl), trivial⟩ (fun w hw => rn_move rfl) (at_top rfl)) ?_
      refine bl_cons 17 rfl (isV _) (stab_isV _) (rgV (li := [(3, _)]) rfl (w_yes 31 rfl (by kernel_rfl) (by kernel_rfl) (at_dep rfl rfl rfl)) ⟨g_fr (by kernel_rfl) rfl, trivial⟩ (fun w hw => rn_field (o' := 1) fa_31_1 rfl rfl) (at_top rfl)) ?_
      refine bl_cons 18 rfl (isV _) (stab_isV _) (rgV (li := [(32, _)]) rfl (w_yes 31 rfl (by kernel_rfl) (by kernel_rfl) (at_dep rfl rfl rfl)) ⟨g_dep 16 (by kernel_rfl) (at_dep rfl rfl rfl), trivial⟩ (fun w hw => rn_load Try.isAgg23 rfl ((below_agree hw 0).cell (Nat.zero_le _) (cell_own (hS.at_ 0 rfl) rfl))) (at_top rfl)) ?_
      refine bl_cons 19 rfl (isV _) (stab_isV _) (rgV (li := [(33, _)]) rfl (w_yes 31 rfl (by kernel_rfl) (by kernel_rfl) (at_dep rfl rfl rfl)) ⟨g_dep 17 (by kernel_rfl) (at_dep rfl rfl rfl), trivial⟩ (fun w hw => rn_indexA (j := 0) Try.underlying23 Try.sizeOf3 rfl rfl rfl (by omega) (Nat.add_zero _)) (at_top rfl)) ?_
      refine bl_cons 20 rfl (isV _) (stab_isV _) (rgV (li := [(34, _)]) rfl (w_yes 31 rfl (by kernel_rfl) (by kernel_rfl) (at_dep rfl rfl rfl)) ⟨g_dep 18 (by kernel_rfl) (at_dep rfl rfl rfl), trivial⟩ (fun w hw => rn_load Try.isAgg3 rfl ((below_agree hw 0).cell (Nat.zero_le _) (k1))) (at_top rfl)) ?_
      refine bl_cons 21 rfl (isV (.bool false)) (stab_isV _) (rgVe (li := [(35, _)]) rfl (w_yes 31 rfl (by kernel_rfl) (by kernel_rfl) (at_dep rfl rfl rfl)) ⟨g_dep 19 (by kernel_rfl) (at_dep rfl rfl rfl), trivial⟩ (fun w hw => rn_lss rfl rfl) (by rw [decide_eq_false (by omega)]) (at_top rfl)) ?_
      refine bl_cons 22 rfl (isV _) (stab_isV _) (rgV (li := [(31, _), (36, _)]) rfl (w_free rfl) ⟨g_dep 15 (by kernel_rfl) (at_dep rfl rfl rfl), g_dep 20 (by kernel_rfl) (at_dep rfl rfl rfl), trivial⟩ (fun w hw => rn_pickF rfl rfl) (at_top rfl)) ?_
      refine bl_cons 23 rfl (isV _) (stab_isV _) (rgV (li := [(37, _)]) rfl (w_free rfl) ⟨g_dep 21 (by kernel_rfl) (at_dep rfl rfl rfl), trivial⟩ (fun w hw => rn_move rfl) (at_top rfl)) ?_
      refine bl_cons 24 rfl (isV _) (stab_isV _) (rgV (li := [(3, _)]) rfl (w_yes 38 rfl (by kernel_rfl) (by kernel_rfl) (at_dep rfl rfl rfl)) ⟨g_fr (by kernel_rfl) rfl, trivial⟩ (fun w hw => rn_field (o' := 1) fa_31_1 rfl rfl) (at_top rfl)) ?_
      refine bl_cons 25 rfl (isV _) (stab_isV _) (rgV (li := [(39, _)]) rfl (w_yes 38 rfl (by kernel_rfl) (by kernel_rfl) (at_dep rfl rfl rfl)) ⟨g_dep 23 (by kernel_rfl) (at_dep rfl rfl rfl), trivial⟩ (fun w hw => rn_load Try.isAgg23 rfl ((below_agree hw 0).cell (Nat.zero_le _) (cell_own (hS.at_ 0 rfl) rfl))) (at_top rfl)) ?_
      refine bl_cons 26 rfl (isV _) (stab_isV _) (rgV (li := [(40, _)]) rfl (w_yes 38 rfl (by kernel_rfl) (by kernel_rfl) (at_dep rfl rfl rfl)) ⟨g_dep 24 (by kernel_rfl) (at_dep rfl rfl rfl), trivial⟩ (fun w hw => rn_indexA (j := 0) Try.underlying23 Try.sizeOf3 rfl rfl rfl (by omega) (Nat.add_zero _)) (at_top rfl)) ?_
      refine bl_cons 27 rfl (isV _) (stab_isV _) (rgV (li := [(41, _)]) rfl (w_yes 38 rfl (by kernel_rfl) (by kernel_rfl) (at_dep rfl rfl rfl)) ⟨g_dep 25 (by kernel_rfl) (at_dep rfl rfl rfl), trivial⟩ (fun w hw => rn_load Try.isAgg3 rfl ((below_agree hw 0).cell (Nat.zero_le _) (k1))) (at_top rfl)) ?_
      refine bl_cons 28 rfl (isV _) (stab_isV _) (rgV (li := [(2, _)]) rfl (w_yes 38 rfl (by kernel_rfl) (by kernel_rfl) (at_dep rfl rfl rfl)) ⟨g_fr (by kernel_rfl) rfl, trivial⟩ (fun w hw => rn_field (o' := 5) fa_29_5 rfl rfl) (at_top rfl)) ?_
      refine bl_cons 29 rfl (isV _) (stab_isV _) (rgV (li := [(43, _)]) rfl (w_yes 38 rfl (by kernel_rfl) (by kernel_rfl) (at_dep rfl rfl rfl)) ⟨g_dep 27 (by kernel_rfl) (at_dep rfl rfl rfl), trivial⟩ (fun w hw => rn_load Try.isAgg23 rfl ((below_agree hw 0).cell (Nat.zero_le _) (cell_own (hS.at_ 1 rfl) rfl))) (at_top rfl)) ?_
      refine bl_cons 30 rfl (isV _) (stab_isV _) (rgV (li := [(44, _)]) rfl (w_yes 38 rfl (by kernel_rfl) (by kernel_rfl) (at_dep rfl rfl rfl)) ⟨g_dep 28 (by kernel_rfl) (at_dep rfl rfl rfl), trivial⟩ (fun w hw => rn_len Try.underlying23 rfl) (at_top rfl)) ?_
      refine bl_cons 31 rfl (isV (.bool false)) (stab_isV _) (rgVe (li := [(42, _), (45, _)]) rfl (w_yes 38 rfl (by kernel_rfl) (by kernel_rfl) (at_dep rfl rfl rfl)) ⟨g_dep 26 (by kernel_rfl) (at_dep rfl rfl rfl), g_dep 29 (by kernel_rfl) (at_dep rfl rfl rfl), trivial⟩ (fun w hw => rn_geq rfl rfl) (by rw [decide_eq_false (by omega)]) (at_top rfl)) ?_
      refine bl_cons 32 rfl (isV _) (stab_isV _) (rgV (li := [(38, _), (46, _)]) rfl (w_free rfl) ⟨g_dep 22 (by kernel_rfl) (at_dep rfl rfl rfl), g_dep 30 (by kernel_rfl) (at_dep rfl rfl rfl), trivial⟩ (fun w hw => rn_pickF rfl rfl) (at_top rfl)) ?_
      refine bl_nil ?_
      intro W9 hbR hS'
      clear hS; have hS := hS'; clear hS'
      refine fin_v ?_
      refine fin_v ?_
      refine fin_v ?_
      refine fin_v ?_
      refine fin_v ?_
      refine fin_v ?_
      refine fin_v ?_
      refine fin_v ?_
      refine fin_v ?_
      refine fin_v ?_
      refine fin_v ?_
      refine fin_v ?_
      refine fin_v ?_
      refine fin_v ?_
      refine fin_v ?_
      refine fin_v ?_
      refine fin_v ?_
      refine fin_v ?_
      refine fin_v ?_
      refine fin_v ?_
      refine fin_v ?_
      refine fin_v ?_
      refine fin_v ?_
      refine fin_v ?_
      refine fin_v ?_
      refine fin_v ?_
      refine fin_v ?_
      refine fin_v ?_
      refine fin_v ?_
      refine fin_v ?_
      refine fin_v ?_
      refine fin_v ?_
      refine fin_nil ?_
      refine XF.thenN ?_
      refine condN rfl ?_
      refine skipF ?_
      refine XF.thenN ?_
      refine seqF ?_
      refine regF ?_
      refine op_assign rfl rfl ?_
      refine endF ?_
      refine XF.thenN ?_
      refine seqF ?_
      refine seqF ?_
      have hS := hS.newG 3 1
      refine regF ?_
      refine op_assign rfl rfl ?_
      refine endF ?_
      refine XF.thenN ?_
      refine blockF ?_
      refine loopF (fun m l W => ∃ (i : Nat) (acc : List Int) (v : Value), i ≤ wl - 1 ∧ m = wl - 1 - i ∧ l = [(2, .pointer (some ⟨B1, 0, none⟩)), (3, .pointer (some ⟨B2, 0, none⟩)), (8, v), (9, .int .i64 ((i + 1 : Nat) : Int))] ∧ acc.length = i ∧ (fsts (firstL ts ol) ol (r0.drop i)).map (acc ++ ·) = fsts (firstL ts ol) ol r0 ∧ St w [(B2, [.int .i64 p, .slice (some ⟨cb, co, none⟩) wl wc], 31), (B1, [.slice va vl vc, .slice pa pl pc, .slice ea el ec, .slice xa xl xc, .int .i64 mn, .slice oa ol oc, .slice sa sl sc, .slice ta tl tc, .slice na nl nc, .slice ka kl kc], 29)] [⟨v, i, acc.map (Value.int .i64), 3, 1⟩] [] W) (wl - 1 - 0) ([(2, _), (3, _), (8, _), (9, _)]) ⟨rfl, rfl, rfl, rfl, trivial⟩ (⟨0, [], _, Nat.zero_le _, rfl, rfl, rfl, by rw [List.drop_zero]; cases fsts (firstL ts ol) ol r0 <;> rfl, hS.clear⟩) ?_
      clear hS
      rintro m l W ⟨i, acc, v, hi, rfl, rfl, hacc, hrun, hS⟩
      refine seqF ?_
      refine seqF ?_
      refine regF ?_
      refine op_move rfl rfl ?_
      refine op_field (o' := 1) fa_31_1 rfl rfl rfl ?_
      refine op_load Try.isAgg23 rfl (cell_own (hS.at_ 0 rfl) rfl) rfl ?_
      refine op_len Try.underlying23 rfl rfl ?_
      refine op_lss rfl rfl rfl ?_
      refine endF ?_
      refine XF.thenN ?_
      refine condF rfl (fun hc => ?_) (fun hc => ?_)
      · have hc52 := of_decide_eq_true hc; clear hc
        have hk1 : i < r0.length := by omega
        obtain ⟨cb2, co2, y, e2, hy, hyc⟩ := hrw.get (i := i + 1) (by simp; omega)
        cases e2
        have hy2 : r0[i]? = some y := by simpa using hy
        have k2 := (CellsAt.agree hS.agree (Nat.zero_le _) hyc).1
        rw [drop_at hy2, fsts_site hbk] at hrun
        refine skipF ?_
        refine XF.thenN ?_
        refine seqF ?_
        refine blockF ?_
        refine seqF ?_
        refine regB (m := 8) followsM hS (by kernel_rfl) (by kernel_rfl) rfl ?_
        refine bl_cons 1 rfl (isV _) (stab_isV _) (rgV (li := [(2, _)]) rfl (w_free rfl) ⟨g_fr (by kernel_rfl) rfl, trivial⟩ (fun w hw => rn_loadA (vs := [_, _, _, _, _, _, _, _, _, _]) Try.isAgg29 Try.sizeOf29 rfl (CellsAt.agree (below_agree hw 0) (Nat.zero_le _) (CellsAt.own (j := 0) (m := 10) (hS.at_ 1 rfl) rfl))) (at_top rfl)) ?_
        refine bl_cons 2 rfl (isV _) (stab_isV _) (rgV (li := [(3, _)]) rfl (w_free rfl) ⟨g_fr (by kernel_rfl) rfl, trivial⟩ (fun w hw => rn_field (o' := 1) fa_31_1 rfl rfl) (at_top rfl)) ?_
        refine bl_cons 3 rfl (isV _) (stab_isV _) (rgV (li := [(56, _)]) rfl (w_free rfl) ⟨g_dep 1 (by kernel_rfl) (at_dep rfl rfl rfl), trivial⟩ (fun w hw => rn_load Try.isAgg23 rfl ((below_agree hw 0).cell (Nat.zero_le _) (cell_own (hS.at_ 0 rfl) rfl))) (at_top rfl)) ?_
        refine bl_cons 4 rfl (isV _) (stab_isV _) (rgV (li := [(9, _)]) rfl (w_free rfl) ⟨g_fr (by kernel_rfl) rfl, trivial⟩ (fun w hw => rn_move rfl) (at_top rfl)) ?_
        refine bl_cons 5 rfl (isV _) (stab_isV _) (rgV (li := [(57, _), (58, _)]) rfl (w_free rfl) ⟨g_dep 2 (by kernel_rfl) (at_dep rfl rfl rfl), g_dep 3 (by kernel_rfl) (at_dep rfl rfl rfl), trivial⟩ (fun w hw => rn_indexA  Try.underlying23 Try.sizeOf3 rfl rfl rfl (by omega) rfl) (at_top rfl)) ?_
        refine bl_cons 6 rfl (isV _) (stab_isV _) (rgV (li := [(59, _)]) rfl (w_free rfl) ⟨g_dep 4 (by kernel_rfl) (at_dep rfl rfl rfl), trivial⟩ (fun w hw => rn_load Try.isAgg3 rfl ((below_agree hw 0).cell (Nat.zero_le _) (k2))) (at_top rfl)) ?_
        refine bl_cons 7 rfl (isV (.int .i64 (siteF y ts 0))) (stab_isV _) (rg_call [isV _, isV _] rfl goes_18 (w_free rfl) ⟨p_tmp (g_dep 0 (by kernel_rfl) (at_dep rfl rfl rfl)), p_tmp (g_dep 5 (by kernel_rfl) (at_dep rfl rfl rfl)), trivial⟩ (fun vs w' hb hh => by have e := holds_isV (us := [_, _]) hh; subst e; exact (siteR_c _ vl vc _ pl pc _ el ec es _ xl xc xs mn _ ol oc os _ sl sc ss _ tl tc ts _ nl nc ns _ kl kc ks y _ (he.below (hS.below.trans (hb.mono hS.below.size))) hel (hx.below (hS.below.trans (hb.mono hS.below.size))) hxl (ho.below (hS.below.trans (hb.mono hS.below.size))) hol (hs.below (hS.below.trans (hb.mono hS.below.size))) hsl (ht.below (hS.below.trans (hb.mono hS.below.size))) htl (hn.below (hS.below.trans (hb.mono hS.below.size))) hnl (hk.below (hS.below.trans (hb.mono hS.below.size))) hkl b1 b2 b3 b4 b5 b6 b7 b8 b9).mono fun e w2 h => ⟨_, h.1, rfl, h.2⟩) (at_top rfl)) ?_
        refine bl_cons 8 rfl (isV _) (stab_isV _) (rgV (li := [(61, _)]) rfl (w_free rfl) ⟨g_dep 6 (by kernel_rfl) (at_dep rfl rfl rfl), trivial⟩ (fun w hw => rn_assign rfl) (at_top rfl)) ?_
        refine bl_nil ?_
        intro W10 hbR hS'
        clear hS; have hS := hS'; clear hS'
        refine fin_v ?_
        refine fin_v ?_
        refine fin_v ?_
        refine fin_v ?_
        refine fin_v ?_
        refine fin_v ?_
        refine fin_v ?_
        refine fin_v ?_
        refine fin_nil ?_
        refine XF.thenN ?_
        refine seqF ?_
        refine seqF ?_
        refine regF ?_
        refine op_move rfl rfl ?_
        refine op_lss rfl rfl rfl ?_
        refine endF ?_
        refine XF.thenN ?_
        refine condF rfl (fun hc => ?_) (fun hc => ?_)
        · have hc63 := of_decide_eq_true hc; clear hc
          rw [if_pos hc63] at hrun
          refine seqF ?_
          refine regF ?_
          refine op_assign rfl rfl ?_
          refine op_assign rfl rfl ?_
          refine op_assign rfl rfl ?_
          refine endF ?_
          refine XF.thenN ?_
          refine retF ?_
          refine XF.thenR ?_
          refine XF.blkR ?_
          refine XF.thenR ?_
          refine XF.thenR ?_
          refine XF.blkR ?_
          refine XF.thenR ?_
          refine XF.res (res3 Try.results10 rfl rfl rfl) ?_
          exact sitesRet_bad hS.below (by unfold sitesE; dsimp only; rw [if_neg (by rw [hce]; simp)]; rw [if_neg (by rw [hnd]; simp only [Bool.true_eq_false, or_false]; omega), ← hrun]; rfl) (by decide)
        · have hc63 := of_decide_eq_false hc; clear hc
          rw [if_neg hc63, Option.map_map] at hrun
          refine skipF ?_
          refine XF.thenN ?_
          refine regF ?_
          refine op_move rfl rfl ?_
          refine op_move rfl rfl ?_
          refine op_buildSlice (us := [(0, .int .i64 _)]) hS Try.underlying23 Try.sizeOf3 Try.zeroValue3 rfl rfl rfl (bs_23_1 _) rfl ?_
          clear hS; intro B11 W11 hS
          refine op_append (i := 0) (news := [_]) hS Try.underlying23 inf_3 rfl rfl (by show 0 < 1; decide) rfl rfl rfl rfl rfl (CellsAt.own (j := 0) (m := 1) (hS.at_ 0 rfl) rfl) rfl rfl (by simp only [maxLen]; omega) (by show (i + 1) * 8 ≤ _; omega) rfl ?_
          clear hS; intro v12 W12 hS
          refine op_assign rfl rfl ?_
          refine endF ?_
          refine XF.blkN ?_
          refine XF.thenN ?_
          refine regF ?_
          refine op_move rfl rfl ?_
          refine op_add rfl rfl (IntWalk.i64_in _ (by omega)) rfl ?_
          refine op_assign rfl rfl ?_
          refine endF ?_
          exact XF.round (wl - 1 - (i + 1)) [(2, _), (3, _), (8, _), (9, _)] (by omega) ⟨rfl, rfl, rfl, rfl, trivial⟩ ⟨i + 1, acc ++ [siteF y ts 0], _, by omega, rfl, rfl, by simp [hacc], by rw [← hrun]; congr 1; funext z; simp, hS.tail.clear.castG (by simp)⟩
      · have hc52 := of_decide_eq_false hc; clear hc
        rw [List.drop_of_length_le (by omega)] at hrun
        simp only [fsts, Option.map_some, List.append_nil] at hrun
        obtain ⟨a9, c9, rfl, hac⟩ := ownsRow_sl (v := v) (n := i) (hS.row 0 rfl)
        have k1 : W.cell? ⟨cb, co, none⟩ = some (.int .i64 n0) := (CellsAt.agree hS.agree (Nat.zero_le _) hnc).1
        refine exitF ?_
        refine XF.thenX ?_
        refine XF.thenX ?_
        refine XF.blkX ?_
        refine XF.thenN ?_
        refine seqF ?_
        refine regF ?_
        refine op_field (o' := 1) fa_31_1 rfl rfl rfl ?_
        refine op_load Try.isAgg23 rfl (cell_own (hS.at_ 0 rfl) rfl) rfl ?_
        refine op_indexA (j := 0) Try.underlying23 Try.sizeOf3 rfl rfl rfl (by omega) (Nat.add_zero _) rfl ?_
        refine op_load Try.isAgg3 rfl (k1) rfl ?_
        refine op_move rfl rfl ?_
        refine op_assign rfl rfl ?_
        refine op_assign rfl rfl ?_
        refine op_assign rfl rfl ?_
        refine endF ?_
        refine XF.thenN ?_
        refine retF ?_
        refine XF.res (res3 Try.results10 rfl rfl rfl) ?_
        have hR : sitesE ⟨va, vl, vc, pa, pl, pc, ea, el, ec, es, xa, xl, xc, xs, mn, oa, ol, oc, os, sa, sl, sc, ss, ta, tl, tc, ts, na, nl, nc, ns, ka, kl, kc, ks⟩ p (n0 :: r0) = (n0, acc, 0) := by unfold sitesE; dsimp only; rw [if_neg (by rw [hce]; simp)]; rw [if_neg (by rw [hnd]; simp only [Bool.true_eq_false, or_false]; omega), ← hrun]
        rw [hR]
        exact ⟨hS.below, .inr ⟨rfl, a9, c9, by rw [hacc], by have h9 := hS.row 0 rfl; unfold RowN; rw [hacc]; exact h9⟩⟩
end Go.Proofs.Ytpinbmjkbkogdaa
namespace Go.Proofs.Ytpinbmjkbkogdaa
open Go Go.RowKit
set_option linter.unusedVariables false
theorem confR_is (g : GV) (node : Int) (la : Option Addr) (ll lc : Nat) (is : List Int) (w : World) (hg : GIn w g) (hf : GFew g) (hrla : RowI w la is) (hll : is.length = ll) (hlm : ll ≤ 5000) : Calls Try.prog 8 #[g.val, .int .i64 node, .slice la ll lc] w (ConfRet (confE g node is) w) :=
  confR_c g.va g.vl g.vc g.pa g.pl g.pc g.ea g.el g.ec g.es g.xa g.xl g.xc g.xs g.mn g.oa g.ol g.oc g.os g.sa g.sl g.sc g.ss g.ta g.tl g.tc g.ts g.na g.nl g.nc g.ns g.ka g.kl g.kc g.ks node la ll lc is w hg.e hg.el hg.x hg.xl hg.o hg.ol hg.s hg.sl hg.t hg.tl hg.n hg.nl hg.k hg.kl hf.v hf.p hf.e hf.x hf.o hf.s hf.t hf.n hf.k hrla hll hlm
theorem sitesR_is (g : GV) (p : Int) (wa : Option Addr) (wl wc : Nat) (ws : List Int) (w : World) (hg : GIn w g) (hf : GFew g) (hrw : RowI w wa ws) (hwl : ws.length = wl) (hwc : wl ≤ wc) : Calls Try.prog 10 #[g.val, .agg #[.int .i64 p, .slice wa wl wc]] w (SitesRet (sitesE g p ws) w) :=
  sitesR_c g.va g.vl g.vc g.pa g.pl g.pc g.ea g.el g.ec g.es g.xa g.xl g.xc g.xs g.mn g.oa g.ol g.oc g.os g.sa g.sl g.sc g.ss g.ta g.tl g.tc g.ts g.na g.nl g.nc g.ns g.ka g.kl g.kc g.ks w hg.e hg.el hg.x hg.xl hg.o hg.ol hg.s hg.sl hg.t hg.tl hg.n hg.nl hg.k hg.kl hf.v hf.p hf.e hf.x hf.o hf.s hf.t hf.n hf.k p wa wl wc ws hrw hwl hwc
theorem confRet_any {g : GV} {node : Int} {is : List Int} {w : World} {e : Ending} {w' : World} (h : ConfRet (confE g node is) w e w') : ∃ a c, e = .returned (.tuple #[.agg #[.int .i64 0, .slice a (confE g node is).2.length c], .int .i64 (confE g node is).1]) ∧ RowN w.heap.size w' a c (confE g node is).2 ∧ Below w.heap.size w w' := by
  rcases conf_cases g node is with ⟨c, hc, he⟩ | ⟨l, he, _⟩
  · obtain ⟨h1, h2⟩ := confRet_no h he hc
    rw [he]
    exact ⟨none, 0, h1, World.ownsRow_nil _ _ _ _, h2⟩
  · obtain ⟨a, c, h1, h2, h3⟩ := confRet_ok h he
    rw [he]
    exact ⟨a, c, h1, h2, h3⟩
theorem confE_len (g : GV) (node : Int) (is : List Int) : (confE g node is).2.length ≤ 4096 := by
  rcases conf_cases g node is with ⟨c, hc, he⟩ | ⟨l, he, _, _, _, hl⟩
  · rw [he]; exact Nat.zero_le _
  · rw [he]; exact hl
theorem fsts_len {fl : List Int} {ol : Nat} : ∀ {r l : List Int}, fsts fl ol r = some l → l.length = r.length
  | [], l, h => by simp only [fsts, Option.some.injEq] at h; subst h; rfl
  | n :: r, l, h => by
    simp only [fsts] at h
    split at h
    · split at h
      · split at h
        · cases h
        · cases h2 : fsts fl ol r with
          | none => rw [h2] at h; cases h
          | some l2 =>
            rw [h2] at h
            have e := Option.some.inj h
            subst e
            rw [List.length_cons, List.length_cons, fsts_len h2]
      · cases h
    · cases h
theorem sitesE_cases (g : GV) (p : Int) (ws : List Int) : (∃ c, c ≠ 0 ∧ sitesE g p ws = (0, [], c)) ∨ ∃ n l, sitesE g p ws = (n, l, 0) ∧ l.length ≤ 4096 := by
  by_cases h1 : checkE g = 0
  · cases ws with
    | nil => exact .inl ⟨120, by decide, by unfold sitesE; rw [if_neg (by rw [h1]; simp)]⟩
    | cons n r =>
      by_cases h2 : p ≠ 0 ∨ 4096 < r.length + 1 ∨ inQ n g.ol = false
      · exact .inl ⟨120, by decide, by unfold sitesE; rw [if_neg (by rw [h1]; simp)]; exact if_pos h2⟩
      · cases h3 : fsts (firstL g.ts g.ol) g.ol r with
        | none => exact .inl ⟨120, by decide, by unfold sitesE; rw [if_neg (by rw [h1]; simp)]; dsimp only; rw [if_neg h2, h3]⟩
        | some l => exact .inr ⟨n, l, by unfold sitesE; rw [if_neg (by rw [h1]; simp)]; dsimp only; rw [if_neg h2, h3], by rw [fsts_len h3]; omega⟩
  · exact .inl ⟨_, h1, by unfold sitesE; rw [if_pos h1]⟩
theorem sitesE_len (g : GV) (p : Int) (ws : List Int) : (sitesE g p ws).2.1.length ≤ 4096 := by
  rcases sitesE_cases g p ws with ⟨c, hc, he⟩ | ⟨n, l, he, hl⟩
  · rw [he]; exact Nat.zero_le _
  · rw [he]; exact hl
theorem sitesRet_any {g : GV} {p : Int} {ws : List Int} {w : World} {e : Ending} {w' : World} (h : SitesRet (sitesE g p ws) w e w') : ∃ a c, e = .returned (.tuple #[.int .i64 (sitesE g p ws).1, .slice a (sitesE g p ws).2.1.length c, .int .i64 (sitesE g p ws).2.2]) ∧ RowN w.heap.size w' a c (sitesE g p ws).2.1 ∧ Below w.heap.size w w' := by
  rcases sitesE_cases g p ws with ⟨c, hc, he⟩ | ⟨n, l, he, _⟩
  · rw [he] at h ⊢
    obtain ⟨hb, ⟨_, h1⟩ | ⟨h1, _⟩⟩ := h
    · exact ⟨none, 0, h1, World.ownsRow_nil _ _ _ _, hb⟩
    · exact absurd h1 hc
  · obtain ⟨a, c, h1, h2, h3⟩ := sitesRet_ok h he
    rw [he]
    exact ⟨a, c, h1, h2, h3⟩
theorem sameConf_same {a b : Option Addr} {c c2 : Nat} {p : Int} {xs : List Int} {w : World} (h1 : RowI w a xs) (h2 : RowI w b xs) (hm : xs.length ≤ 4096) : Calls Try.prog 11 #[.agg #[.int .i64 p, .slice a xs.length c], .agg #[.int .i64 p, .slice b xs.length c2]] w fun e w' => e = .returned (.bool true) ∧ Below w.heap.size w w' := by
  have h := sameConf_is p p a b xs.length c xs.length c2 xs xs w h1 rfl h2 rfl (by omega)
  rw [decide_eq_true rfl, decide_eq_true rfl] at h
  exact h
theorem RowI.take {w : World} {a : Option Addr} {xs : List Int} (h : RowI w a xs) (n : Nat) : RowI w a (xs.take n) := by
  rcases h with rfl | ⟨b, off, ha, hc⟩
  · exact .inl (by simp)
  · refine .inr ⟨b, off, ha, fun i x hx => hc i x ?_⟩
    rw [List.getElem?_take] at hx
    split at hx
    · exact hx
    · cases hx
theorem RowI.at_none {w : World} {a : Option Addr} {xs : List Int} (h : RowI w a xs) (hl : 0 < xs.length) : ∀ p, a = some p → ∃ b o, p = ⟨b, o, none⟩ := fun p hp => by
  rcases h with rfl | ⟨b, off, ha, _⟩
  · simp at hl
  · rw [ha] at hp; cases hp; exact ⟨b, off, rfl⟩
end Go.Proofs.Ytpinbmjkbkogdaa
namespace Go.Proofs.Ytpinbmjkbkogdaa
open Go Go.RowKit
set_option linter.unusedVariables false
theorem goes_10 : goesIn Try.prog 10 = true := by kernel_rfl
theorem goes_8 : goesIn Try.prog 8 = true := by kernel_rfl
set_option maxRecDepth 100000 in
set_option maxHeartbeats 4000000 in
theorem encodeConfs_c (va : Option Addr) (vl : Nat) (vc : Nat) (pa : Option Addr) (pl : Nat) (pc : Nat) (ea : Option Addr) (el : Nat) (ec : Nat) (es : List Int) (xa : Option Addr) (xl : Nat) (xc : Nat) (xs : List Int) (mn : Int) (oa : Option Addr) (ol : Nat) (oc : Nat) (os : List Int) (sa : Option Addr) (sl : Nat) (sc : Nat) (ss : List TV) (ta : Option Addr) (tl : Nat) (tc : Nat) (ts : List UV) (na : Option Addr) (nl : Nat) (nc : Nat) (ns : List NV) (ka : Option Addr) (kl : Nat) (kc : Nat) (ks : List KV) (node : Int) (la : Option Addr) (ll lc : Nat) (is : List Int) (p : Int) (wa : Option Addr) (wl wc : Nat) (ws : List Int) (w : World) (he : RowI w ea es) (hel : es.length = el) (hx : RowI w xa xs) (hxl : xs.length = xl) (ho : RowI w oa os) (hol : os.length = ol) (hs : RowL TV.sev 7 w sa ss) (hsl : ss.length = sl) (ht : RowL UV.four 4 w ta ts) (htl : ts.length = tl) (hn : RowL NV.two 2 w na ns) (hnl : ns.length = nl) (hk : RowL KV.two 2 w ka ks) (hkl : ks.length = kl) (hrla : RowI w la is) (hll : is.length = ll) (hlc : ll ≤ lc) (hlm : ll ≤ 9223372036854775807) (hrw : RowI w wa ws) (hwl : ws.length = wl) (hwc : wl ≤ wc) (hwm : wl ≤ 9223372036854775807) :
    Calls Try.prog 3 #[.agg #[.slice va vl vc, .slice pa pl pc, .slice ea el ec, .slice xa xl xc, .int .i64 mn, .slice oa ol oc, .slice sa sl sc, .slice ta tl tc, .slice na nl nc, .slice ka kl kc], .int .i64 node, .slice la ll lc, .agg #[.int .i64 p, .slice wa wl wc]] w (fun e w' => e = .returned (.bool (true)) ∧ Below w.heap.size w w') := by
  refine enterF (args := [.agg #[.slice va vl vc, .slice pa pl pc, .slice ea el ec, .slice xa xl xc, .int .i64 mn, .slice oa ol oc, .slice sa sl sc, .slice ta tl tc, .slice na nl nc, .slice ka kl kc], .int .i64 node, .slice la ll lc, .agg #[.int .i64 p, .slice wa wl wc]]) Try.func3 rfl Try.ntmps3 rfl ?_
  have hS := St.start w
  refine seqF ?_
  refine regF ?_
  refine op_box (cs := [_, _, _, _, _, _, _, _, _, _]) hS rfl rfl rfl ?_
  clear hS; intro B1 W1 hS
  refine op_box (cs := [_, _]) hS rfl rfl rfl ?_
  clear hS; intro B2 W2 hS
  refine op_assign rfl rfl ?_
  refine endF ?_
  refine XF.thenN ?_
  refine seqF ?_
  refine seqF ?_
  refine regF ?_
  refine op_loadA (vs := [_, _, _, _, _, _, _, _, _, _]) Try.isAgg29 Try.sizeOf29 rfl (CellsAt.own (j := 0) (m := 10) (hS.at_ 1 rfl) rfl) rfl ?_
  refine op_call (vs := [_]) hS goes_5 rfl (small_is ⟨_, vl, vc, _, pl, pc, _, el, ec, es, _, xl, xc, xs, mn, _, ol, oc, os, _, sl, sc, ss, _, tl, tc, ts, _, nl, nc, ns, _, kl, kc, ks⟩ _) rfl ?_
  rintro e W3 ⟨rfl, hb⟩
  refine ⟨_, rfl, hb, fun hS' => ?_⟩
  clear hS; have hS := hS'; clear hS' hb
  refine op_not rfl rfl ?_
  refine endF ?_
  refine XF.thenN ?_
  refine condF rfl (fun hc => ?_) (fun hc => ?_)
  · have hc21 := hc; clear hc
    refine seqF ?_
    refine regF ?_
    refine op_call (vs := []) hS goes_6 rfl (alive_is _) rfl ?_
    rintro e W4 ⟨rfl, hb⟩
    refine ⟨_, rfl, hb, fun hS' => ?_⟩
    clear hS; have hS := hS'; clear hS' hb
    refine op_assign rfl rfl ?_
    refine endF ?_
    refine XF.thenN ?_
    refine retF ?_
    refine XF.thenR ?_
    refine XF.res (res1 Try.results3 rfl) ?_
    exact ⟨rfl, hS.below⟩
  · have hc21 := hc; clear hc
    have hsm : smallB ⟨va, vl, vc, pa, pl, pc, ea, el, ec, es, xa, xl, xc, xs, mn, oa, ol, oc, os, sa, sl, sc, ss, ta, tl, tc, ts, na, nl, nc, ns, ka, kl, kc, ks⟩ = true := by simpa using hc21
    have hfw := small_few hsm
    have hgi : GIn w ⟨va, vl, vc, pa, pl, pc, ea, el, ec, es, xa, xl, xc, xs, mn, oa, ol, oc, os, sa, sl, sc, ss, ta, tl, tc, ts, na, nl, nc, ns, ka, kl, kc, ks⟩ := ⟨he, hel, hx, hxl, ho, hol, hs, hsl, ht, htl, hn, hnl, hk, hkl⟩
    refine skipF ?_
    refine XF.thenN ?_
    refine joinF (fun l W => ∃ (l2 : Nat) (i2 : List Int), l2 ≤ 5000 ∧ i2.length = l2 ∧ RowI w la i2 ∧ l = [(4, .pointer (some ⟨B1, 0, none⟩)), (7, .pointer (some ⟨B2, 0, none⟩)), (1, .int .i64 node), (2, .slice la l2 lc)] ∧ St w [(B2, [.int .i64 p, .slice wa wl wc], 31), (B1, [.slice va vl vc, .slice pa pl pc, .slice ea el ec, .slice xa xl xc, .int .i64 mn, .slice oa ol oc, .slice sa sl sc, .slice ta tl tc, .slice na nl nc, .slice ka kl kc], 29)] [] [] W) ?_ ?_
    · clear hS
      rintro _ W ⟨l2, i2, hl2, hi2, hrl, rfl, hS⟩
      refine joinF (fun l W => ∃ (l3 : Nat) (w2 : List Int), l3 ≤ wc ∧ w2.length = l3 ∧ RowI w wa w2 ∧ l = [(4, .pointer (some ⟨B1, 0, none⟩)), (7, .pointer (some ⟨B2, 0, none⟩)), (1, .int .i64 node), (2, .slice la l2 lc)] ∧ St w [(B2, [.int .i64 p, .slice wa l3 wc], 31), (B1, [.slice va vl vc, .slice pa pl pc, .slice ea el ec, .slice xa xl xc, .int .i64 mn, .slice oa ol oc, .slice sa sl sc, .slice ta tl tc, .slice na nl nc, .slice ka kl kc], 29)] [] [] W) ?_ ?_
      · clear hS
        rintro _ W ⟨l3, w2, hl3, hw2, hrw2, rfl, hS⟩
        refine seqF ?_
        refine regF ?_
        refine op_loadA (vs := [_, _, _, _, _, _, _, _, _, _]) Try.isAgg29 Try.sizeOf29 rfl (CellsAt.own (j := 0) (m := 10) (hS.at_ 1 rfl) rfl) rfl ?_
        refine op_move rfl rfl ?_
        refine op_move rfl rfl ?_
        refine op_call (vs := [_, _, _]) hS goes_7 rfl ((conf_is ⟨va, vl, vc, pa, pl, pc, ea, el, ec, es, xa, xl, xc, xs, mn, oa, ol, oc, os, sa, sl, sc, ss, ta, tl, tc, ts, na, nl, nc, ns, ka, kl, kc, ks⟩ node la l2 lc i2 _ (hgi.below hS.below) hfw (hrl.below hS.below) hi2 hl2).mono fun e w2 h => confRet_any h) rfl ?_
        rintro e W5 ⟨a1, c1, rfl, hr1, hb⟩
        refine ⟨_, rfl, hb, fun hS' => ?_⟩
        clear hS; have hS := hS'; clear hS' hb
        refine op_move rfl rfl ?_
        refine op_extract rfl rfl rfl ?_
        refine op_extract rfl rfl rfl ?_
        refine op_alloc (cs := [_, _]) hS Try.zeroValue31 rfl rfl ?_
        clear hS; intro B6 W6 hS
        refine op_storeA (i := 0) (vs := [_, _]) (cs' := [_, _]) (O' := [_, _, _]) hS Try.sizeOf31 rfl rfl rfl rfl rfl rfl rfl ?_
        clear hS; intro W7 hS
        refine op_assign rfl rfl ?_
        refine endF ?_
        refine XF.thenN ?_
        refine seqF ?_
        refine regF ?_
        refine op_loadA (vs := [_, _, _, _, _, _, _, _, _, _]) Try.isAgg29 Try.sizeOf29 rfl (CellsAt.own (j := 0) (m := 10) (hS.at_ 2 rfl) rfl) rfl ?_
        refine op_move rfl rfl ?_
        refine op_move rfl rfl ?_
        refine op_call (vs := [_, _, _]) hS goes_8 rfl ((confR_is ⟨va, vl, vc, pa, pl, pc, ea, el, ec, es, xa, xl, xc, xs, mn, oa, ol, oc, os, sa, sl, sc, ss, ta, tl, tc, ts, na, nl, nc, ns, ka, kl, kc, ks⟩ node la l2 lc i2 _ (hgi.below hS.below) hfw (hrl.below hS.below) hi2 hl2).mono fun e w2 h => confRet_any h) rfl ?_
        rintro e W8 ⟨a2, c2, rfl, hr2, hb⟩
        refine ⟨_, rfl, hb, fun hS' => ?_⟩
        clear hS; have hS := hS'; clear hS' hb
        refine op_move rfl rfl ?_
        refine op_extract rfl rfl rfl ?_
        refine op_extract rfl rfl rfl ?_
        refine op_alloc (cs := [_, _]) hS Try.zeroValue31 rfl rfl ?_
        clear hS; intro B9 W9 hS
        refine op_storeA (i := 0) (vs := [_, _]) (cs' := [_, _]) (O' := [_, _, _, _]) hS Try.sizeOf31 rfl rfl rfl rfl rfl rfl rfl ?_
        clear hS; intro W10 hS
        refine op_assign rfl rfl ?_
        refine endF ?_
        refine XF.thenN ?_
        refine seqF ?_
        refine regF ?_
        refine op_loadA (vs := [_, _, _, _, _, _, _, _, _, _]) Try.isAgg29 Try.sizeOf29 rfl (CellsAt.own (j := 0) (m := 10) (hS.at_ 3 rfl) rfl) rfl ?_
        refine op_loadA (vs := [_, _]) Try.isAgg31 Try.sizeOf31 rfl (CellsAt.own (j := 0) (m := 2) (hS.at_ 2 rfl) rfl) rfl ?_
        refine op_call (vs := [_, _]) hS goes_9 rfl ((sites_is ⟨va, vl, vc, pa, pl, pc, ea, el, ec, es, xa, xl, xc, xs, mn, oa, ol, oc, os, sa, sl, sc, ss, ta, tl, tc, ts, na, nl, nc, ns, ka, kl, kc, ks⟩ p wa l3 wc w2 _ (hgi.below hS.below) hfw (hrw2.below hS.below) hw2 hl3).mono fun e w2 h => sitesRet_any h) rfl ?_
        rintro e W11 ⟨a3, c3, rfl, hr3, hb⟩
        refine ⟨_, rfl, hb, fun hS' => ?_⟩
        clear hS; have hS := hS'; clear hS' hb
        refine op_move rfl rfl ?_
        refine op_extract rfl rfl rfl ?_
        refine op_extract rfl rfl rfl ?_
        refine op_extract rfl rfl rfl ?_
        refine op_assign rfl rfl ?_
        refine op_assign rfl rfl ?_
        refine op_assign rfl rfl ?_
        refine endF ?_
        refine XF.thenN ?_
        refine seqF ?_
        refine regF ?_
        refine op_loadA (vs := [_, _, _, _, _, _, _, _, _, _]) Try.isAgg29 Try.sizeOf29 rfl (CellsAt.own (j := 0) (m := 10) (hS.at_ 3 rfl) rfl) rfl ?_
        refine op_loadA (vs := [_, _]) Try.isAgg31 Try.sizeOf31 rfl (CellsAt.own (j := 0) (m := 2) (hS.at_ 2 rfl) rfl) rfl ?_
        refine op_call (vs := [_, _]) hS goes_10 rfl ((sitesR_is ⟨va, vl, vc, pa, pl, pc, ea, el, ec, es, xa, xl, xc, xs, mn, oa, ol, oc, os, sa, sl, sc, ss, ta, tl, tc, ts, na, nl, nc, ns, ka, kl, kc, ks⟩ p wa l3 wc w2 _ (hgi.below hS.below) hfw (hrw2.below hS.below) hw2 hl3).mono fun e w2 h => sitesRet_any h) rfl ?_
        rintro e W12 ⟨a4, c4, rfl, hr4, hb⟩
        refine ⟨_, rfl, hb, fun hS' => ?_⟩
        clear hS; have hS := hS'; clear hS' hb
        refine op_move rfl rfl ?_
        refine op_extract rfl rfl rfl ?_
        refine op_extract rfl rfl rfl ?_
        refine op_extract rfl rfl rfl ?_
        refine op_assign rfl rfl ?_
        refine op_assign rfl rfl ?_
        refine op_assign rfl rfl ?_
        refine endF ?_
        refine XF.thenN ?_
        refine seqF ?_
        refine regF ?_
        refine op_loadA (vs := [_, _]) Try.isAgg31 Try.sizeOf31 rfl (CellsAt.own (j := 0) (m := 2) (hS.at_ 1 rfl) rfl) rfl ?_
        refine op_loadA (vs := [_, _]) Try.isAgg31 Try.sizeOf31 rfl (CellsAt.own (j := 0) (m := 2) (hS.at_ 0 rfl) rfl) rfl ?_
        refine op_call (vs := [_, _]) hS goes_11 rfl (sameConf_same (hr1.agree (hS.since 3 rfl)).row (hr2.agree (hS.since 2 rfl)).row (confE_len _ _ _)) rfl ?_
        rintro e W13 ⟨rfl, hb⟩
        refine ⟨_, rfl, hb, fun hS' => ?_⟩
        clear hS; have hS := hS'; clear hS' hb
        refine op_move rfl rfl ?_
        refine op_wantedF (d := 67) rfl rfl ?_
        refine op_move rfl rfl ?_
        refine op_wantedF (d := 67) rfl rfl ?_
        refine op_move rfl rfl ?_
        refine op_wantedF (d := 67) rfl rfl ?_
        refine op_eql rfl rfl rfl ?_
        refine op_pickT rfl rfl rfl ?_
        refine op_move rfl rfl ?_
        refine op_cases (d := 72) rfl (fun hc => ?_) (fun hc => absurd (of_decide_eq_false hc) (by exact fun h => h rfl))
        have hc := of_decide_eq_true hc
        refine op_wantedF (d := 72) rfl rfl ?_
        refine op_move rfl rfl ?_
        refine op_wantedF (d := 72) rfl rfl ?_
        refine op_move rfl rfl ?_
        refine op_wantedF (d := 72) rfl rfl ?_
        refine op_eql rfl rfl rfl ?_
        refine op_pickT rfl rfl rfl ?_
        refine op_move rfl rfl ?_
        refine op_cases (d := 77) rfl (fun hc => ?_) (fun hc => absurd (of_decide_eq_false hc) (by exact fun h => h rfl))
        have hc := of_decide_eq_true hc
        refine op_wantedF (d := 77) rfl rfl ?_
        refine op_move rfl rfl ?_
        refine op_wantedF (d := 77) rfl rfl ?_
        refine op_move rfl rfl ?_
        refine op_wantedF (d := 77) rfl rfl ?_
        refine op_call (vs := [_, _]) hS goes_12 rfl (ints_same (hr3.agree (hS.since 2 rfl)).row rfl (hr4.agree (hS.since 1 rfl)).row rfl (Nat.le_trans (sitesE_len _ _ _) (by decide))) rfl ?_
        rintro e W14 ⟨rfl, hb⟩
        refine ⟨_, rfl, hb, fun hS' => ?_⟩
        clear hS; have hS := hS'; clear hS' hb
        refine op_pickT rfl rfl rfl ?_
        refine op_move rfl rfl ?_
        refine op_wantedF (d := 82) rfl rfl ?_
        refine op_move rfl rfl ?_
        refine op_wantedF (d := 82) rfl rfl ?_
        refine op_move rfl rfl ?_
        refine op_wantedF (d := 82) rfl rfl ?_
        refine op_eql rfl rfl rfl ?_
        refine op_pickT rfl rfl rfl ?_
        refine op_move rfl rfl ?_
        refine op_cases (d := 87) rfl (fun hc => ?_) (fun hc => absurd (of_decide_eq_false hc) (by exact fun h => h rfl))
        have hc := of_decide_eq_true hc
        refine op_wantedF (d := 87) rfl rfl ?_
        refine op_call (vs := []) hS goes_6 rfl (alive_is _) rfl ?_
        rintro e W15 ⟨rfl, hb⟩
        refine ⟨_, rfl, hb, fun hS' => ?_⟩
        clear hS; have hS := hS'; clear hS' hb
        refine op_pickT rfl rfl rfl ?_
        refine op_assign rfl rfl ?_
        refine endF ?_
        refine XF.thenN ?_
        refine retF ?_
        refine XF.res (res1 Try.results3 rfl) ?_
        exact ⟨rfl, hS.below⟩
      · skip
        refine seqF ?_
        refine regF ?_
        refine op_field (o' := 1) fa_31_1 rfl rfl rfl ?_
        refine op_load Try.isAgg23 rfl (cell_own (hS.at_ 0 rfl) rfl) rfl ?_
        refine op_len Try.underlying23 rfl rfl ?_
        refine op_gtr rfl rfl rfl ?_
        refine endF ?_
        refine XF.thenN ?_
        refine condF rfl (fun hc => ?_) (fun hc => ?_)
        · have hc31 := of_decide_eq_true hc; clear hc
          refine regF ?_
          refine op_field (o' := 1) fa_31_1 rfl rfl rfl ?_
          refine op_load Try.isAgg23 rfl (cell_own (hS.at_ 0 rfl) rfl) rfl ?_
          refine op_sliceTo (k := 5000) Try.underlying23 Try.sizeOf3 rfl rfl rfl (by omega) (by omega) (hrw.at_none (by omega)) rfl ?_
          refine op_field (o' := 1) fa_31_1 rfl rfl rfl ?_
          refine op_store (i := 0) (cs' := [_, _]) (O' := [_, _]) hS Try.sizeOf23 rfl rfl rfl rfl rfl rfl rfl ?_
          clear hS; intro W16 hS
          refine endF ?_
          exact XF.join [(4, _), (7, _), (1, _), (2, _)] ⟨rfl, rfl, rfl, rfl, trivial⟩ ⟨5000, ws.take 5000, by omega, by rw [List.length_take]; omega, hrw.take 5000, rfl, hS.clear⟩
        · have hc31 := of_decide_eq_false hc; clear hc
          refine skipF ?_
          exact XF.join [(4, _), (7, _), (1, _), (2, _)] ⟨rfl, rfl, rfl, rfl, trivial⟩ ⟨wl, ws, hwc, hwl, hrw, rfl, hS.clear⟩
    · skip
      refine seqF ?_
      refine regF ?_
      refine op_move rfl rfl ?_
      refine op_len Try.underlying23 rfl rfl ?_
      refine op_gtr rfl rfl rfl ?_
      refine endF ?_
      refine XF.thenN ?_
      refine condF rfl (fun hc => ?_) (fun hc => ?_)
      · have hc25 := of_decide_eq_true hc; clear hc
        refine regF ?_
        refine op_move rfl rfl ?_
        refine op_sliceTo (k := 5000) Try.underlying23 Try.sizeOf3 rfl rfl rfl (by omega) (by omega) (hrla.at_none (by omega)) rfl ?_
        refine op_assign rfl rfl ?_
        refine endF ?_
        exact XF.join [(4, _), (7, _), (1, _), (2, _)] ⟨rfl, rfl, rfl, rfl, trivial⟩ ⟨5000, is.take 5000, Nat.le_refl _, by rw [List.length_take]; omega, hrla.take 5000, rfl, hS.clear⟩
      · have hc25 := of_decide_eq_false hc; clear hc
        refine skipF ?_
        exact XF.join [(4, _), (7, _), (1, _), (2, _)] ⟨rfl, rfl, rfl, rfl, trivial⟩ ⟨ll, is, by omega, hll, hrla, rfl, hS.clear⟩
end Go.Proofs.Ytpinbmjkbkogdaa
namespace Go.Proofs.Ytpinbmjkbkogdaa
open Go.RowKit Go.ChangeShapes Go.WideShapes Go.Deep Go.Joins
set_option linter.unusedVariables false
structure DV where
  p : Int
  wa : Option Addr
  wl : Nat
  wc : Nat
  ws : List Int
abbrev DV.val (c : DV) : Value := .agg #[.int .i64 c.p, .slice c.wa c.wl c.wc]
section
variable {H : Type} {enc : TypeId × Value → H} {w : World} {base : Nat} {spare : Nat → Bool} {held : Bool}
set_option maxRecDepth 100000 in
theorem conf_in {n : Nat} {cs : List Value} {x : DataW H × List MemPlace} (h : DataW.trod enc Try.prog w base spare held n 31 cs = some x) : ∃ c : DV, cs = [.int .i64 c.p, .slice c.wa c.wl c.wc] ∧ RowI w c.wa c.ws ∧ c.ws.length = c.wl ∧ c.wl ≤ c.wc ∧ c.wl ≤ 9223372036854775807 := by
  obtain ⟨xs, n', hn, _, hl, hlen, hg⟩ := DataW.trod_struct Try.underlying31 h
  rw [show Try.prog.cellsOf 31 = 2 by kernel_rfl] at hl
  obtain ⟨a, b, rfl⟩ := two_len hl
  have hlen2 : xs.length = 2 := hlen
  have g0 := hg 0 _ rfl
  have g1 := hg 1 _ rfl
  rw [show Try.prog.cellsOf _ = 1 by kernel_rfl, List.getElem?_eq_getElem (by omega)] at g0 g1
  obtain ⟨z0, e0, _, w0⟩ := DataW.trod_int (k := .i64) (by kernel_rfl) g0
  simp at e0
  subst e0
  obtain ⟨ra, rl, rc, ws, rfl, hrow, hrl, hcap, hm⟩ := ints_in (v := b) g1
  exact ⟨⟨z0, ra, rl, rc, ws⟩, rfl, hrow, hrl, hcap, by simp only [maxLen] at hm; dsimp only; omega⟩
set_option maxRecDepth 100000 in
theorem conf_open {r : Reach} {b0 : Nat} {v : Value} {d : DataW H} {p : List MemPlace} (hv : Value.okWide Try.prog w r b0 31 v) (h : DataW.Trod enc Try.prog w base spare held 31 v d p) :
    ∃ c : DV, v = c.val ∧ RowI w c.wa c.ws ∧ c.ws.length = c.wl ∧ c.wl ≤ c.wc ∧ c.wl ≤ 9223372036854775807 := by
  obtain ⟨cs, rfl, _⟩ := okWide_struct Try.underlying31 hv
  obtain ⟨n, h⟩ := h
  obtain ⟨s, e, hs⟩ := conf_in (n := n) h
  have e' : cs.toList = _ := e
  exact ⟨s, by show Value.agg cs = Value.agg _; congr 1; exact Array.ext' e', hs⟩
end
theorem encodeConfs_walk (g : GV) (node : Int) (la : Option Addr) (ll lc : Nat) (is : List Int) (c : DV) (w : World) (hg : GIn w g) (hw : (Lit.int .i64 node).wf = true) (hl : RowI w la is ∧ is.length = ll ∧ ll ≤ lc ∧ ll ≤ 9223372036854775807) (hc : RowI w c.wa c.ws ∧ c.ws.length = c.wl ∧ c.wl ≤ c.wc ∧ c.wl ≤ 9223372036854775807) :
    Calls Try.prog 3 #[g.val, .int .i64 node, .slice la ll lc, c.val] w (fun e w' => e = .returned (.bool true) ∧ Below w.heap.size w w') :=
  encodeConfs_c g.va g.vl g.vc g.pa g.pl g.pc g.ea g.el g.ec g.es g.xa g.xl g.xc g.xs g.mn g.oa g.ol g.oc g.os g.sa g.sl g.sc g.ss g.ta g.tl g.tc g.ts g.na g.nl g.nc g.ns g.ka g.kl g.kc g.ks node la ll lc is c.p c.wa c.wl c.wc c.ws w hg.e hg.el hg.x hg.xl hg.o hg.ol hg.s hg.sl hg.t hg.tl hg.n hg.nl hg.k hg.kl hl.1 hl.2.1 hl.2.2.1 hl.2.2.2 hc.1 hc.2.1 hc.2.2.1 hc.2.2.2
end Go.Proofs.Ytpinbmjkbkogdaa
