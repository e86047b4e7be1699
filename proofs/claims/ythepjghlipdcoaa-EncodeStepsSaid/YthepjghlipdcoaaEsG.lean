import Derived.Orders
import Derived.Below
import Derived.Deep.RegionHeld
import Derived.WalkKit
import Derived.KernelRfl
import Derived.Laws.Rows
import Derived.Laws.AppendOwn
import Derived.Laws.Strings
import Derived.Laws.Small
import Derived.Lib.Hide
import Derived.IntWalk
import Derived.Laws.Tables
import Derived.Laws.Concat
import Derived.Laws.MakeOwn
import Derived.Lib.OwnBridge
import Derived.Laws.IdiomStrings
import Derived.Lib.ItoaLen
import Derived.Lib.UnsafeStr
import Derived.Lib.AppendIntMem
import Derived.Test.YthepjghlipdcoaaRows
import Derived.RangeFuncNested
import Derived.RangeFuncBound
import Derived.RangeFuncCalls
import Derived.RangeFuncLeaves
import Derived.OwnWalkIn
import Derived.TacticsInMore
import Derived.LoopNIn
import Derived.Shelf.Abstract
import Derived.Lib.SmallJoins
import Derived.Deep.Slices
import Derived.Deep.Fields
import Derived.ChangeSlices
import Derived.ChangeSame
import Derived.ProofKit
import Derived.Test.YthepjghlipdcoaaProg
import Derived.Lib.TrailingZeros
import Derived.Lib.LaidTab
import Derived.Lib.ItoaNum
import Derived.Stop.LaidErr
import Derived.WalkSmall
import Derived.LaidMore
import Derived.Shelf.Spec.TrailingZeros
import Derived.Laws.BitsAllLaws
import Derived.Laws.Bits64
import Derived.Deep.QuietTactic
import Derived.BigQuiet
import Derived.RegionTactic
import Derived.BigRegion
import Derived.Deep.RegionHeld3
import Derived.ChangeAlike
import Derived.Laws.Bits128
import Derived.Deep.AppendLies
import Derived.Sort.Grow
import Derived.Shelf.RegionOpen
import Derived.LoopIn
import Derived.Maps.AppendAt
import Derived.Shelf.Lay
import Derived.Shelf.LaySoft
import Derived.Lib.OthersKept
import Derived.StillTailTactics
import Derived.Deep.RegionLaw
import Derived.Deep.DeepCutAuto
import Derived.Deep.CutRange
import Derived.Deep.RegionWith
import Derived.Laws.Bits64b
import Derived.Deep.DrawnRows
import Derived.Laws.OwnMore
import Derived.OwnWalk
import Derived.WalkSpells
import Derived.Lib.SliceRun
import Derived.Lib.Join
import Derived.Test.YthepjghlipdcoaaEsA
import Derived.Test.YthepjghlipdcoaaEsB
import Derived.Test.YthepjghlipdcoaaEsC
import Derived.Test.YthepjghlipdcoaaEsD
import Derived.Test.YthepjghlipdcoaaEsE
import Derived.Test.YthepjghlipdcoaaEsF
set_option maxRecDepth 100000
set_option maxHeartbeats 4000000
set_option linter.unusedVariables false
set_option linter.unusedVariables false
set_option linter.unusedSimpArgs false
set_option linter.unusedSectionVars false
set_option linter.unnecessarySimpa false
namespace Go.Proofs.Ythepjghlipdcoaa
open Go Go.RowKit
theorem gr_goes_16 : goesIn Try.prog 16 = true := by kernel_rfl
theorem confR_c (va : Option Addr) (vl : Nat) (vc : Nat) (pa : Option Addr) (pl : Nat) (pc : Nat) (ea : Option Addr) (el : Nat) (ec : Nat) (es : List Int) (xa : Option Addr) (xl : Nat) (xc : Nat) (xs : List Int) (mn : Int) (oa : Option Addr) (ol : Nat) (oc : Nat) (os : List Int) (sa : Option Addr) (sl : Nat) (sc : Nat) (ss : List TV) (ta : Option Addr) (tl : Nat) (tc : Nat) (ts : List UV) (na : Option Addr) (nl : Nat) (nc : Nat) (ns : List NV) (ka : Option Addr) (kl : Nat) (kc : Nat) (ks : List KV) (node : Int) (la : Option Addr) (ll lc : Nat) (is : List Int) (w : World) (he : RowI w ea es) (hel : es.length = el) (hx : RowI w xa xs) (hxl : xs.length = xl) (ho : RowI w oa os) (hol : os.length = ol) (hs : RowL TV.sev 7 w sa ss) (hsl : ss.length = sl) (ht : RowL UV.four 4 w ta ts) (htl : ts.length = tl) (hn : RowL NV.two 2 w na ns) (hnl : ns.length = nl) (hk : RowL KV.two 2 w ka ks) (hkl : ks.length = kl) (b1 : vl ≤ 5000) (b2 : pl ≤ 5000) (b3 : el ≤ 5000) (b4 : xl ≤ 5000) (b5 : ol ≤ 5000) (b6 : sl ≤ 5000) (b7 : tl ≤ 5000) (b8 : nl ≤ 5000) (b9 : kl ≤ 5000) (hrla : RowI w la is) (hll : is.length = ll) (hlm : ll ≤ 5000) :
  Calls Try.prog 8 #[.agg #[.slice va vl vc, .slice pa pl pc, .slice ea el ec, .slice xa xl xc, .int .i64 mn, .slice oa ol oc, .slice sa sl sc, .slice ta tl tc, .slice na nl nc, .slice ka kl kc], .int .i64 node, .slice la ll lc] w (ConfRet (confE ⟨va, vl, vc, pa, pl, pc, ea, el, ec, es, xa, xl, xc, xs, mn, oa, ol, oc, os, sa, sl, sc, ss, ta, tl, tc, ts, na, nl, nc, ns, ka, kl, kc, ks⟩ node is) w) := by
 refine enterF (args := [.agg #[.slice va vl vc, .slice pa pl pc, .slice ea el ec, .slice xa xl xc, .int .i64 mn, .slice oa ol oc, .slice sa sl sc, .slice ta tl tc, .slice na nl nc, .slice ka kl kc], .int .i64 node, .slice la ll lc]) Try.func8 rfl Try.ntmps8 rfl ?_
 have hS := St.start w
 refine seqF (regF ?_)
 refine op_box (cs := [_, _, _, _, _, _, _, _, _, _]) hS rfl rfl rfl ?_
 clear hS; intro B1 W1 hS
 refine op_alloc (cs := [_, _]) hS Try.zeroValue44 rfl rfl ?_
 clear hS; intro B2 W2 hS
 refine op_assign rfl rfl ?_
 refine endF (XF.thenN ?_)
 refine seqF (regF ?_)
 refine op_loadA (vs := [_, _, _, _, _, _, _, _, _, _]) Try.isAgg29 Try.sizeOf29 rfl (CellsAt.own (j := 0) (m := 10) (hS.at_ 1 rfl) rfl) rfl ?_
 refine op_call (vs := [_]) hS gr_goes_16 rfl (checkR_c _ vl vc _ pl pc _ el ec es _ xl xc xs mn _ ol oc os _ sl sc ss _ tl tc ts _ nl nc ns _ kl kc ks  _ (he.below hS.below) hel (hx.below hS.below) hxl (ho.below hS.below) hol (hs.below hS.below) hsl (ht.below hS.below) htl (hn.below hS.below) hnl (hk.below hS.below) hkl b1 b2 b3 b4 b5 b6 b7 b8 b9) rfl ?_
 rintro e W3 ⟨rfl, hb⟩
 refine ⟨_, rfl, hb, fun hS' => ?_⟩
 clear hS; have hS := hS'; clear hS' hb
 refine op_assign rfl rfl ?_
 refine endF (XF.thenN ?_)
 refine seqF ?_
 refine seqF (regF ?_)
 refine op_move rfl rfl ?_
 refine op_neq rfl rfl rfl ?_
 refine endF (XF.thenN ?_)
 refine condF rfl (fun hc => ?_) (fun hc => ?_)
 ·have hc14 := of_decide_eq_true hc; clear hc
  have hce : gr_checkE ⟨va, vl, vc, pa, pl, pc, ea, el, ec, es, xa, xl, xc, xs, mn, oa, ol, oc, os, sa, sl, sc, ss, ta, tl, tc, ts, na, nl, nc, ns, ka, kl, kc, ks⟩ ≠ 0 := hc14
  refine seqF (regF ?_)
  refine op_build (us := []) rfl (gr_bld_44) rfl ?_
  refine op_move rfl rfl ?_
  refine op_storeA (i := 0) (vs := [_, _]) (cs' := [_, _]) (O' := [_, _]) hS Try.sizeOf44 rfl rfl rfl rfl rfl rfl rfl ?_
  clear hS; intro W4 hS
  refine op_assign rfl rfl ?_
  refine endF (XF.thenN ?_)
  refine retF ?_
  refine XF.thenR ?_
  refine XF.res (resCT (vs := [_, _]) Try.results8 Try.isAgg44 Try.sizeOf44 rfl (CellsAt.own (j := 0) (m := 2) (hS.at_ 0 rfl) rfl) rfl) ?_
  exact confRet_bad hS.below (by unfold confE; rw [if_pos hce]) hce
 ·have hc14 := of_decide_eq_false hc; clear hc
  have hce : gr_checkE ⟨va, vl, vc, pa, pl, pc, ea, el, ec, es, xa, xl, xc, xs, mn, oa, ol, oc, os, sa, sl, sc, ss, ta, tl, tc, ts, na, nl, nc, ns, ka, kl, kc, ks⟩ = 0 := Decidable.of_not_not hc14
  refine skipF ?_
  refine XF.thenN ?_
  refine seqF ?_
  refine seqF (regF ?_)
  refine op_move rfl rfl ?_
  refine op_lss rfl rfl rfl ?_
  refine op_move rfl rfl ?_
  refine op_cases (d := 19) rfl (fun hc => ?_) (fun hc => ?_)
  ·have hg19 := of_decide_eq_true hc; clear hc
   refine op_notF (d := 19) rfl rfl rfl rfl ?_
   refine op_notF (d := 19) rfl rfl rfl rfl ?_
   refine op_notF (d := 19) rfl rfl rfl rfl ?_
   refine op_notF (d := 19) rfl rfl rfl rfl ?_
   refine op_notF (d := 19) rfl rfl rfl rfl ?_
   refine op_pickT rfl rfl rfl ?_
   refine endF (XF.thenN ?_)
   refine condT rfl ?_
   refine seqF (regF ?_)
   refine op_build (us := []) rfl (gr_bld_44) rfl ?_
   refine op_storeA (i := 0) (vs := [_, _]) (cs' := [_, _]) (O' := [_, _]) hS Try.sizeOf44 rfl rfl rfl rfl rfl rfl rfl ?_
   clear hS; intro W5 hS
   refine op_assign rfl rfl ?_
   refine endF (XF.thenN ?_)
   refine retF ?_
   refine XF.thenR ?_
   refine XF.res (resCT (vs := [_, _]) Try.results8 Try.isAgg44 Try.sizeOf44 rfl (CellsAt.own (j := 0) (m := 2) (hS.at_ 0 rfl) rfl) rfl) ?_
   exact confRet_bad hS.below (by unfold confE; dsimp only; rw [if_neg (by rw [hce]; simp), if_pos (inQ_neg hg19)]) (by decide)
  ·have hg19 := of_decide_eq_false hc; clear hc
   refine op_wantedF (d := 19) rfl rfl ?_
   refine op_move rfl rfl ?_
   refine op_wantedF (d := 19) rfl rfl ?_
   refine op_field (o' := 5) gr_fa_29_5 rfl rfl rfl ?_
   refine op_wantedF (d := 19) rfl rfl ?_
   refine op_load Try.isAgg23 rfl (cell_own (hS.at_ 1 rfl) rfl) rfl ?_
   refine op_wantedF (d := 19) rfl rfl ?_
   refine op_len Try.underlying23 rfl rfl ?_
   refine op_wantedF (d := 19) rfl rfl ?_
   refine op_geq rfl rfl rfl ?_
   refine op_pickF rfl rfl rfl ?_
   refine endF (XF.thenN ?_)
   refine condF rfl (fun hc => ?_) (fun hc => ?_)
   ·have hc25 := of_decide_eq_true hc; clear hc
    refine seqF (regF ?_)
    refine op_build (us := []) rfl (gr_bld_44) rfl ?_
    refine op_storeA (i := 0) (vs := [_, _]) (cs' := [_, _]) (O' := [_, _]) hS Try.sizeOf44 rfl rfl rfl rfl rfl rfl rfl ?_
    clear hS; intro W6 hS
    refine op_assign rfl rfl ?_
    refine endF (XF.thenN ?_)
    refine retF ?_
    refine XF.thenR ?_
    refine XF.res (resCT (vs := [_, _]) Try.results8 Try.isAgg44 Try.sizeOf44 rfl (CellsAt.own (j := 0) (m := 2) (hS.at_ 0 rfl) rfl) rfl) ?_
    exact confRet_bad hS.below (by unfold confE; dsimp only; rw [if_neg (by rw [hce]; simp), if_pos (inQ_big (by omega))]) (by decide)
   ·have hc25 := of_decide_eq_false hc; clear hc
    have hnd : gr_inQ node ol = true := by unfold gr_inQ; rw [decide_eq_true (by omega), decide_eq_true (by omega)]; rfl
    refine skipF ?_
    refine XF.thenN ?_
    refine seqF (regF ?_)
    refine op_move rfl rfl ?_
    refine op_buildSlice (us := [(0, .int .i64 _)]) hS Try.underlying23 Try.sizeOf3 Try.zeroValue3 rfl rfl rfl (gr_bs_23_1 _) rfl ?_
    clear hS; intro B7 W7 hS
    refine op_build (us := [(1, .slice _ _ _)]) rfl (gr_bld_44_1 _ _ _) rfl ?_
    refine op_alloc (cs := [_, _]) hS Try.zeroValue44 rfl rfl ?_
    clear hS; intro B8 W8 hS
    refine op_storeA (i := 0) (vs := [_, _]) (cs' := [_, _]) (O' := [_, _, _, _]) hS Try.sizeOf44 rfl rfl rfl rfl rfl rfl rfl ?_
    clear hS; intro W9 hS
    refine endF (XF.thenN ?_)
    refine seqF ?_
    refine seqF ?_
    have hS := (hS.perm (List.Perm.swap _ _ _)).ownG (n := 1) (size := 1) rfl (by decide)
    refine regF ?_
    refine op_assign rfl rfl ?_
    refine endF (XF.thenN ?_)
    refine blockF ?_
    refine loopF (fun m l W => ∃ (i : Nat) (acc : List Int) (v : Value), i ≤ ll ∧ m = ll - i ∧ l = [(3, .pointer (some ⟨B1, 0, none⟩)), (6, .pointer (some ⟨B2, 0, none⟩)), (9, .pointer (some ⟨B8, 0, none⟩)), (2, .slice la ll lc), (10, .int .i64 (i : Int))] ∧ acc.length = i ∧ (backs ts tl (is.drop i)).map (acc ++ ·) = backs ts tl is ∧ St w [(B8, [.int .i64 0, v], 44), (B2, [.int .i64 0, .slice none 0 0], 44), (B1, [.slice va vl vc, .slice pa pl pc, .slice ea el ec, .slice xa xl xc, .int .i64 mn, .slice oa ol oc, .slice sa sl sc, .slice ta tl tc, .slice na nl nc, .slice ka kl kc], 29)] [⟨v, i + 1, (node :: acc).map (Value.int .i64), 3, 1⟩] [] W) (ll - 0) ([(3, _), (6, _), (9, _), (2, _), (10, _)]) ⟨rfl, rfl, rfl, rfl, rfl, trivial⟩ (⟨0, [], _, Nat.zero_le _, rfl, rfl, rfl, by rw [List.drop_zero]; cases backs ts tl is <;> rfl, hS.clear⟩) ?_
    clear hS
    rintro m l W ⟨i, acc, v, hi, rfl, rfl, hacc, hrun, hS⟩
    obtain ⟨a9, c9, rfl, hac⟩ := ownsRow_sl (v := v) (n := i + 1) (hS.row 0 rfl)
    refine seqF ?_
    refine seqF (regF ?_)
    refine op_move rfl rfl ?_
    refine op_move rfl rfl ?_
    refine op_len Try.underlying23 rfl rfl ?_
    refine op_lss rfl rfl rfl ?_
    refine endF (XF.thenN ?_)
    refine condF rfl (fun hc => ?_) (fun hc => ?_)
    ·have hc33 := of_decide_eq_true hc; clear hc
     have hk1 : i < ll := by omega
     obtain ⟨b, off, y, rfl, hy, hyc⟩ := hrla.get (i := i) (by omega)
     have k1 := (CellsAt.agree hS.agree (Nat.zero_le _) hyc).1
     rw [gr_drop_at hy] at hrun
     refine skipF ?_
     refine XF.thenN ?_
     refine seqF ?_
     refine blockF ?_
     refine seqF ?_
     refine seqF ?_
     rcases (show y < 0 ∨ (0 ≤ y ∧ (tl : Int) ≤ y) ∨ (0 ≤ y ∧ y < (tl : Int)) by omega) with hy0 | ⟨hy0, hyt⟩ | ⟨hy0, hyt⟩
     ·rw [backs_no (inQ_neg hy0)] at hrun
      refine regB (m := 15) gr_followsM hS (by kernel_rfl) (by kernel_rfl) rfl ?_
      refine bl_cons 1 rfl (isV _) (stab_isV _) (rgV (li := [(2, _)]) rfl (w_free rfl) ⟨g_fr (by kernel_rfl) rfl, trivial⟩ (fun w hw => rn_move rfl) (at_top rfl)) ?_
      refine bl_cons 2 rfl (isV _) (stab_isV _) (rgV (li := [(10, _)]) rfl (w_free rfl) ⟨g_fr (by kernel_rfl) rfl, trivial⟩ (fun w hw => rn_move rfl) (at_top rfl)) ?_
      refine bl_cons 3 rfl (isV _) (stab_isV _) (rgV (li := [(36, _), (37, _)]) rfl (w_free rfl) ⟨g_dep 0 (by kernel_rfl) (at_dep rfl rfl rfl), g_dep 1 (by kernel_rfl) (at_dep rfl rfl rfl), trivial⟩ (fun w hw => rn_indexA  Try.underlying23 Try.sizeOf3 rfl rfl rfl (by omega) rfl) (at_top rfl)) ?_
      refine bl_cons 4 rfl (isV _) (stab_isV _) (rgV (li := [(38, _)]) rfl (w_free rfl) ⟨g_dep 2 (by kernel_rfl) (at_dep rfl rfl rfl), trivial⟩ (fun w hw => rn_load Try.isAgg3 rfl ((below_agree hw 0).cell (Nat.zero_le _) (k1))) (at_top rfl)) ?_
      refine bl_cons 5 rfl (isV (.bool true)) (stab_isV _) (rgVe (li := [(39, _)]) rfl (w_free rfl) ⟨g_dep 3 (by kernel_rfl) (at_dep rfl rfl rfl), trivial⟩ (fun w hw => rn_lss rfl rfl) (by rw [decide_eq_true hy0]) (at_top rfl)) ?_
      refine bl_cons 6 rfl (isV _) (stab_isV _) (rgV (li := [(40, _)]) rfl (w_free rfl) ⟨g_dep 4 (by kernel_rfl) (at_dep rfl rfl rfl), trivial⟩ (fun w hw => rn_move rfl) (at_top rfl)) ?_
      refine bl_cons 7 rfl (isV undef) (stab_isV _) (rg_no rfl (w_no 41 rfl (by kernel_rfl) (by kernel_rfl) (at_dep rfl rfl rfl) rfl) (at_top rfl)) ?_
      refine bl_cons 8 rfl (isV undef) (stab_isV _) (rg_no rfl (w_no 41 rfl (by kernel_rfl) (by kernel_rfl) (at_dep rfl rfl rfl) rfl) (at_top rfl)) ?_
      refine bl_cons 9 rfl (isV undef) (stab_isV _) (rg_no rfl (w_no 41 rfl (by kernel_rfl) (by kernel_rfl) (at_dep rfl rfl rfl) rfl) (at_top rfl)) ?_
      refine bl_cons 10 rfl (isV undef) (stab_isV _) (rg_no rfl (w_no 41 rfl (by kernel_rfl) (by kernel_rfl) (at_dep rfl rfl rfl) rfl) (at_top rfl)) ?_
      refine bl_cons 11 rfl (isV undef) (stab_isV _) (rg_no rfl (w_no 41 rfl (by kernel_rfl) (by kernel_rfl) (at_dep rfl rfl rfl) rfl) (at_top rfl)) ?_
      refine bl_cons 12 rfl (isV undef) (stab_isV _) (rg_no rfl (w_no 41 rfl (by kernel_rfl) (by kernel_rfl) (at_dep rfl rfl rfl) rfl) (at_top rfl)) ?_
      refine bl_cons 13 rfl (isV undef) (stab_isV _) (rg_no rfl (w_no 41 rfl (by kernel_rfl) (by kernel_rfl) (at_dep rfl rfl rfl) rfl) (at_top rfl)) ?_
      refine bl_cons 14 rfl (isV undef) (stab_isV _) (rg_no rfl (w_no 41 rfl (by kernel_rfl) (by kernel_rfl) (at_dep rfl rfl rfl) rfl) (at_top rfl)) ?_
      refine bl_cons 15 rfl (isV _) (stab_isV _) (rgV (li := [(41, _)]) rfl (w_free rfl) ⟨g_dep 5 (by kernel_rfl) (at_dep rfl rfl rfl), trivial⟩ (fun w hw => rn_pickT rfl rfl) (at_top rfl)) ?_
      refine bl_nil ?_
      intro W10 hbR hS'
      clear hS; have hS := hS'; clear hS'
      refine fin_v ?_
      refine fin_v ?_
      refine fin_v ?_
      refine fin_v ?_
      refine fin_v ?_
      refine fin_v ?_
      refine fin_v ?_
      refine fin_v ?_
      refine fin_v ?_
      refine fin_v ?_
      refine fin_v ?_
      refine fin_v ?_
      refine fin_v ?_
      refine fin_v ?_
      refine fin_v ?_
      refine fin_nil ?_
      refine XF.thenN ?_
      refine condT rfl ?_
      refine seqF (regF ?_)
      refine op_build (us := []) rfl (gr_bld_44) rfl ?_
      refine op_storeA (i := 1) (vs := [_, _]) (cs' := [_, _]) (O' := [_, _, _]) hS Try.sizeOf44 rfl rfl rfl rfl rfl rfl rfl ?_
      clear hS; intro W11 hS
      refine op_assign rfl rfl ?_
      refine endF (XF.thenN ?_)
      refine retF ?_
      refine XF.thenR ?_
      refine XF.blkR ?_
      refine XF.thenR ?_
      refine XF.thenR ?_
      refine XF.blkR ?_
      refine XF.thenR ?_
      refine XF.res (resCT (vs := [_, _]) Try.results8 Try.isAgg44 Try.sizeOf44 rfl (CellsAt.own (j := 0) (m := 2) (hS.at_ 1 rfl) rfl) rfl) ?_
      exact confRet_bad hS.below (by unfold confE; dsimp only; rw [if_neg (by rw [hce]; simp), if_neg (by rw [hnd]; simp), ← hrun]; rfl) (by decide)
     ·rw [backs_no (inQ_big hyt)] at hrun
      refine regB (m := 15) gr_followsM hS (by kernel_rfl) (by kernel_rfl) rfl ?_
      refine bl_cons 1 rfl (isV _) (stab_isV _) (rgV (li := [(2, _)]) rfl (w_free rfl) ⟨g_fr (by kernel_rfl) rfl, trivial⟩ (fun w hw => rn_move rfl) (at_top rfl)) ?_
      refine bl_cons 2 rfl (isV _) (stab_isV _) (rgV (li := [(10, _)]) rfl (w_free rfl) ⟨g_fr (by kernel_rfl) rfl, trivial⟩ (fun w hw => rn_move rfl) (at_top rfl)) ?_
      refine bl_cons 3 rfl (isV _) (stab_isV _) (rgV (li := [(36, _), (37, _)]) rfl (w_free rfl) ⟨g_dep 0 (by kernel_rfl) (at_dep rfl rfl rfl), g_dep 1 (by kernel_rfl) (at_dep rfl rfl rfl), trivial⟩ (fun w hw => rn_indexA  Try.underlying23 Try.sizeOf3 rfl rfl rfl (by omega) rfl) (at_top rfl)) ?_
      refine bl_cons 4 rfl (isV _) (stab_isV _) (rgV (li := [(38, _)]) rfl (w_free rfl) ⟨g_dep 2 (by kernel_rfl) (at_dep rfl rfl rfl), trivial⟩ (fun w hw => rn_load Try.isAgg3 rfl ((below_agree hw 0).cell (Nat.zero_le _) (k1))) (at_top rfl)) ?_
      refine bl_cons 5 rfl (isV (.bool false)) (stab_isV _) (rgVe (li := [(39, _)]) rfl (w_free rfl) ⟨g_dep 3 (by kernel_rfl) (at_dep rfl rfl rfl), trivial⟩ (fun w hw => rn_lss rfl rfl) (by rw [decide_eq_false (by omega)]) (at_top rfl)) ?_
      refine bl_cons 6 rfl (isV _) (stab_isV _) (rgV (li := [(40, _)]) rfl (w_free rfl) ⟨g_dep 4 (by kernel_rfl) (at_dep rfl rfl rfl), trivial⟩ (fun w hw => rn_move rfl) (at_top rfl)) ?_
      refine bl_cons 7 rfl (isV _) (stab_isV _) (rgV (li := [(2, _)]) rfl (w_yes 41 rfl (by kernel_rfl) (by kernel_rfl) (at_dep rfl rfl rfl)) ⟨g_fr (by kernel_rfl) rfl, trivial⟩ (fun w hw => rn_move rfl) (at_top rfl)) ?_
      refine bl_cons 8 rfl (isV _) (stab_isV _) (rgV (li := [(10, _)]) rfl (w_yes 41 rfl (by kernel_rfl) (by kernel_rfl) (at_dep rfl rfl rfl)) ⟨g_fr (by kernel_rfl) rfl, trivial⟩ (fun w hw => rn_move rfl) (at_top rfl)) ?_
      refine bl_cons 9 rfl (isV _) (stab_isV _) (rgV (li := [(42, _), (43, _)]) rfl (w_yes 41 rfl (by kernel_rfl) (by kernel_rfl) (at_dep rfl rfl rfl)) ⟨g_dep 6 (by kernel_rfl) (at_dep rfl rfl rfl), g_dep 7 (by kernel_rfl) (at_dep rfl rfl rfl), trivial⟩ (fun w hw => rn_indexA  Try.underlying23 Try.sizeOf3 rfl rfl rfl (by omega) rfl) (at_top rfl)) ?_
      refine bl_cons 10 rfl (isV _) (stab_isV _) (rgV (li := [(44, _)]) rfl (w_yes 41 rfl (by kernel_rfl) (by kernel_rfl) (at_dep rfl rfl rfl)) ⟨g_dep 8 (by kernel_rfl) (at_dep rfl rfl rfl), trivial⟩ (fun w hw => rn_load Try.isAgg3 rfl ((below_agree hw 0).cell (Nat.zero_le _) (k1))) (at_top rfl)) ?_
      refine bl_cons 11 rfl (isV _) (stab_isV _) (rgV (li := [(3, _)]) rfl (w_yes 41 rfl (by kernel_rfl) (by kernel_rfl) (at_dep rfl rfl rfl)) ⟨g_fr (by kernel_rfl) rfl, trivial⟩ (fun w hw => rn_field (o' := 7) gr_fa_29_7 rfl rfl) (at_top rfl)) ?_
      refine bl_cons 12 rfl (isV _) (stab_isV _) (rgV (li := [(46, _)]) rfl (w_yes 41 rfl (by kernel_rfl) (by kernel_rfl) (at_dep rfl rfl rfl)) ⟨g_dep 10 (by kernel_rfl) (at_dep rfl rfl rfl), trivial⟩ (fun w hw => rn_load Try.isAgg25 rfl ((below_agree hw 0).cell (Nat.zero_le _) (cell_own (hS.at_ 2 rfl) rfl))) (at_top rfl)) ?_
      refine bl_cons 13 rfl (isV _) (stab_isV _) (rgV (li := [(47, _)]) rfl (w_yes 41 rfl (by kernel_rfl) (by kernel_rfl) (at_dep rfl rfl rfl)) ⟨g_dep 11 (by kernel_rfl) (at_dep rfl rfl rfl), trivial⟩ (fun w hw => rn_len Try.underlying25 rfl) (at_top rfl)) ?_
      refine bl_cons 14 rfl (isV (.bool true)) (stab_isV _) (rgVe (li := [(45, _), (48, _)]) rfl (w_yes 41 rfl (by kernel_rfl) (by kernel_rfl) (at_dep rfl rfl rfl)) ⟨g_dep 9 (by kernel_rfl) (at_dep rfl rfl rfl), g_dep 12 (by kernel_rfl) (at_dep rfl rfl rfl), trivial⟩ (fun w hw => rn_geq rfl rfl) (by rw [decide_eq_true (by omega)]) (at_top rfl)) ?_
      refine bl_cons 15 rfl (isV _) (stab_isV _) (rgV (li := [(41, _), (49, _)]) rfl (w_free rfl) ⟨g_dep 5 (by kernel_rfl) (at_dep rfl rfl rfl), g_dep 13 (by kernel_rfl) (at_dep rfl rfl rfl), trivial⟩ (fun w hw => rn_pickF rfl rfl) (at_top rfl)) ?_
      refine bl_nil ?_
      intro W12 hbR hS'
      clear hS; have hS := hS'; clear hS'
      refine fin_v ?_
      refine fin_v ?_
      refine fin_v ?_
      refine fin_v ?_
      refine fin_v ?_
      refine fin_v ?_
      refine fin_v ?_
      refine fin_v ?_
      refine fin_v ?_
      refine fin_v ?_
      refine fin_v ?_
      refine fin_v ?_
      refine fin_v ?_
      refine fin_v ?_
      refine fin_v ?_
      refine fin_nil ?_
      refine XF.thenN ?_
      refine condT rfl ?_
      refine seqF (regF ?_)
      refine op_build (us := []) rfl (gr_bld_44) rfl ?_
      refine op_storeA (i := 1) (vs := [_, _]) (cs' := [_, _]) (O' := [_, _, _]) hS Try.sizeOf44 rfl rfl rfl rfl rfl rfl rfl ?_
      clear hS; intro W13 hS
      refine op_assign rfl rfl ?_
      refine endF (XF.thenN ?_)
      refine retF ?_
      refine XF.thenR ?_
      refine XF.blkR ?_
      refine XF.thenR ?_
      refine XF.thenR ?_
      refine XF.blkR ?_
      refine XF.thenR ?_
      refine XF.res (resCT (vs := [_, _]) Try.results8 Try.isAgg44 Try.sizeOf44 rfl (CellsAt.own (j := 0) (m := 2) (hS.at_ 1 rfl) rfl) rfl) ?_
      exact confRet_bad hS.below (by unfold confE; dsimp only; rw [if_neg (by rw [hce]; simp), if_neg (by rw [hnd]; simp), ← hrun]; rfl) (by decide)
     ·obtain ⟨k, rfl⟩ := Int.eq_ofNat_of_zero_le hy0
      have hkt : k < tl := by omega
      obtain ⟨tb, to_, u, rfl, hu, huc⟩ := ht.get (i := k) (by omega)
      have k2 := (CellsAt.agree hS.agree (Nat.zero_le _) huc).2.2.2.1
      rw [backs_yes hkt hu, Option.map_map] at hrun
      refine regB (m := 15) gr_followsM hS (by kernel_rfl) (by kernel_rfl) rfl ?_
      refine bl_cons 1 rfl (isV _) (stab_isV _) (rgV (li := [(2, _)]) rfl (w_free rfl) ⟨g_fr (by kernel_rfl) rfl, trivial⟩ (fun w hw => rn_move rfl) (at_top rfl)) ?_
      refine bl_cons 2 rfl (isV _) (stab_isV _) (rgV (li := [(10, _)]) rfl (w_free rfl) ⟨g_fr (by kernel_rfl) rfl, trivial⟩ (fun w hw => rn_move rfl) (at_top rfl)) ?_
      refine bl_cons 3 rfl (isV _) (stab_isV _) (rgV (li := [(36, _), (37, _)]) rfl (w_free rfl) ⟨g_dep 0 (by kernel_rfl) (at_dep rfl rfl rfl), g_dep 1 (by kernel_rfl) (at_dep rfl rfl rfl), trivial⟩ (fun w hw => rn_indexA  Try.underlying23 Try.sizeOf3 rfl rfl rfl (by omega) rfl) (at_top rfl)) ?_
      refine bl_cons 4 rfl (isV _) (stab_isV _) (rgV (li := [(38, _)]) rfl (w_free rfl) ⟨g_dep 2 (by kernel_rfl) (at_dep rfl rfl rfl), trivial⟩ (fun w hw => rn_load Try.isAgg3 rfl ((below_agree hw 0).cell (Nat.zero_le _) (k1))) (at_top rfl)) ?_
      refine bl_cons 5 rfl (isV (.bool false)) (stab_isV _) (rgVe (li := [(39, _)]) rfl (w_free rfl) ⟨g_dep 3 (by kernel_rfl) (at_dep rfl rfl rfl), trivial⟩ (fun w hw => rn_lss rfl rfl) (by rw [decide_eq_false (by omega)]) (at_top rfl)) ?_
      refine bl_cons 6 rfl (isV _) (stab_isV _) (rgV (li := [(40, _)]) rfl (w_free rfl) ⟨g_dep 4 (by kernel_rfl) (at_dep rfl rfl rfl), trivial⟩ (fun w hw => rn_move rfl) (at_top rfl)) ?_
      refine bl_cons 7 rfl (isV _) (stab_isV _) (rgV (li := [(2, _)]) rfl (w_yes 41 rfl (by kernel_rfl) (by kernel_rfl) (at_dep rfl rfl rfl)) ⟨g_fr (by kernel_rfl) rfl, trivial⟩ (fun w hw => rn_move rfl) (at_top rfl)) ?_
      refine bl_cons 8 rfl (isV _) (stab_isV _) (rgV (li := [(10, _)]) rfl (w_yes 41 rfl (by kernel_rfl) (by kernel_rfl) (at_dep rfl rfl rfl)) ⟨g_fr (by kernel_rfl) rfl, trivial⟩ (fun w hw => rn_move rfl) (at_top rfl)) ?_
      refine bl_cons 9 rfl (isV _) (stab_isV _) (rgV (li := [(42, _), (43, _)]) rfl (w_yes 41 rfl (by kernel_rfl) (by kernel_rfl) (at_dep rfl rfl rfl)) ⟨g_dep 6 (by kernel_rfl) (at_dep rfl rfl rfl), g_dep 7 (by kernel_rfl) (at_dep rfl rfl rfl), trivial⟩ (fun w hw => rn_indexA  Try.underlying23 Try.sizeOf3 rfl rfl rfl (by omega) rfl) (at_top rfl)) ?_
      refine bl_cons 10 rfl (isV _) (stab_isV _) (rgV (li := [(44, _)]) rfl (w_yes 41 rfl (by kernel_rfl) (by kernel_rfl) (at_dep rfl rfl rfl)) ⟨g_dep 8 (by kernel_rfl) (at_dep rfl rfl rfl), trivial⟩ (fun w hw => rn_load Try.isAgg3 rfl ((below_agree hw 0).cell (Nat.zero_le _) (k1))) (at_top rfl)) ?_
      refine bl_cons 11 rfl (isV _) (stab_isV _) (rgV (li := [(3, _)]) rfl (w_yes 41 rfl (by kernel_rfl) (by kernel_rfl) (at_dep rfl rfl rfl)) ⟨g_fr (by kernel_rfl) rfl, trivial⟩ (fun w hw => rn_field (o' := 7) gr_fa_29_7 rfl rfl) (at_top rfl)) ?_
      refine bl_cons 12 rfl (isV _) (stab_isV _) (rgV (li := [(46, _)]) rfl (w_yes 41 rfl (by kernel_rfl) (by kernel_rfl) (at_dep rfl rfl rfl)) ⟨g_dep 10 (by kernel_rfl) (at_dep rfl rfl rfl), trivial⟩ (fun w hw => rn_load Try.isAgg25 rfl ((below_agree hw 0).cell (Nat.zero_le _) (cell_own (hS.at_ 2 rfl) rfl))) (at_top rfl)) ?_
      refine bl_cons 13 rfl (isV _) (stab_isV _) (rgV (li := [(47, _)]) rfl (w_yes 41 rfl (by kernel_rfl) (by kernel_rfl) (at_dep rfl rfl rfl)) ⟨g_dep 11 (by kernel_rfl) (at_dep rfl rfl rfl), trivial⟩ (fun w hw => rn_len Try.underlying25 rfl) (at_top rfl)) ?_
      refine bl_cons 14 rfl (isV (.bool false)) (stab_isV _) (rgVe (li := [(45, _), (48, _)]) rfl (w_yes 41 rfl (by kernel_rfl) (by kernel_rfl) (at_dep rfl rfl rfl)) ⟨g_dep 9 (by kernel_rfl) (at_dep rfl rfl rfl), g_dep 12 (by kernel_rfl) (at_dep rfl rfl rfl), trivial⟩ (fun w hw => rn_geq rfl rfl) (by rw [decide_eq_false (by omega)]) (at_top rfl)) ?_
      refine bl_cons 15 rfl (isV _) (stab_isV _) (rgV (li := [(41, _), (49, _)]) rfl (w_free rfl) ⟨g_dep 5 (by kernel_rfl) (at_dep rfl rfl rfl), g_dep 13 (by kernel_rfl) (at_dep rfl rfl rfl), trivial⟩ (fun w hw => rn_pickF rfl rfl) (at_top rfl)) ?_
      refine bl_nil ?_
      intro W14 hbR hS'
      clear hS; have hS := hS'; clear hS'
      refine fin_v ?_
      refine fin_v ?_
      refine fin_v ?_
      refine fin_v ?_
      refine fin_v ?_
      refine fin_v ?_
      refine fin_v ?_
      refine fin_v ?_
      refine fin_v ?_
      refine fin_v ?_
      refine fin_v ?_
      refine fin_v ?_
      refine fin_v ?_
      refine fin_v ?_
      refine fin_v ?_
      refine fin_nil ?_
      refine XF.thenN ?_
      refine condN rfl ?_
      refine skipF ?_
      refine XF.thenN ?_
      have k1 := (CellsAt.agree hS.agree (Nat.zero_le _) hyc).1
      have k2 := (CellsAt.agree hS.agree (Nat.zero_le _) huc).2.2.2.1
      refine regBP (p := 12) (k := 14) (gi := 0) (m := 1) gr_followsM hS rfl rfl (by kernel_rfl) (by kernel_rfl) (by kernel_rfl) (fun d hd => by cases hd) rfl rfl Try.underlying23 gr_inf_3 rfl rfl (by show 0 < 1; decide) rfl rfl rfl (by simp only [maxLen]; omega) (by show (i + 1 + 1) * 8 ≤ _; omega) ?_
      refine blp_v 1 rfl rfl (by kernel_rfl) (rgV (li := [(9, _)]) rfl (w_free rfl) ⟨g_fr (by kernel_rfl) rfl, trivial⟩ (fun w hw => rn_field (o' := 1) gr_fa_44_1 rfl rfl) (at_top rfl)) ?_
      refine blp_v 2 rfl rfl (by kernel_rfl) (rgV (li := [(52, _)]) rfl (w_free rfl) ⟨g_dep 0 (by kernel_rfl) (at_dep rfl rfl rfl), trivial⟩ (fun w hw => rn_load Try.isAgg23 rfl ((below_agree hw 0).cell (Nat.zero_le _) (cell_own (hS.at_ 0 rfl) rfl))) (at_top rfl)) ?_
      refine blp_v 3 rfl rfl (by kernel_rfl) (rgV (li := [(3, _)]) rfl (w_free rfl) ⟨g_fr (by kernel_rfl) rfl, trivial⟩ (fun w hw => rn_field (o' := 7) gr_fa_29_7 rfl rfl) (at_top rfl)) ?_
      refine blp_v 4 rfl rfl (by kernel_rfl) (rgV (li := [(54, _)]) rfl (w_free rfl) ⟨g_dep 2 (by kernel_rfl) (at_dep rfl rfl rfl), trivial⟩ (fun w hw => rn_load Try.isAgg25 rfl ((below_agree hw 0).cell (Nat.zero_le _) (cell_own (hS.at_ 2 rfl) rfl))) (at_top rfl)) ?_
      refine blp_v 5 rfl rfl (by kernel_rfl) (rgV (li := [(2, _)]) rfl (w_free rfl) ⟨g_fr (by kernel_rfl) rfl, trivial⟩ (fun w hw => rn_move rfl) (at_top rfl)) ?_
      refine blp_v 6 rfl rfl (by kernel_rfl) (rgV (li := [(10, _)]) rfl (w_free rfl) ⟨g_fr (by kernel_rfl) rfl, trivial⟩ (fun w hw => rn_move rfl) (at_top rfl)) ?_
      refine blp_v 7 rfl rfl (by kernel_rfl) (rgV (li := [(56, _), (57, _)]) rfl (w_free rfl) ⟨g_dep 4 (by kernel_rfl) (at_dep rfl rfl rfl), g_dep 5 (by kernel_rfl) (at_dep rfl rfl rfl), trivial⟩ (fun w hw => rn_indexA  Try.underlying23 Try.sizeOf3 rfl rfl rfl (by omega) rfl) (at_top rfl)) ?_
      refine blp_v 8 rfl rfl (by kernel_rfl) (rgV (li := [(58, _)]) rfl (w_free rfl) ⟨g_dep 6 (by kernel_rfl) (at_dep rfl rfl rfl), trivial⟩ (fun w hw => rn_load Try.isAgg3 rfl ((below_agree hw 0).cell (Nat.zero_le _) (k1))) (at_top rfl)) ?_
      refine blp_v 9 rfl rfl (by kernel_rfl) (rgV (li := [(55, _), (59, _)]) rfl (w_free rfl) ⟨g_dep 3 (by kernel_rfl) (at_dep rfl rfl rfl), g_dep 7 (by kernel_rfl) (at_dep rfl rfl rfl), trivial⟩ (fun w hw => rn_indexA (j := k) Try.underlying25 Try.sizeOf54 rfl rfl (by omega) (by omega) rfl) (at_top rfl)) ?_
      refine blp_v 10 rfl rfl (by kernel_rfl) (rgV (li := [(60, _)]) rfl (w_free rfl) ⟨g_dep 8 (by kernel_rfl) (at_dep rfl rfl rfl), trivial⟩ (fun w hw => rn_field gr_fa_54_3 rfl rfl) (at_top rfl)) ?_
      refine blp_v 11 rfl rfl (by kernel_rfl) (rgV (li := [(61, _)]) rfl (w_free rfl) ⟨g_dep 9 (by kernel_rfl) (at_dep rfl rfl rfl), trivial⟩ (fun w hw => rn_load Try.isAgg3 rfl ((below_agree hw 0).cell (Nat.zero_le _) (k2))) (at_top rfl)) ?_
      refine blp_q 12 rfl rfl (by kernel_rfl) (isRow W14.heap.size 1 3 _) (stab_isRow) (rg_rowV (us := [.int .i64 _]) rfl (w_free rfl) Try.underlying23 Try.sizeOf3 Try.zeroValue3 rfl rfl ⟨p_tmp (g_dep 10 (by kernel_rfl) (at_dep rfl rfl rfl)), trivial⟩ (gr_bs_23_1 _) (at_top rfl)) ?_
      refine blp_app 13 rfl rfl ?_
      refine blp_late 14 rfl rfl (rgV (li := [(9, _)]) rfl (w_free rfl) ⟨g_fr (by kernel_rfl) rfl, trivial⟩ (fun w hw => rn_field (o' := 1) gr_fa_44_1 rfl rfl) (at_top rfl)) (lgV (li := [(9, _)]) rfl (w_free rfl) ⟨g_fr (by kernel_rfl) rfl, trivial⟩ (fun w => rn_field (o' := 1) gr_fa_44_1 rfl rfl) (at_top rfl) rfl) ?_
      refine blp_nil ⟨_, _, g_dep 1 (by kernel_rfl) (at_dep rfl rfl rfl), g_dep 11 (by kernel_rfl) (at_dep rfl rfl rfl), rowOf_isRow rfl rfl, ?_⟩
      intro A15 v15 news15 W15 hbR hqA15 hS'
      clear hS; have hS := hS'; clear hS'
      cases hqA15
      refine fin_v ?_
      refine fin_v ?_
      refine fin_v ?_
      refine fin_v ?_
      refine fin_v ?_
      refine fin_v ?_
      refine fin_v ?_
      refine fin_v ?_
      refine fin_v ?_
      refine fin_v ?_
      refine fin_v ?_
      refine fin_p ?_; intro _ _
      refine fin_v ?_
      refine fin_v ?_
      obtain ⟨a2, c2, e2, hac2⟩ := ownsRow_sl (hS.row 0 rfl)
      dsimp only at e2
      subst e2
      refine fin_nil ?_
      refine op_store (i := 0) (cs' := [_, _]) (O' := [_, _, _]) hS Try.sizeOf23 rfl rfl rfl rfl rfl rfl rfl ?_
      clear hS; intro W16 hS
      refine endF ?_
      refine XF.blkN ?_
      refine XF.thenN ?_
      refine regF ?_
      refine op_move rfl rfl ?_
      refine op_add rfl rfl (IntWalk.i64_in _ (by omega)) rfl ?_
      refine op_assign rfl rfl ?_
      refine endF ?_
      exact XF.round (ll - (i + 1)) [(3, _), (6, _), (9, _), (2, _), (10, _)] (by omega) ⟨rfl, rfl, rfl, rfl, rfl, trivial⟩ ⟨i + 1, acc ++ [u.bk], _, by omega, rfl, rfl, by simp [hacc], by rw [← hrun]; congr 1; funext z; simp, hS.clear.castG (by simp)⟩
    ·have hc33 := of_decide_eq_false hc; clear hc
     rw [List.drop_of_length_le (by omega)] at hrun
     simp only [backs, Option.map_some, List.append_nil] at hrun
     refine exitF ?_
     refine XF.thenX ?_
     refine XF.thenX ?_
     refine XF.blkX ?_
     refine XF.thenN ?_
     refine seqF ?_
     refine seqF (regF ?_)
     refine op_field (o' := 1) gr_fa_44_1 rfl rfl rfl ?_
     refine op_load Try.isAgg23 rfl (cell_own (hS.at_ 0 rfl) rfl) rfl ?_
     refine op_len Try.underlying23 rfl rfl ?_
     refine op_gtr rfl rfl rfl ?_
     refine endF (XF.thenN ?_)
     refine condF rfl (fun hc => ?_) (fun hc => ?_)
     ·have hc69 := of_decide_eq_true hc; clear hc
      refine seqF (regF ?_)
      refine op_build (us := []) rfl (gr_bld_44) rfl ?_
      refine op_storeA (i := 1) (vs := [_, _]) (cs' := [_, _]) (O' := [_, _, _]) hS Try.sizeOf44 rfl rfl rfl rfl rfl rfl rfl ?_
      clear hS; intro W17 hS
      refine op_assign rfl rfl ?_
      refine endF (XF.thenN ?_)
      refine retF ?_
      refine XF.thenR ?_
      refine XF.res (resCT (vs := [_, _]) Try.results8 Try.isAgg44 Try.sizeOf44 rfl (CellsAt.own (j := 0) (m := 2) (hS.at_ 1 rfl) rfl) rfl) ?_
      exact confRet_bad hS.below (by unfold confE; dsimp only; rw [if_neg (by rw [hce]; simp), if_neg (by rw [hnd]; simp), ← hrun]; exact if_pos (by rw [hacc]; omega)) (by decide)
     ·have hc69 := of_decide_eq_false hc; clear hc
      refine skipF ?_
      refine XF.thenN ?_
      refine seqF (regF ?_)
      refine op_loadA (vs := [_, _]) Try.isAgg44 Try.sizeOf44 rfl (CellsAt.own (j := 0) (m := 2) (hS.at_ 0 rfl) rfl) rfl ?_
      refine op_storeA (i := 1) (vs := [_, _]) (cs' := [_, _]) (O' := [_, _, _]) hS Try.sizeOf44 rfl rfl rfl rfl rfl rfl rfl ?_
      clear hS; intro W18 hS
      refine op_assign rfl rfl ?_
      refine endF (XF.thenN ?_)
      refine retF ?_
      refine XF.res (resCT (vs := [_, _]) Try.results8 Try.isAgg44 Try.sizeOf44 rfl (CellsAt.own (j := 0) (m := 2) (hS.at_ 1 rfl) rfl) rfl) ?_
      have hR : confE ⟨va, vl, vc, pa, pl, pc, ea, el, ec, es, xa, xl, xc, xs, mn, oa, ol, oc, os, sa, sl, sc, ss, ta, tl, tc, ts, na, nl, nc, ns, ka, kl, kc, ks⟩ node is = (0, node :: acc) := by unfold confE; dsimp only; rw [if_neg (by rw [hce]; simp), if_neg (by rw [hnd]; simp), ← hrun]; exact if_neg (by rw [hacc]; omega)
      rw [hR]
      exact ⟨hS.below, .inr ⟨rfl, a9, c9, by rw [List.length_cons, hacc], by have h9 := hS.row 0 rfl; unfold gr_RowN; rw [List.length_cons, hacc]; exact h9⟩⟩
end Go.Proofs.Ythepjghlipdcoaa
namespace Go.Proofs.Ythepjghlipdcoaa
open Go Go.RowKit
theorem confR_is (g : GV) (node : Int) (la : Option Addr) (ll lc : Nat) (is : List Int) (w : World) (hg : GIn w g) (hf : GFew g) (hrla : RowI w la is) (hll : is.length = ll) (hlm : ll ≤ 5000) : Calls Try.prog 8 #[g.val, .int .i64 node, .slice la ll lc] w (ConfRet (confE g node is) w) :=
 confR_c g.va g.vl g.vc g.pa g.pl g.pc g.ea g.el g.ec g.es g.xa g.xl g.xc g.xs g.mn g.oa g.ol g.oc g.os g.sa g.sl g.sc g.ss g.ta g.tl g.tc g.ts g.na g.nl g.nc g.ns g.ka g.kl g.kc g.ks node la ll lc is w hg.e hg.el hg.x hg.xl hg.o hg.ol hg.s hg.sl hg.t hg.tl hg.n hg.nl hg.k hg.kl hf.v hf.p hf.e hf.x hf.o hf.s hf.t hf.n hf.k hrla hll hlm
theorem confRet_any {g : GV} {node : Int} {is : List Int} {w : World} {e : Ending} {w' : World} (h : ConfRet (confE g node is) w e w') : ∃ a c, e = .returned (.tuple #[.agg #[.int .i64 0, .slice a (confE g node is).2.length c], .int .i64 (confE g node is).1]) ∧ gr_RowN w.heap.size w' a c (confE g node is).2 ∧ Below w.heap.size w w' := by
 rcases conf_cases g node is with ⟨c, hc, he⟩ | ⟨l, he, _⟩
 ·obtain ⟨h1, h2⟩ := confRet_no h he hc
  rw [he]
  exact ⟨none, 0, h1, World.ownsRow_nil _ _ _ _, h2⟩
 ·obtain ⟨a, c, h1, h2, h3⟩ := confRet_ok h he
  rw [he]
  exact ⟨a, c, h1, h2, h3⟩
end Go.Proofs.Ythepjghlipdcoaa
namespace Go.Proofs.Ythepjghlipdcoaa
open Go Go.RowKit
def sv0 : SV := .mk ⟨1, 0, none, 0, 0⟩ []
def wv0 : WV := .mk ⟨false, 0, 0, none, 0, 0, [], none, 0, 0, [], none, 0, 0⟩ []
def rvOf (q : QV) : RV := ⟨0, q.g, 0, q.a, q.l, q.c, q.ws, wv0⟩
def pvOf (ol : Int) (a : Option Addr) (n c : Nat) (qs : List QV) : PV := ⟨sv0, 1, ol, a, n, c, qs.map rvOf⟩
theorem rowI_row {w : World} {a : Option Addr} {zs : List Int} (h : RowI w a zs) : Row w a zs := by
 rcases h with h | ⟨b, off, ha, hc⟩
 ·exact .inl h
 ·refine .inr ⟨b, off, ha, fun i hi => ?_⟩
  have h1 := (hc i zs[i] (by simp [hi])).1
  rw [Nat.mul_one] at h1
  rw [h1]
  simp [List.getD, hi]
theorem wv0_in (w : World) : WIn w 1 wv0 := by
 refine ⟨⟨?_, rfl, by decide, by simp, ?_, rfl, ?_, by decide⟩, rfl, .inl rfl, by simp⟩
 ·exact .inl rfl
 ·exact .inl rfl
 ·intro x hx; cases hx
theorem sv0_in (w : World) : SIn w 1 sv0 := ⟨rfl, .inl rfl, by simp⟩
theorem pv_in {w W : World} {lo : Nat} {a : Option Addr} {c : Nat} {qs : List QV} {ol : Int} (h : W.ownsRow lo 69 10 (.slice a qs.length c) qs.length (qs.flatMap QV.ten)) (hq : ∀ q ∈ qs, QN lo W q) : PvIn W 1 1 (pvOf ol a qs.length c qs) := by
 refine ⟨sv0_in W, ?_, by show (qs.map rvOf).length = qs.length; simp, fun r hr => ?_⟩
 ·rcases h.2 with ⟨_, e2⟩ | ⟨g, cap, cur, e1, _, hg, _, _, hs, ht⟩
  ·exact .inl (by show qs.map rvOf = []; rw [List.eq_nil_of_length_eq_zero e2]; rfl)
  ·cases e1
   refine .inr ⟨g, 0, rfl, fun i r hr => ?_⟩
   have hr2 : (qs.map rvOf)[i]? = some r := hr
   rw [List.getElem?_map] at hr2
   obtain ⟨q, hq1, rfl⟩ := Option.map_eq_some_iff.1 hr2
   rw [Nat.zero_add]
   have hg2 : W.heap[g]? = some (.cells cur.toList.toArray 69 (0, 0)) := hg
   refine CellsAt.own (j := i * 10) (m := 10) hg2 ?_
   have hlt := (List.getElem?_eq_some_iff.1 hq1).1
   have e5 := gr_flat_at (f := QV.ten) (sz := 10) (fun _ => rfl) hq1
   rw [← ht, List.drop_take, List.take_take] at e5
   rw [Nat.min_eq_left (by omega)] at e5
   exact e5
 ·obtain ⟨q, hq1, rfl⟩ := List.mem_map.1 hr
  have h1 := hq q hq1
  exact ⟨rowI_row h1.row, h1.1, wv0_in W⟩
theorem chk00 : chkW sv0 wv0 = 0 := by decide
theorem wtE_of : ∀ (qs : List QV), wtE sv0 (qs.map rvOf) = 0
 | [] => rfl
 | q :: qs => by
  show (if chkW sv0 wv0 = 0 then wtE sv0 (qs.map rvOf) else chkW sv0 wv0) = 0
  rw [if_pos chk00]; exact wtE_of qs
structure RulesOk (ol : Nat) (qs : List QV) : Prop where
 g : ∀ q ∈ qs, 0 ≤ q.g ∧ q.g < (ol : Int)
 l : ∀ q ∈ qs, q.l ≤ 4096
 ws : ∀ q ∈ qs, ∀ y ∈ q.ws, 0 ≤ y ∧ y < (ol : Int)
theorem pv_ok {ol : Nat} {a : Option Addr} {c : Nat} {qs : List QV} (h : RulesOk ol qs) (hn : qs.length ≤ 16384) (ho : ol ≤ 4096) : pdsE (pvOf ol a qs.length c qs) = 0 := by
 have hall : (pvOf ol a qs.length c qs).rs.all (ruleB 1 (ol : Int)) = true := by
  refine List.all_eq_true.2 fun r hr => ?_
  obtain ⟨q, hq, rfl⟩ := List.mem_map.1 hr
  have h1 := h.g q hq
  have h2 := h.l q hq
  show (inQ 0 1 && (inQ 0 1 && (inQ q.g ol && (decide (q.l ≤ 4096) && q.ws.all (fun y => inQ y ol))))) = true
  have e1 : inQ q.g ol = true := by unfold inQ; rw [decide_eq_true h1.1, decide_eq_true h1.2]; rfl
  have e2 : q.ws.all (fun y => inQ y ol) = true := List.all_eq_true.2 fun y hy => by
   have h3 := h.ws q hq y hy
   unfold inQ; rw [decide_eq_true h3.1, decide_eq_true h3.2]; rfl
  rw [e1, e2, decide_eq_true h2]; rfl
 unfold pdsE
 rw [if_neg (show ¬ spaceE (pvOf ol a qs.length c qs).s ≠ 0 from fun h => h rfl), if_neg (by show ¬ 16384 < qs.length; omega), if_neg (show ¬ ((pvOf (ol : Int) a qs.length c qs).st < 0 ∨ 4096 < (pvOf (ol : Int) a qs.length c qs).st ∨ (pvOf (ol : Int) a qs.length c qs).sy < 0 ∨ 4096 < (pvOf (ol : Int) a qs.length c qs).sy) from (by omega : ¬ ((1 : Int) < 0 ∨ (4096 : Int) < 1 ∨ (ol : Int) < 0 ∨ (4096 : Int) < (ol : Int)))), if_pos (show (pvOf (ol : Int) a qs.length c qs).rs.all (ruleB (pvOf (ol : Int) a qs.length c qs).st (pvOf (ol : Int) a qs.length c qs).sy) = true from hall)]
 exact wtE_of qs
theorem next_of {node : Int} {bs : List Int} : ∀ (qs : List QV) (i : Nat), (∀ q ∈ qs, q.l + bs.length ≤ 4096) → ∃ l, nextF 0 (node :: bs) (qs.map rvOf) i = some l ∧ l.map (·.2) = (qs.filter (fun q => decide (q.g = node))).map (fun q => ((0 : Int), q.ws ++ bs))
 | [], i, _ => ⟨[], rfl, rfl⟩
 | q :: qs, i, h => by
  obtain ⟨l, h1, h2⟩ := next_of qs (i + 1) (fun r hr => h r (List.mem_cons_of_mem _ hr))
  have hb : appB (rvOf q) 0 (node :: bs) = decide (q.g = node) := by
   unfold appB
   show (decide ((0 : Int) = 0) && decide (node = q.g)) = _
   rw [decide_eq_true rfl, Bool.true_and]
   exact decide_eq_decide.2 eq_comm
  by_cases e : q.g = node
  ·refine ⟨((i : Int), 0, q.ws ++ bs) :: l, ?_, ?_⟩
   ·simp only [List.map_cons, nextF]
    have h3 := h q List.mem_cons_self
    rw [hb, if_pos (decide_eq_true e), if_neg (by show ¬ 4096 < q.l + ((node :: bs).length - 1); simp; omega), h1]
    rfl
   ·rw [List.filter_cons_of_pos (by simpa using e), List.map_cons, List.map_cons, h2]
  ·refine ⟨l, ?_, ?_⟩
   ·simp only [List.map_cons, nextF]
    rw [hb, if_neg (by simpa using e)]
    exact h1
   ·rw [List.filter_cons_of_neg (by simpa using e), h2]
theorem filter_pl {node : Int} {bs : List Int} {qs : List QV} {ls : List (Int × List Int)} (h : qs.map QV.pl = ls) : (qs.filter (fun q => decide (q.g = node))).map (fun q => ((0 : Int), q.ws ++ bs)) = (ls.filter (fun p => decide (p.1 = node))).map (fun p => ((0 : Int), p.2 ++ bs)) := by
 subst h
 rw [List.filter_map, List.map_map]
 rfl
end Go.Proofs.Ythepjghlipdcoaa
namespace Go.Proofs.Ythepjghlipdcoaa
open Go Go.RowKit
structure GOk (g : GV) : Prop where
 ol : g.ol ≤ 4096
 step : ∀ s ∈ g.ss, gr_inQ s.f g.ol = true ∧ gr_inQ s.t g.ol = true
 call : ∀ s ∈ g.ss, s.k = 8 → ∃ (n k : Nat) (u : UV) (e : Int), s.s = (n : Int) ∧ g.ts[n]? = some u ∧ u.bk = s.t ∧ u.pr = (k : Int) ∧ k < g.el ∧ g.es[k]? = some e ∧ gr_inQ e g.ol = true
 es : ∀ e ∈ g.es, gr_inQ e g.ol = true
 xs : ∀ e ∈ g.xs, gr_inQ e g.ol = true
theorem steps_all {g : GV} : ∀ {ss : List TV} {n m : Nat}, stepsFrom g ss n = some m → ∀ s ∈ ss, ∃ k, stepK g s k = true
 | [], _, _, _, s, hs => by cases hs
 | x :: ss, n, m, h, s, hs => by
  simp only [stepsFrom] at h
  by_cases hx : stepK g x n = true
  ·rw [if_pos hx] at h
   rcases List.mem_cons.1 hs with rfl | hs
   ·exact ⟨n, hx⟩
   ·exact steps_all h s hs
  ·rw [if_neg hx] at h; cases h
theorem ite_false9 {c : Bool} {p : Prop} [Decidable p] (h : (if p then false else c) = true) : ¬ p ∧ c = true := by
 by_cases hp : p
 ·rw [if_pos hp] at h; cases h
 ·rw [if_neg hp] at h; exact ⟨hp, h⟩
theorem node_of {os l : List Int} {ol p : Nat} (h : nodeB os ol l p = true) : ∃ n, l[p]? = some n ∧ gr_inQ n ol = true := by
 unfold nodeB at h
 cases hl : l[p]? with
 | none => rw [hl] at h; cases h
 | some n =>
  rw [hl] at h
  dsimp only at h
  rw [Bool.and_eq_true] at h
  exact ⟨n, rfl, h.1⟩
theorem gOk {g : GV} (hel : g.es.length = g.el) (hxl : g.xs.length = g.xl) (htl : g.ts.length = g.tl) (h : gr_checkE g = 0) : GOk g := by
 unfold gr_checkE at h
 by_cases h1 : sizedB g = false
 ·rw [if_pos h1] at h; cases h
 rw [if_neg h1] at h
 by_cases h2 : stepsB g = false
 ·rw [if_pos h2] at h; cases h
 rw [if_neg h2] at h
 by_cases h3 : markedB g = false
 ·rw [if_pos h3] at h; cases h
 have h1 : sizedB g = true := by simpa using h1
 have h2 : stepsB g = true := by simpa using h2
 have h3 : markedB g = true := by simpa using h3
 unfold sizedB at h1
 obtain ⟨_, h1⟩ := ite_false9 h1
 obtain ⟨_, h1⟩ := ite_false9 h1
 obtain ⟨_, h1⟩ := ite_false9 h1
 obtain ⟨he, h1⟩ := ite_false9 h1
 obtain ⟨hx, h1⟩ := ite_false9 h1
 obtain ⟨ho, h1⟩ := ite_false9 h1
 obtain ⟨_, h1⟩ := ite_false9 h1
 obtain ⟨_, h1⟩ := ite_false9 h1
 obtain ⟨_, h1⟩ := ite_false9 h1
 unfold markedB at h3
 obtain ⟨hpr, _⟩ := ite_false9 h3
 have hpr : g.ts.all (fun u => gr_inQ u.pr g.pl) = true := by simpa using hpr
 have hel2 : g.el = g.pl := Decidable.of_not_not he
 have hxl2 : g.xl = g.pl := Decidable.of_not_not hx
 have hnode : ∀ p, p < g.pl → nodeB g.os g.ol g.es p = true ∧ nodeB g.os g.ol g.xs p = true := fun p hp => by
  have := List.all_eq_true.1 h1 p (List.mem_range.2 hp)
  unfold procB at this
  rwa [Bool.and_eq_true] at this
 have hes : ∀ e ∈ g.es, gr_inQ e g.ol = true := fun e he => by
  obtain ⟨p, hp⟩ := List.getElem?_of_mem he
  have hlt := (List.getElem?_eq_some_iff.1 hp).1
  obtain ⟨n, h4, h5⟩ := node_of (hnode p (by omega)).1
  rw [hp] at h4; cases h4; exact h5
 have hxs : ∀ e ∈ g.xs, gr_inQ e g.ol = true := fun e he => by
  obtain ⟨p, hp⟩ := List.getElem?_of_mem he
  have hlt := (List.getElem?_eq_some_iff.1 hp).1
  obtain ⟨n, h4, h5⟩ := node_of (hnode p (by omega)).2
  rw [hp] at h4; cases h4; exact h5
 unfold stepsB at h2
 have hst := steps_all (of_decide_eq_true h2)
 have hk : ∀ s ∈ g.ss, ∃ k, gr_inQ s.f g.ol = true ∧ gr_inQ s.t g.ol = true ∧ kindB g s k = true := fun s hs => by
  obtain ⟨k, hk⟩ := hst s hs
  unfold stepK at hk
  obtain ⟨a1, hk⟩ := ite_false9 hk
  obtain ⟨a2, hk⟩ := ite_false9 hk
  obtain ⟨_, hk⟩ := ite_false9 hk
  exact ⟨k, by simpa using a1, by simpa using a2, hk⟩
 refine ⟨by omega, fun s hs => ?_, fun s hs h8 => ?_, hes, hxs⟩
 ·obtain ⟨k, a1, a2, _⟩ := hk s hs
  exact ⟨a1, a2⟩
 ·obtain ⟨k, a1, a2, a3⟩ := hk s hs
  unfold kindB at a3
  rw [if_neg (by omega), if_pos h8] at a3
  simp only [Bool.and_eq_true] at a3
  have a4 := a3.2.2.2
  unfold siteC at a4
  rw [Bool.and_eq_true, decide_eq_true_eq] at a4
  cases hu : g.ts[k]? with
  | none => rw [hu] at a4; exact absurd a4.2 (by simp)
  | some u =>
   rw [hu] at a4
   have a5 := a4.2
   dsimp only at a5
   rw [Bool.and_eq_true, decide_eq_true_eq, decide_eq_true_eq] at a5
   obtain ⟨j, hj, hjl⟩ := inQ_nat (List.all_eq_true.1 hpr u (List.mem_of_getElem? hu))
   have hje : j < g.es.length := by omega
   exact ⟨k, j, u, g.es[j], a4.1, hu, a5.2, hj, by omega, by simp [hje], hes _ (List.getElem_mem hje)⟩
theorem GOk.calls {g : GV} (h : GOk g) (htl : g.ts.length = g.tl) : CallsOk g := fun s hs h8 => by
 obtain ⟨n, k, u, e, h1, h2, h3, h4, h5, _⟩ := h.call s hs h8
 exact ⟨n, k, u, h1, by rw [← htl]; exact (List.getElem?_eq_some_iff.1 h2).1, h2, h4, h5⟩
theorem inQ_lt {x : Int} {n : Nat} (h : gr_inQ x n = true) : 0 ≤ x ∧ x < (n : Int) := by
 obtain ⟨k, rfl, hk⟩ := inQ_nat h
 omega
theorem rules_ok {g : GV} (h : GOk g) {qs : List QV} (hq : qs.map QV.pl = g.ss.map (stepR g) ++ g.xs.map exitR') (hl : ∀ q ∈ qs, q.ws.length = q.l) : RulesOk g.ol qs ∧ ∀ q ∈ qs, q.l ≤ 2 := by
 have key : ∀ q ∈ qs, (0 ≤ q.g ∧ q.g < (g.ol : Int)) ∧ q.ws.length ≤ 2 ∧ ∀ y ∈ q.ws, 0 ≤ y ∧ y < (g.ol : Int) := fun q hqm => by
  have hm : q.pl ∈ g.ss.map (stepR g) ++ g.xs.map exitR' := by rw [← hq]; exact List.mem_map.2 ⟨q, hqm, rfl⟩
  rcases List.mem_append.1 hm with hm | hm
  ·obtain ⟨s, hs, e⟩ := List.mem_map.1 hm
   obtain ⟨h1, h2⟩ := h.step s hs
   by_cases h8 : s.k = 8
   ·obtain ⟨n, k, u, e8, a1, a2, a3, a4, a5, a6, a7⟩ := h.call s hs h8
    rw [stepR_two h8 a1 a2 a4 a6] at e
    have e1 : q.g = s.f := (congrArg (·.1) e).symm
    have e2 : q.ws = [e8, s.t] := (congrArg (·.2) e).symm
    rw [e1, e2]
    exact ⟨inQ_lt h1, by simp, fun y hy => by
     simp at hy
     rcases hy with rfl | rfl
     ·exact inQ_lt a7
     ·exact inQ_lt h2⟩
   ·rw [stepR_one h8] at e
    have e1 : q.g = s.f := (congrArg (·.1) e).symm
    have e2 : q.ws = [s.t] := (congrArg (·.2) e).symm
    rw [e1, e2]
    exact ⟨inQ_lt h1, by simp, fun y hy => by simp at hy; subst hy; exact inQ_lt h2⟩
  ·obtain ⟨x, hx, e⟩ := List.mem_map.1 hm
   have e1 : q.g = x := (congrArg (·.1) e).symm
   have e2 : q.ws = [] := (congrArg (·.2) e).symm
   rw [e1, e2]
   exact ⟨inQ_lt (h.xs x hx), by simp, fun y hy => by cases hy⟩
 exact ⟨⟨fun q hq => (key q hq).1, fun q hq => by rw [← hl q hq]; have := (key q hq).2.1; omega, fun q hq => (key q hq).2.2⟩, fun q hq => by rw [← hl q hq]; exact (key q hq).2.1⟩
def wantS (g : GV) (node : Int) (bs : List Int) (ss : List TV) : List (Int × List Int) := (ss.filter (fun s => decide (s.f = node))).map (fun s => ((0 : Int), (stepR g s).2 ++ bs))
def wantX (node : Int) (bs : List Int) (xs : List Int) : List (Int × List Int) := (xs.filter (fun x => decide (x = node))).map (fun _ => ((0 : Int), bs))
theorem want_all {g : GV} {node : Int} {bs : List Int} : ((g.ss.map (stepR g) ++ g.xs.map exitR').filter (fun p => decide (p.1 = node))).map (fun p => ((0 : Int), p.2 ++ bs)) = wantS g node bs g.ss ++ wantX node bs g.xs := by
 rw [List.filter_append, List.map_append, List.filter_map, List.filter_map, List.map_map, List.map_map]
 rfl
theorem wantS_take {g : GV} {node : Int} {bs : List Int} {ss : List TV} {i : Nat} {s : TV} (h : ss[i]? = some s) : wantS g node bs (ss.take (i + 1)) = wantS g node bs (ss.take i) ++ (if s.f = node then [((0 : Int), (stepR g s).2 ++ bs)] else []) := by
 unfold wantS
 rw [List.take_add_one, h, List.filter_append, List.map_append]
 congr 1
 by_cases e : s.f = node
 ·rw [if_pos e]; simp [e]
 ·rw [if_neg e]; simp [e]
theorem wantX_take {node : Int} {bs : List Int} {xs : List Int} {i : Nat} {x : Int} (h : xs[i]? = some x) : wantX node bs (xs.take (i + 1)) = wantX node bs (xs.take i) ++ (if x = node then [((0 : Int), bs)] else []) := by
 unfold wantX
 rw [List.take_add_one, h, List.filter_append, List.map_append]
 congr 1
 by_cases e : x = node
 ·rw [if_pos e]; simp [e]
 ·rw [if_neg e]; simp [e]
end Go.Proofs.Ythepjghlipdcoaa
namespace Go.Proofs.Ythepjghlipdcoaa
open Go Go.RowKit
def isAppN (lo : Nat) (zs : List Int) : Asr := fun v w => ∃ a c, v = .slice a zs.length c ∧ gr_RowN lo w a c zs
def isCfT (lo : Nat) (zs : List Int) : Asr := fun v w => ∃ a c, v = .tuple #[.agg #[.int .i64 0, .slice a zs.length c], .int .i64 0] ∧ gr_RowN lo w a c zs
def isCf0 (lo : Nat) (zs : List Int) : Asr := fun v w => ∃ a c, v = .agg #[.int .i64 0, .slice a zs.length c] ∧ gr_RowN lo w a c zs
section
variable {P : Program} {n : Nat} {Q : Exit → Act → World → Prop} {l : Fr} {W : World} {ops : Array Oper} {L : List Asr} {i d td : Nat} {op : Op} {ty : TypeId} {pos : String} {aft_ : Array Edge} {p q : Asr}
end
theorem setRow_same {w : World} {B : Nat} {cur : Array Value} {e : TypeId} (h : w.heap[B]? = some (.cells cur e (0, 0))) : Below w.heap.size w (w.setRow B cur) ∧ (w.setRow B cur).heap[B]? = some (.cells cur e (0, 0)) := by
 have hk : ∀ k : Nat, (w.setRow B cur).heap[k]? = w.heap[k]? := fun k => by
  unfold World.setRow
  simp only [Array.getElem?_modify]
  by_cases hk : B = k
  ·subst hk; simp [h]
  ·simp [hk]
 exact ⟨⟨rfl, rfl, rfl, by unfold World.setRow; simp, fun k _ => hk k⟩, (hk B).trans h⟩
end Go.Proofs.Ythepjghlipdcoaa
namespace Go.Proofs.Ythepjghlipdcoaa
open Go Go.RowKit
theorem backs_len {ts : List UV} {tl : Nat} : ∀ {is l : List Int}, backs ts tl is = some l → l.length = is.length
 | [], l, h => by simp only [backs, Option.some.injEq] at h; subst h; rfl
 | s :: r, l, h => by
  simp only [backs] at h
  split at h
  ·split at h
   ·cases h2 : backs ts tl r with
    | none => rw [h2] at h; cases h
    | some l2 =>
     rw [h2] at h
     have e := Option.some.inj h
     subst e
     rw [List.length_cons, List.length_cons, backs_len h2]
   ·cases h
  ·cases h
theorem backs_cons {ts : List UV} {tl : Nat} {s : Int} {r l : List Int} (htl : ts.length = tl) (h : backs ts tl (s :: r) = some l) : ∃ (k : Nat) (u : UV) (l2 : List Int), s = (k : Int) ∧ k < tl ∧ ts[k]? = some u ∧ backs ts tl r = some l2 ∧ l = u.bk :: l2 := by
 cases hs : gr_inQ s tl with
 | false => rw [backs_no hs] at h; cases h
 | true =>
  obtain ⟨k, rfl, hk⟩ := inQ_nat hs
  obtain ⟨u, hu⟩ : ∃ u, ts[k]? = some u := ⟨ts[k]'(by omega), by simp [show k < ts.length by omega]⟩
  rw [backs_yes hk hu] at h
  cases hb : backs ts tl r with
  | none => rw [hb] at h; cases h
  | some l2 =>
   rw [hb] at h
   exact ⟨k, u, l2, rfl, hk, hu, rfl, (Option.some.inj h).symm⟩
theorem backs_of {ts : List UV} {tl k : Nat} {r l : List Int} {u : UV} (hk : k < tl) (hu : ts[k]? = some u) (h : backs ts tl r = some l) : backs ts tl ((k : Int) :: r) = some (u.bk :: l) := by rw [backs_yes hk hu, h]; rfl
theorem backs_all {ts : List UV} {tl ol : Nat} (htl : ts.length = tl) (hin : ∀ u ∈ ts, gr_inQ u.bk ol = true) : ∀ {is l : List Int}, backs ts tl is = some l → ∀ y ∈ l, gr_inQ y ol = true
 | [], l, h, y, hy => by simp only [backs, Option.some.injEq] at h; subst h; cases hy
 | s :: r, l, h, y, hy => by
  obtain ⟨k, u, l2, _, _, hu, h2, rfl⟩ := backs_cons htl h
  rcases List.mem_cons.1 hy with rfl | hy
  ·exact hin u (List.mem_of_getElem? hu)
  ·exact backs_all htl hin h2 y hy
theorem confE_ok {g : GV} {node : Int} {is l : List Int} (hce : gr_checkE g = 0) (hn : gr_inQ node g.ol = true) (hb : backs g.ts g.tl is = some l) (hl : l.length ≤ 4000) : confE g node is = (0, node :: l) := by
 unfold confE
 rw [if_neg (by rw [hce]; simp), if_neg (by rw [hn]; simp), hb]
 exact if_neg (by omega)
theorem next_want {g : GV} {qs : List QV} {node : Int} {bs : List Int} (hqm : qs.map QV.pl = g.ss.map (stepR g) ++ g.xs.map exitR') (h2 : ∀ q ∈ qs, q.l ≤ 2) (hb : bs.length ≤ 4000) : ∃ l, nextF 0 (node :: bs) (qs.map rvOf) 0 = some l ∧ l.map (·.2) = wantS g node bs g.ss ++ wantX node bs g.xs := by
 obtain ⟨l, h1, h3⟩ := next_of (node := node) (bs := bs) qs 0 (fun q hq => by have := h2 q hq; omega)
 exact ⟨l, h1, by rw [h3, filter_pl hqm, want_all]⟩
theorem conf_ok {p : PV} {c : CV} (h0 : pdsE p = 0) (h1 : inQ c.p p.st = true) (h2 : c.wl ≤ 4096) (h3 : ∀ y ∈ c.ws, inQ y p.sy = true) : stepE p c = 0 := by
 unfold stepE
 rw [if_neg (not_not_intro h0), if_pos]
 unfold confB
 rw [h1, decide_eq_true h2, List.all_eq_true.2 h3]; rfl
theorem nextS_is {W : World} {lo lo2 : Nat} {g : GV} {a ac : Option Addr} {c cc : Nat} {qs : List QV} {node : Int} {bs is : List Int} (htl : g.ts.length = g.tl) (hel : g.es.length = g.el) (hxl : g.xs.length = g.xl) (hsl : g.ss.length = g.sl) (hs5 : g.sl ≤ 5000) (hx5 : g.xl ≤ 5000)
  (hce : gr_checkE g = 0) (hn : gr_inQ node g.ol = true) (hb : backs g.ts g.tl is = some bs) (hbl : bs.length ≤ 4000) (hqm : qs.map QV.pl = g.ss.map (stepR g) ++ g.xs.map exitR')
  (h : W.ownsRow lo 69 10 (.slice a qs.length c) qs.length (qs.flatMap QV.ten)) (hq : ∀ q ∈ qs, QN lo W q) (hr : gr_RowN lo2 W ac cc (node :: bs)) :
  Calls Try.prog 9 #[.agg #[.int .i64 1, .int .i64 0, .slice none 0 0, .int .i64 1, .int .i64 (g.ol : Int), .slice a qs.length c], .agg #[.int .i64 0, .slice ac (node :: bs).length cc]] W
   (fun e w' => ∃ v8 a9 c9, ∃ ds : List CV, e = .returned (.tuple #[v8, .slice a9 ds.length c9, .int .i64 0]) ∧ w'.ownsRow W.heap.size 44 2 (.slice a9 ds.length c9) ds.length (ds.flatMap two9) ∧ ds.map CV.pl = wantS g node bs g.ss ++ wantX node bs g.xs ∧ (∀ d ∈ ds, CHeld W.heap.size w' d) ∧ Below W.heap.size W w') := by
 have hok := gOk hel hxl htl hce
 obtain ⟨hru, hl2⟩ := rules_ok hok hqm (fun q hq9 => (hq q hq9).1)
 have hql : qs.length ≤ 16384 := by
  have := congrArg List.length hqm
  simp only [List.length_map, List.length_append] at this
  omega
 have hp := pv_in (w := W) (ol := (g.ol : Int)) h hq
 have hpe : pdsE (pvOf g.ol a qs.length c qs) = 0 := pv_ok hru hql hok.ol
 have hwl : (node :: bs).length ≤ 4096 := by rw [List.length_cons]; omega
 have hse : stepE (pvOf g.ol a qs.length c qs) ⟨0, ac, (node :: bs).length, cc, node :: bs⟩ = 0 := conf_ok hpe rfl hwl (fun y hy => by
  have h9 : gr_inQ y g.ol = true := by
   rcases List.mem_cons.1 hy with rfl | hy
   ·exact hn
   ·exact backs_all htl (backs_in htl hce) hb y hy
  obtain ⟨i1, i2⟩ := inQ_lt h9
  show inQ y (g.ol : Int) = true
  unfold inQ
  rw [decide_eq_true i1, decide_eq_true i2]; rfl)
 obtain ⟨l, hl, hlw⟩ := next_want (node := node) hqm hl2 hbl
 have hc := nextR_c 1 1 sv0 1 (g.ol : Int) a qs.length c (qs.map rvOf) 0 ac (node :: bs).length cc (node :: bs) W hp.s hp.row hp.len hp.rin (rowI_row hr.row) rfl hr.cap hse hql (fun r hr9 => by
  obtain ⟨q, hq9, rfl⟩ := List.mem_map.1 hr9
  exact hru.l q hq9) hwl
 rw [hl] at hc
 refine hc.mono fun e w' ⟨hb9, v8, v9, ds, he, h8, h9, hm, hh⟩ => ?_
 obtain ⟨a9, c9, rfl, _⟩ := ownsRow_sl h9
 exact ⟨v8, a9, c9, ds, he, h9, by rw [hm, hlw], hh, hb9⟩
theorem cfs_cell {W : World} {lo i c : Nat} {a : Option Addr} {cs : List CV} {cv : CV} (h : W.ownsRow lo 44 2 (.slice a cs.length c) cs.length (cs.flatMap two9)) (hx : cs[i]? = some cv) : ∃ b, a = some ⟨b, 0, none⟩ ∧ CellsAt W b (0 + i * 2) [.int .i64 cv.p, .slice cv.wa cv.wl cv.wc] := by
 have hlt := (List.getElem?_eq_some_iff.1 hx).1
 rcases h.2 with ⟨_, e2⟩ | ⟨g, cap, cur, e1, _, hg, _, _, hs, ht⟩
 ·omega
 ·cases e1
  refine ⟨g, rfl, ?_⟩
  rw [Nat.zero_add]
  have hg2 : W.heap[g]? = some (.cells cur.toList.toArray 44 (0, 0)) := hg
  refine CellsAt.own (j := i * 2) (m := 2) hg2 ?_
  have e5 := gr_flat_at (f := two9) (sz := 2) (fun _ => rfl) hx
  rw [← ht, List.drop_take, List.take_take] at e5
  rw [Nat.min_eq_left (by omega)] at e5
  exact e5
theorem sameCv {W : World} {l1 l2 : Nat} {c d : CV} (hc : CHeld l1 W c) (hd : CHeld l2 W d) (he : c.pl = d.pl) : Calls Try.prog 10 #[.agg #[.int .i64 c.p, .slice c.wa c.wl c.wc], .agg #[.int .i64 d.p, .slice d.wa d.wl d.wc]] W fun e w' => e = .returned (.bool true) ∧ Below W.heap.size W w' := by
 obtain ⟨p1, a1, n1, c1, x1⟩ := c
 obtain ⟨p2, a2, n2, c2, x2⟩ := d
 have e1 : p1 = p2 := congrArg (·.1) he
 have e2 : x1 = x2 := congrArg (·.2) he
 have e3 : n1 = x1.length := hc.2
 have e4 : n2 = x2.length := hd.2
 subst e1; subst e2; subst e3; subst e4
 have r1 : gr_RowN l1 W a1 c1 x1 := hc.1
 have r2 : gr_RowN l2 W a2 c2 x1 := hd.1
 have hm : x1.length ≤ 9223372036854775807 := by
  have h9 : x1.length ≤ maxLen := by
   rcases hc.1.2 with ⟨_, e2⟩ | ⟨g, cap, cur, _, _, _, hn, hm, _⟩
   ·rw [e2]; exact Nat.zero_le _
   ·exact Nat.le_trans hn hm
  simp only [maxLen] at h9; omega
 have h := sameConf_is p1 p1 a1 a2 x1.length c1 x1.length c2 x1 x1 W r1.row rfl r2.row rfl hm
 rw [decide_eq_true rfl, decide_eq_true rfl] at h
 exact h
end Go.Proofs.Ythepjghlipdcoaa
namespace Go.Proofs.Ythepjghlipdcoaa
open Go Go.RowKit
theorem pdsBad_c (va : Option Addr) (vl : Nat) (vc : Nat) (pa : Option Addr) (pl : Nat) (pc : Nat) (ea : Option Addr) (el : Nat) (ec : Nat) (es : List Int) (xa : Option Addr) (xl : Nat) (xc : Nat) (xs : List Int) (mn : Int) (oa : Option Addr) (ol : Nat) (oc : Nat) (os : List Int) (sa : Option Addr) (sl : Nat) (sc : Nat) (ss : List TV) (ta : Option Addr) (tl : Nat) (tc : Nat) (ts : List UV) (na : Option Addr) (nl : Nat) (nc : Nat) (ns : List NV) (ka : Option Addr) (kl : Nat) (kc : Nat) (ks : List KV) (w : World) (he : RowI w ea es) (hel : es.length = el) (hx : RowI w xa xs) (hxl : xs.length = xl) (ho : RowI w oa os) (hol : os.length = ol) (hs : RowL TV.sev 7 w sa ss) (hsl : ss.length = sl) (ht : RowL UV.four 4 w ta ts) (htl : ts.length = tl) (hn : RowL NV.two 2 w na ns) (hnl : ns.length = nl) (hk : RowL KV.two 2 w ka ks) (hkl : ks.length = kl) (b1 : vl ≤ 5000) (b2 : pl ≤ 5000) (b3 : el ≤ 5000) (b4 : xl ≤ 5000) (b5 : ol ≤ 5000) (b6 : sl ≤ 5000) (b7 : tl ≤ 5000) (b8 : nl ≤ 5000) (b9 : kl ≤ 5000) (hce : gr_checkE ⟨va, vl, vc, pa, pl, pc, ea, el, ec, es, xa, xl, xc, xs, mn, oa, ol, oc, os, sa, sl, sc, ss, ta, tl, tc, ts, na, nl, nc, ns, ka, kl, kc, ks⟩ ≠ 0) :
  Calls Try.prog 6 #[.agg #[.slice va vl vc, .slice pa pl pc, .slice ea el ec, .slice xa xl xc, .int .i64 mn, .slice oa ol oc, .slice sa sl sc, .slice ta tl tc, .slice na nl nc, .slice ka kl kc], .int .i64 1] w (fun e w' => e = .returned (.tuple #[.agg #[.int .i64 0, .int .i64 0, .slice none 0 0, .int .i64 0, .int .i64 0, .slice none 0 0], .int .i64 (gr_checkE ⟨va, vl, vc, pa, pl, pc, ea, el, ec, es, xa, xl, xc, xs, mn, oa, ol, oc, os, sa, sl, sc, ss, ta, tl, tc, ts, na, nl, nc, ns, ka, kl, kc, ks⟩)]) ∧ Below w.heap.size w w') := by
 refine enterF (args := [.agg #[.slice va vl vc, .slice pa pl pc, .slice ea el ec, .slice xa xl xc, .int .i64 mn, .slice oa ol oc, .slice sa sl sc, .slice ta tl tc, .slice na nl nc, .slice ka kl kc], .int .i64 1]) Try.func6 rfl Try.ntmps6 rfl ?_
 have hS := St.start w
 refine seqF (regF ?_)
 refine op_box (cs := [_, _, _, _, _, _, _, _, _, _]) hS rfl rfl rfl ?_
 clear hS; intro B1 W1 hS
 refine op_alloc (cs := [_, _, _, _, _, _]) hS Try.zeroValue38 rfl rfl ?_
 clear hS; intro B2 W2 hS
 refine op_assign rfl rfl ?_
 refine endF (XF.thenN ?_)
 refine seqF ?_
 refine seqF (regF ?_)
 refine op_loadA (vs := [_, _, _, _, _, _, _, _, _, _]) Try.isAgg29 Try.sizeOf29 rfl (CellsAt.own (j := 0) (m := 10) (hS.at_ 1 rfl) rfl) rfl ?_
 refine op_move rfl rfl ?_
 refine op_call (vs := [_, _]) hS gr_goes_12 rfl (echeck_c _ vl vc _ pl pc _ el ec es _ xl xc xs mn _ ol oc os _ sl sc ss _ tl tc ts _ nl nc ns _ kl kc ks  _ (he.below hS.below) hel (hx.below hS.below) hxl (ho.below hS.below) hol (hs.below hS.below) hsl (ht.below hS.below) htl (hn.below hS.below) hnl (hk.below hS.below) hkl b1 b2 b3 b4 b5 b6 b7 b8 b9) rfl ?_
 rintro e W3 ⟨rfl, hb⟩
 refine ⟨_, rfl, hb, fun hS' => ?_⟩
 clear hS; have hS := hS'; clear hS' hb
 refine op_assign rfl rfl ?_
 refine endF (XF.thenN ?_)
 refine seqF (regF ?_)
 refine op_move rfl rfl ?_
 refine op_neq rfl rfl rfl ?_
 refine endF (XF.thenN ?_)
 refine condF rfl (fun hc => ?_) (fun hc => absurd (of_decide_eq_false hc) (by exact fun h => h hce))
 have hc := of_decide_eq_true hc
 refine seqF (regF ?_)
 refine op_build (us := []) rfl (gr_bld_38) rfl ?_
 refine op_move rfl rfl ?_
 refine op_storeA (i := 0) (vs := [_, _, _, _, _, _]) (cs' := [_, _, _, _, _, _]) (O' := [_, _]) hS Try.sizeOf38 rfl rfl rfl rfl rfl rfl rfl ?_
 clear hS; intro W4 hS
 refine op_assign rfl rfl ?_
 refine endF (XF.thenN ?_)
 refine retF ?_
 refine XF.thenR ?_
 refine XF.res (resCT (vs := [_, _, _, _, _, _]) Try.results6 Try.isAgg38 Try.sizeOf38 rfl (CellsAt.own (j := 0) (m := 6) (hS.at_ 0 rfl) rfl) rfl) ?_
 exact ⟨rfl, hS.below⟩
end Go.Proofs.Ythepjghlipdcoaa
namespace Go.Proofs.Ythepjghlipdcoaa
open Go Go.RowKit
section
variable {P : Program} {ops : Array Oper} {Q : Exit → Act → World → Prop} {σ : Type}
theorem tailT_all {ops : Array Oper} {k : Nat} (hk : ops.size = k) : tailT ops k = true := List.all_eq_true.2 fun j hj => by
 rw [decide_eq_true (show j < k by have := List.mem_range.1 hj; omega)]; rfl
theorem getD_out {L : Array Bool} {i : Nat} (h : L.size ≤ i) : L.getD i false = false := by
 rw [Array.getD_eq_getD_getElem?, Array.getElem?_eq_none (by omega)]; rfl
theorem region_ghostL {t0 : Array Value} {d0 : List Deferred} {G : σ → World → Prop} {I : σ → Nat → Value → World → Prop} {V : σ → Array Bool → Prop} {k : Nat} (hk : ops.size = k) (ht : tidyR ops t0.size = true)
  (hstep : ∀ i, i < k → GStep P ops Q t0 G I V i)
  (hfin : ∀ s L a w, RInvG ops t0 d0 G I V s L a w → (∀ i, i < k → L.getD i false = true) → wpList P ops Q (ops.toList.drop k) a w) :
  ∀ (fuel : Nat) (s : σ) (L : Array Bool) (a : Act) (w : World), L.size = ops.size → L.toList.count false ≤ fuel → ClosedG ops L → RInvG ops t0 d0 G I V s L a w → wpAny P .any ops Q fuel L a w := by
 intro fuel
 induction fuel with
 | zero =>
  intro s L a w hs hc hcl h
  have hall : ∀ i, i < k → L.getD i false = true := fun i hi => by
   cases hb : L.getD i false with
   | true => rfl
   | false =>
    have := cnt_set _ _ (cnt_getD (by omega) hb)
    omega
  exact tail_run (fun _ _ => trivial) (tailT_all hk) ht 0 k 0 L a w (by omega) (Nat.le_refl _) (Nat.le_refl _) hs hcl hall (fun i hi => getD_out (by omega)) (hfin s L a w h hall)
 | succ fuel ih =>
  intro s L a w hs hc hcl h
  by_cases hall : ∀ i, i < k → L.getD i false = true
  ·exact tail_run (fun _ _ => trivial) (tailT_all hk) ht 0 k (fuel + 1) L a w (by omega) (Nat.le_refl _) (Nat.zero_le _) hs hcl hall (fun i hi => getD_out (by omega)) (hfin s L a w h hall)
  ·refine ⟨fun hr => ?_, fun i hi => ?_⟩
   ·exfalso; apply hall
    intro i hi
    have h1 := ready_nil ht hs hr i (by omega)
    rw [Array.getD_eq_getD_getElem?, Array.getElem?_eq_getElem (by omega)] at h1 ⊢
    simpa using h1
   ·obtain ⟨his, hr⟩ := ready_g hi hs
    have hik : i < k := by omega
    have hc1 := cnt_set _ _ (cnt_getD (by omega) hr.1)
    refine wpOp_mono ?_ (hstep i hik s L a w (fun t ht => h.frame t ht) h.glob h.cons hs hcl hr (fun j d hw => ?_))
    ·rintro a' w' ⟨s', v, rfl, hV, hG, hI, hst⟩
     refine ih s' _ _ _ (by simpa using hs) ?_ (hcl.next hr (by omega)) ⟨by rw [put_size]; exact h.size, by rw [put_defers]; exact h.defers, fun t hf => ?_, hG, hV, fun j d hd hj => ?_⟩
     ·rw [Array.toList_setIfInBounds]; omega
     ·rw [put_other ?_]
      ·exact h.frame t hf
      ·intro hd
       obtain ⟨o, ho, hd⟩ := Option.bind_eq_some_iff.1 hd
       have := Array.all_eq_true'.1 hf o (Array.mem_of_getElem? ho)
       simp [hd] at this
     ·by_cases hji : j = i
      ·subst hji
       rw [put_at hd (by rw [h.size]; exact (tidy_dst ht hd).1)]
       exact hI d hd
      ·rw [getD_set_ne false (Ne.symm hji)] at hj
       rw [put_other (fun e => hji ((tidy_dst ht e).2 j hd))]
       exact hst j d hd (h.done j d hd hj)
    ·have : j ∈ aft ops i := by
      unfold waitsFor at hw
      unfold aft
      cases ho : ops[i]? with
      | none => simp [ho] at hw
      | some o =>
       simp only [ho, Bool.and_eq_true, beq_iff_eq] at hw
       obtain ⟨e, he, h2⟩ := Array.any_eq_true'.1 hw.1
       simp only [Bool.and_eq_true, beq_iff_eq] at h2
       exact List.mem_map.2 ⟨e, List.mem_filter.2 ⟨Array.mem_toList_iff.2 he, h2.2⟩, h2.1⟩
     have hd : (ops[j]?).bind (·.dst) = some d := by
      unfold waitsFor at hw
      simp only [Bool.and_eq_true, beq_iff_eq] at hw
      exact hw.2
     exact h.done j d hd (hr.2 j this)
end
section
variable {P : Program} {n : Nat} {Q : Exit → Act → World → Prop} {l : Fr} {w0 W : World} {ops : Array Oper} {os : List Oper} {K : List (Nat × World)} {L : List Asr} {i : Nat}
variable {al : List Nat} {ca : Nat → Option Value → List Value} {ta : Nat → TypeId} {Os : Option Value → Own} {Gs : Option Value → Grows} {lo ef jy : Nat} {s : Sg}
variable {d : Nat} {op : Op} {ty : TypeId} {pos : String} {aft_ : Array Edge} {v : Value} {gd : Option (Nat × Bool)}
theorem regSL {id k : Nat} {ds : List Nat} (hm : P.follows .mixedOrders = true) (hlo : lo = W.heap.size) (hS : St w0 (Os none) (Gs none) K W) (hk : os.length = k) (ht : tidyR os.toArray n = true) (hal : al.all (fun a => Nat.blt a k) = true) (hnd : al.Nodup) (hea : al.contains ef = false)
  (hev : Nat.blt ef k = true) (hdst : (List.range k).all (fun j => Nat.beq j ef || ((os.toArray[j]?).bind (·.dst)).isSome) = true) (hds : (os.drop k).all (fun o => match o.dst with | some d => ds.contains d | none => true) = true)
  (h : BLS P n os.toArray Q l w0 K lo al ef jy ca ta Os Gs (fun Lr => ∀ (Bf : Nat → Nat) (y : Value) (W' : World) (Ks : List (Nat × World)), W.heap.size ≤ W'.heap.size → (∀ q ∈ Ks, lo ≤ q.1) → St w0 (al.map (fun a => (Bf a, ca a (some y), ta a)) ++ Os (some y)) (Gs (some y)) (Ks ++ K) W' →
   (∀ {O2 G2 K2 W2}, St w0 O2 G2 K2 W2 → (∀ q ∈ Ks, q ∈ K2) → SameX lo (XB (al.map (fun a => (Bf a, ca a (some y), ta a)) ++ Os (some y)) (Gs (some y))) W' W2) →
   FinI (os.take k) (finL al ef jy lo (XB (al.map (fun a => (Bf a, ca a (some y), ta a)) ++ Os (some y)) (Gs (some y))) Bf y 0 Lr.reverse) (dropF ds l) (fun l' W' => OpsF P n os.toArray Q (os.drop k) l' W') W') k [] 0) : CodeF P n (.region id os.toArray true) Q l W := by
 obtain ⟨Lr, h1, h2, hfin⟩ := bls_run ht k 0 [] rfl (fun j _ => by rfl) (fun i hi => by omega) h
 rw [Nat.zero_add] at h1 h2
 have hal' : ∀ a ∈ al, a < k := fun a ha => Nat.lt_of_lt_of_le (Nat.lt_succ_self _) (Nat.le_of_ble_eq_true (List.all_eq_true.1 hal a ha))
 have hea' : ef ∉ al := fun h => by rw [List.contains_iff_mem.2 h] at hea; cases hea
 intro a ha
 refine wp_region_any hm (region_ghostL (t0 := a.tmps) (d0 := a.defers) (V := VG al ef) (I := IG al ef jy lo ca ta Os Gs Lr.reverse) (G := GG w0 K lo ca ta Os Gs) (k := k) (by simpa using hk) (by rw [ha.size]; exact ht) (fun i hi => (h2 i hi).step a ha) ?_ _ ⟨none, []⟩ _ _ _ (by simp) (count_rep _) (fun j hj => by rw [Array.getD_eq_getD_getElem?, Array.getElem?_replicate] at hj; split at hj <;> simp at hj) ⟨rfl, rfl, fun _ _ => rfl, ⟨by unfold OE; exact hS.drew, by rw [hlo]; exact Nat.le_refl _, (fun q hq => by cases hq)⟩, ⟨fun a _ => ?_, (fun q hq => by cases hq), List.Pairwise.nil, ?_⟩, fun i d _ hj => ?_⟩)
 ·intro s LB a' W' hR hdone
  obtain ⟨hG, hG2, hG3⟩ := hR.glob
  obtain ⟨v1, v2, v3, v4⟩ := hR.cons
  obtain ⟨ev, bs⟩ := s
  have hall : ∀ x ∈ al, (x, bAt bs x) ∈ bs := fun x hx => bAt_mem ((v1 x hx).1 (hdone x (hal' x hx)))
  obtain ⟨y, hy⟩ : ∃ y, ev = some y := by
   have h3 : ev.isSome = true := v4.1 (hdone ef (Nat.lt_of_lt_of_le (Nat.lt_succ_self _) (Nat.le_of_ble_eq_true hev)))
   exact Option.isSome_iff_exists.1 h3
  subst hy
  have hperm : bs.Perm (al.map (fun x => (x, bAt bs x))) := by
   refine (List.perm_ext_iff_of_nodup (v3.imp (fun h e => h (by rw [e]))) ?_).2 fun q => ?_
   ·refine List.Pairwise.map _ (fun x y (hxy : x ≠ y) => ?_) hnd
    intro e; exact hxy (congrArg Prod.fst e)
   ·constructor
    ·intro hq
     have h3 := hall q.1 (v2 q hq)
     have h4 := bAt_uniq v3 hq h3 rfl
     rw [h4]
     exact List.mem_map.2 ⟨q.1, v2 q hq, rfl⟩
    ·intro hq
     obtain ⟨x, hx, rfl⟩ := List.mem_map.1 hq
     exact hall x hx
  have hO : (OE ca ta Os ⟨some y, bs⟩).Perm (al.map (fun a => (bAt bs a, ca a (some y), ta a)) ++ Os (some y)) := by
   unfold OE
   refine List.Perm.append_right _ ?_
   have := hperm.map (fun q : Nat × Nat => (q.2, ca q.1 (some y), ta q.1))
   rw [List.map_map] at this
   exact this
  have hG' := hG.perm hO
  have hX : ∀ b, XB (OE ca ta Os ⟨some y, bs⟩) (Gs (some y)) b ↔ XB (al.map (fun a => (bAt bs a, ca a (some y), ta a)) ++ Os (some y)) (Gs (some y)) b := fun b => by
   unfold XB
   constructor
   ·rintro (⟨p, hp, e⟩ | h); exact .inl ⟨p, hO.mem_iff.1 hp, e⟩; exact .inr h
   ·rintro (⟨p, hp, e⟩ | h); exact .inl ⟨p, hO.mem_iff.2 hp, e⟩; exact .inr h
  obtain ⟨Ks, c1, ⟨qw, c2, c3⟩, c4⟩ := cuts (((al.map (fun a => (bAt bs a, ca a (some y), ta a)) ++ Os (some y)).map (·.1)) ++ (Gs (some y)).filterMap (fun g => g.v.ownBlock)) lo W'
  have hG4 := hG'.more Ks (fun q hq => ⟨(c1 q hq).2.1, fun p hp => (c1 q hq).2.2 p.1 (List.mem_append_left _ (List.mem_map.2 ⟨p, hp, rfl⟩)), fun g hg b hb => (c1 q hq).2.2 b (List.mem_append_right _ (List.mem_filterMap.2 ⟨g, hg, hb⟩))⟩)
  have hcov : ∀ {O2 G2 K2 W2}, St w0 O2 G2 K2 W2 → (∀ q ∈ Ks, q ∈ K2) → SameX lo (XB (al.map (fun a => (bAt bs a, ca a (some y), ta a)) ++ Os (some y)) (Gs (some y))) W' W2 := fun {O2 G2 K2 W2} h2 hq => by
   refine ⟨⟨h2.below.os.trans hG.below.os.symm, h2.below.tape.trans hG.below.tape.symm, h2.below.output.trans hG.below.output.symm⟩, ?_, fun b b1 b2 b3 => ?_⟩
   ·have := (h2.kept qw (hq qw c2)).1.1; rw [c3] at this; exact this
   ·obtain ⟨q, q1, q2, q3⟩ := c4 b b1 b2 (fun hb => b3 (by
     rcases List.mem_append.1 hb with hb | hb
     ·obtain ⟨p, hp, rfl⟩ := List.mem_map.1 hb
      exact .inl ⟨p, hp, rfl⟩
     ·obtain ⟨g, hg, e⟩ := List.mem_filterMap.1 hb
      exact .inr ⟨g, hg, e⟩))
    exact ((h2.kept q (hq q q1)).1.2 b q2 q3).trans ((c1 q q1).2.1.2 b q2 q3).symm
  have htk : (os.take k).length = k := by simp; omega
  refine fin_hasS (os.take k) (finL al ef jy lo (XB (al.map (fun a => (bAt bs a, ca a (some y), ta a)) ++ Os (some y)) (Gs (some y))) (bAt bs) y 0 Lr.reverse) (dropF ds l) (fun i d hi hd' => ?_) (fun i hi hd' => ?_) (hR.size.trans ha.size) (hR.defers.trans ha.defers) ?_ (fun l' h ha' => ?_) (hfin (bAt bs) y W' Ks (by rw [← hlo]; exact hG2) (fun q hq => (c1 q hq).1) hG4 hcov)
  ·have hik : i < k := by omega
   have hd2 : (os.toArray[i]?).bind (·.dst) = some d := by rw [List.getElem?_take, if_pos hik] at hd'; simpa using hd'
   obtain ⟨i1, i2, i3, i4⟩ := hR.done i d hd2 (hdone i hik)
   rw [atI_finL Lr.reverse 0 i (by simp; omega), Nat.add_zero]
   cases hc1 : al.contains i with
   | true =>
    rw [cond_true]
    obtain ⟨B, hB, e⟩ := i1 (List.contains_iff_mem.1 hc1)
    have := bAt_uniq v3 hB (hall i (List.contains_iff_mem.1 hc1)) rfl
    show _ = _
    rw [e, show B = bAt bs i from congrArg Prod.snd this]
   | false =>
    rw [cond_false]
    have hni : i ∉ al := fun hm' => by rw [List.contains_iff_mem.2 hm'] at hc1; cases hc1
    cases hc2 : Nat.beq i ef with
    | true =>
     rw [cond_true]
     have h5 := i2 (Nat.eq_of_beq_eq_true hc2)
     exact (Option.some.inj h5).symm
    | false =>
     rw [cond_false]
     have hne : i ≠ ef := fun e => by rw [e, Nat.beq_refl] at hc2; cases hc2
     have h6 : AwS lo (XB (al.map (fun a => (bAt bs a, ca a (some y), ta a)) ++ Os (some y)) (Gs (some y))) (atI Lr.reverse i) (a'.tmps.getD d undef) W' := fun w2 hw2 => i4 hni hne w2 ⟨hw2.1, hw2.2.1, fun b b1 b2 b3 => hw2.2.2 b b1 b2 (fun hb => b3 ((hX b).2 hb))⟩
     cases hc3 : Nat.beq i jy with
     | true =>
      rw [cond_true]
      refine ⟨?_, h6⟩
      exact i3 (Nat.eq_of_beq_eq_true hc3) y rfl
     | false => rw [cond_false]; exact h6
  ·have hik : i < k := by omega
   have h3 := List.all_eq_true.1 hdst i (List.mem_range.2 hik)
   rw [Bool.or_eq_true] at h3
   have hd2 : (os.toArray[i]?).bind (·.dst) = none := by rw [List.getElem?_take, if_pos hik] at hd'; simpa using hd'
   rcases h3 with h3 | h3
   ·rw [atI_finL Lr.reverse 0 i (by simp; omega), Nat.add_zero]
    have hc1 : al.contains i = false := by rw [Nat.eq_of_beq_eq_true h3]; exact hea
    rw [hc1, cond_false, h3, cond_true]
    exact ⟨y, rfl⟩
   ·rw [hd2] at h3; cases h3
  ·intro t v hv hno
   have hl := look_dropF hv (look_dropF_not hv)
   have hnt := look_dropF_not hv
   rw [hR.frame t ?_]
   ·exact ha.at_ t v hl
   ·unfold freeT; rw [Array.all_eq_true']; intro o' ho'
    have ho2 : o' ∈ os := by simpa using ho'
    rw [← List.take_append_drop k os] at ho2
    rcases List.mem_append.1 ho2 with ho2 | ho2
    ·simpa using hno o' ho2
    ·have h5 := List.all_eq_true.1 hds o' ho2
     cases hx : o'.dst with
     | none => simp
     | some d =>
      rw [hx] at h5
      simp
      intro e; subst e
      exact hnt (List.contains_iff_mem.1 h5)
  ·have := h a' ha'
   simpa using this
 ·rw [Array.getD_eq_getD_getElem?, Array.getElem?_replicate]
  constructor
  ·intro h3; split at h3 <;> simp at h3
  ·rintro ⟨B, hB⟩; cases hB
 ·rw [Array.getD_eq_getD_getElem?, Array.getElem?_replicate]
  constructor
  ·intro h3; split at h3 <;> simp at h3
  ·intro h3; cases h3
 ·rw [Array.getD_eq_getD_getElem?, Array.getElem?_replicate] at hj
  split at hj <;> simp at hj
end
section
variable {P : Program} {n : Nat} {Q : Exit → Act → World → Prop} {l : Fr} {w0 W : World} {ops : Array Oper} {os : List Oper} {K : List (Nat × World)} {L : List Asr} {i : Nat} {O : Own} {G : Grows}
variable {al : List Nat} {zc : Nat → List Value} {ta : Nat → TypeId} {lo ef jy : Nat} {d : Nat} {ty : TypeId} {pos : String} {aft_ : Array Edge} {v : Value}
def osY (O : Own) (j jx B : Nat) (cs : List Value) (U : TypeId) : Option Value → Own
 | none => O
 | some y => O.set j (B, splice cs jx y.cells.toList, U)
theorem osY_at {O : Own} {j jx B i : Nat} {cs : List Value} {U : TypeId} {ev : Option Value} {p : Nat × List Value × TypeId} (h : O[i]? = some p) (hij : Nat.beq i j = false) : (osY O j jx B cs U ev)[i]? = some p := by
 cases ev with
 | none => exact h
 | some y =>
  show (O.set j _)[i]? = _
  rw [List.getElem?_set_ne (fun e => by rw [e, Nat.beq_refl] at hij; cases hij)]; exact h
theorem eff_stP {T U : TypeId} {x : Operand} {tyy B m : Nat} {cs : List Value} {py : Asr} (j jx : Nat) (li : Fr) (hal : al.contains ef = false) (hij : Nat.beq ef jy = false) (hi : ops[ef]? = some ⟨none, .store T x (.tmp tyy), ty, pos, aft_, none⟩) (hjy : (ops[jy]?).bind (·.dst) = some tyy) (hwy : waitsFor ops ef jy tyy = true) (hja : al.contains jy = false) (hLy : atI L jy = py) (hNo : NoAsr al ef L) (hli : AllO n ops l L ef li) (hx : evL li x = some (.pointer (some ⟨B, jx, none⟩)))
  (hO : O[j]? = some (B, cs, U)) (hsz : ∀ w, (sizeOf T).run P w = .ok m w) (hpy : ∀ v w, py v w → ∃ vs : List Value, v.cells = vs.toArray ∧ vs.length = m ∧ vs.all Value.oneCell' = true) (hjm : Nat.ble (jx + m) cs.length = true) : SG P n ops Q l w0 K lo al ef jy (caNo zc) ta (osY O j jx B cs U) (gsNo G) L ef :=
 sg_eff hal hij hi fun t0 a bs w h0 hF hG hbs hD => by
  have hD' := deps_has h0 hF hD (fun j d _ hj => hNo j hj)
  have ex := allO_has h0 hF hD' hli x _ hx
  have hy := ((hD jy tyy hwy).2.2.2 (fun h => by rw [List.contains_iff_mem.2 h] at hja; cases hja) (fun e => by rw [e, Nat.beq_refl] at hij; cases hij)).here
  rw [hLy] at hy
  obtain ⟨vs, hc, hl, h1⟩ := hpy _ _ hy
  have hcl : (a.eval (.tmp tyy)).cells.toList = vs := by rw [hc]
  have hOk : (OE (caNo zc) ta (osY O j jx B cs U) ⟨none, bs⟩)[bs.length + j]? = some (B, cs, U) := by
   unfold OE
   rw [List.getElem?_append_right (by simp)]
   simpa [osY] using hO
  have hXB : XB (OE (caNo zc) ta (osY O j jx B cs U) ⟨none, bs⟩) (gsNo G none) B := .inl ⟨_, List.mem_of_getElem? hOk, rfl⟩
  have hrun := storeAt_many (P := P) hsz hc hl h1 (hG.1.at_ _ hOk) (j := jx) (Nat.le_of_ble_eq_true hjm)
  have hO' : OE (caNo zc) ta (osY O j jx B cs U) ⟨some (a.eval (.tmp tyy)), bs⟩ = (OE (caNo zc) ta (osY O j jx B cs U) ⟨none, bs⟩).set (bs.length + j) (B, splice cs jx vs, U) := by
   unfold OE
   rw [List.set_append_right _ _ (by simp)]
   congr 1
   simp [osY, hcl]
  refine wp_store hi rfl rfl rfl (by rw [ex]; exact hrun) ⟨undef, a.eval (.tmp tyy), rfl, (fun d hd => by cases hd), ?_, setMany_sameX hXB, ?_, fun d hd => ?_⟩
  ·rw [hO']
   exact hG.1.setMany _ vs jx hOk
  ·rintro b (⟨p, hp, rfl⟩ | h)
   ·rw [hO'] at hp
    rcases List.mem_or_eq_of_mem_set hp with hp | rfl
    ·exact .inl (.inl ⟨p, hp, rfl⟩)
    ·exact .inl hXB
   ·exact .inl (.inr h)
  ·rw [hjy] at hd; cases hd; rfl
end
section
variable {P : Program} {n : Nat} {Q : Exit → Act → World → Prop} {l : Fr} {w0 W : World} {ops : Array Oper} {os : List Oper} {K : List (Nat × World)} {L : List Asr} {i : Nat}
variable {al : List Nat} {ca : Nat → Option Value → List Value} {ta : Nat → TypeId} {Os : Option Value → Own} {Gs : Option Value → Grows} {lo ef jy : Nat} {s : Sg}
variable {d : Nat} {op : Op} {ty : TypeId} {pos : String} {aft_ : Array Edge} {v : Value} {gd : Option (Nat × Bool)}
theorem sg_of {p q : Asr} {td j0 : Nat} (hal : al.contains i = false) (hie : Nat.beq i ef = false) (hij : earlyJ ops ef jy i = true) (hi : ops[i]? = some ⟨some d, op, ty, pos, aft_, none⟩) (hNo : NoAsr al ef L) (hw : waitsFor ops i j0 td = true) (hja : al.contains j0 = false) (hje : Nat.beq j0 ef = false) (hLp : atI L j0 = p)
  (hr : ∀ (ev : Operand → Value) w, p (ev (.tmp td)) w → ∃ v, (execOp ev ⟨some d, op, ty, pos, #[], none⟩).run P w = .ok (.value v) w ∧ ∀ w', p (ev (.tmp td)) w' → q v w') (hI : atI L i = q) : SG P n ops Q l w0 K lo al ef jy ca ta Os Gs L i :=
 sg_base (fun h => by rw [List.contains_iff_mem.2 h] at hal; cases hal) (fun e => by rw [e, Nat.beq_refl] at hie; cases hie) (earlyJ_of hij) hi hNo fun t0 a s w h0 hF hG he hD hD' => by
  have hA := (hD j0 td hw).2.2.2 (fun h => by rw [List.contains_iff_mem.2 h] at hja; cases hja) (fun e => by rw [e, Nat.beq_refl] at hje; cases hje)
  rw [hLp] at hA
  obtain ⟨v, h1, h2⟩ := hr a.eval w hA.here
  exact wp_val hi rfl (by rw [execOp_guard a.eval _ _ _ _ pos _ #[] _ none]; exact h1) ⟨v, rfl, by rw [hI]; exact fun w2 hw2 => h2 w2 (hA w2 hw2), Below.refl _ _⟩
end
end Go.Proofs.Ythepjghlipdcoaa
namespace Go.Proofs.Ythepjghlipdcoaa
open Go Go.RowKit
theorem run_lit2 {w : World} {B : Nat} {x : Int} {la : Option Addr} {ll lc : Nat} {is : List Int} {ty : TypeId} (hB : w.heap[B]? = some (.cells #[.int .i64 x] 3 (0, 0))) (hr : RowI w la is) (hl : is.length = ll) (hm : ll ≤ 5000) :
  ∃ v w', (Builtin.append_ #[23, 23] ty #[.slice (some ⟨B, 0, none⟩) 1 1, .slice la ll lc]).run Try.prog w = .ok v w' ∧ ((is = [] ∧ v = .slice (some ⟨B, 0, none⟩) 1 1) ∨ isAppN w.heap.size (x :: is) v w') ∧ Below w.heap.size w w' := by
 have hlt := lt_of_heap hB
 have own : ∀ w' : World, w'.heap[B]? = some (.cells #[.int .i64 x] 3 (0, 0)) → w'.ownsRow B 3 1 (.slice (some ⟨B, 0, none⟩) 1 1) 1 [.int .i64 x] := fun w' h => ⟨rfl, .inr ⟨B, 1, _, rfl, Nat.le_refl _, h, Nat.le_refl _, by decide, rfl, rfl⟩⟩
 cases is with
 | nil =>
  subst hl
  cases la with
  | none => exact ⟨_, w, run_append_noneC (P := Try.prog) B _ ty _ _ 1 Try.underlying23 gr_inf_3 _ 1 _ lc (own w hB), (.inl ⟨rfl, rfl⟩), Below.refl _ _⟩
  | some p =>
   obtain ⟨h1, h2⟩ := setRow_same hB
   refine ⟨_, _, (run_append_room (P := Try.prog) w _ ty _ _ Try.underlying23 gr_inf_3 B 1 1 #[.int .i64 x] hB p 0 lc [] rfl (fun j u hj => by simp at hj) (fun u hu => by cases hu) (by decide) (Nat.le_refl 1)), ?_, ?_⟩
   ·exact .inl ⟨rfl, rfl⟩
   ·exact h1
 | cons y t =>
  rcases hr with h | ⟨b, off, rfl, hc⟩
  ·cases h
  ·have hlen : ll = t.length + 1 := by rw [← hl]; rfl
   have hcells : ∀ (j : Nat) u, ((y :: t).map (Value.int .i64))[j]? = some u → w.cell? ((⟨b, off, none⟩ : Addr).add j) = some u := fun j u hj => by
    rw [List.getElem?_map] at hj
    obtain ⟨z, hz, rfl⟩ := Option.map_eq_some_iff.1 hj
    have := (hc j z hz).1
    rw [Nat.mul_one] at this
    rw [Addr.add_lit]; exact this
   have hrun := run_append_grow (P := Try.prog) w 23 ty 3 _ _ Try.underlying23 gr_inf_3 rfl ⟨B, 0, none⟩ 1 1 [.int .i64 x] rfl (fun j u hj => by
    rw [Addr.add_lit, Nat.zero_add]
    simp only [World.cell?, hB]
    simpa using hj) ⟨b, off, none⟩ ll lc ((y :: t).map (Value.int .i64)) (by show _ = ll * 1; rw [List.length_map, hl]; omega) hcells (by omega) (by omega) (growslice_fits (by omega) (by show (1 + ll) * 8 ≤ _; omega))
   obtain ⟨cap, hcap⟩ : ∃ c, c = grownCap w (1 + ll) 1 3 := ⟨_, rfl⟩
   have hge := grownCap_ge w (1 + ll) 1 3
   have hle := grownCap_le_maxLen w (1 + ll) 1 3 (by simp only [maxLen]; omega)
   rw [← hcap] at hrun hge hle
   refine ⟨_, _, hrun, .inr ⟨_, cap, by rw [show (x :: y :: t).length = 1 + ll by simp; omega], ?_⟩, (Below.refl _ _).drew.alloc (Nat.le_refl _) _⟩
   unfold gr_RowN
   rw [show (x :: y :: t).length = 1 + ll by simp; omega]
   refine ⟨by rw [List.length_map]; simp; omega, .inr ⟨w.heap.size, cap, _, rfl, Nat.le_refl _, heap_alloc_new w.drew _, hge, hle, ?_, ?_⟩⟩
   ·have hz : (Builtin.zeroCells (Value.int .i64 0).cells (cap - (1 + ll))).size = (cap - (1 + ll)) * 1 := size_zeroCells _ _
    simp only [Array.size_append, List.size_toArray, List.length_map, hl, List.length_cons, List.length_nil]
    have hz2 := hz
    show 0 + 1 + ll + (Builtin.zeroCells (Value.int .i64 0).cells (cap - (1 + ll))).size = _
    rw [hz2]; omega
   ·rw [Array.toList_append, Array.toList_append, List.append_assoc]
    show ([Value.int .i64 x] ++ ((y :: t).map (Value.int .i64) ++ _)).take ((1 + ll) * 1) = _
    rw [← List.append_assoc, List.take_append_of_le_length (by simp; omega), List.take_of_length_le (by simp; omega)]
    rfl
section
variable {n : Nat} {Q : Exit → Act → World → Prop} {l : Fr} {w0 W : World} {ops : Array Oper} {os : List Oper} {K : List (Nat × World)} {L : List Asr} {i : Nat}
variable {al : List Nat} {ca : Nat → Option Value → List Value} {ta : Nat → TypeId} {Os : Option Value → Own} {Gs : Option Value → Grows} {lo ef jy : Nat} {s : Sg}
variable {d : Nat} {ty : TypeId} {pos : String} {aft_ : Array Edge}
theorem sg_appLit {j0 tx tyy : Nat} {x : Int} {la : Option Addr} {ll lc : Nat} {is : List Int} (hal : al.contains i = false) (hie : Nat.beq i ef = false) (hij : earlyJ ops ef jy i = true) (hi : ops[i]? = some ⟨some d, .call { callee := .builtin .append, args := #[.tmp tx, .tmp tyy], argTypes := #[23, 23] }, ty, pos, aft_, none⟩) (hNo : NoAsr al ef L)
  (hw : waitsFor ops i j0 tx = true) (hja : al.contains j0 = false) (hje : Nat.beq j0 ef = false) (hLp : atI L j0 = isRow lo 1 3 [.int .i64 x]) (hq : OpG n ops l L i tyy (isV (.slice la ll lc))) (hr : ∀ ev w, St w0 (Os ev) (Gs ev) K w → RowI w la is) (hl : is.length = ll) (hm : ll ≤ 5000) (hI : atI L i = isAppN lo (x :: is)) : SG Try.prog n ops Q l w0 K lo al ef jy ca ta Os Gs L i :=
 sg_base (fun h => by rw [List.contains_iff_mem.2 h] at hal; cases hal) (fun e => by rw [e, Nat.beq_refl] at hie; cases hie) (earlyJ_of hij) hi hNo fun t0 a s w h0 hF hG he hD hD' => by
  have hA := (hD j0 tx hw).2.2.2 (fun h => by rw [List.contains_iff_mem.2 h] at hja; cases hja) (fun e => by rw [e, Nat.beq_refl] at hje; cases hje)
  rw [hLp] at hA
  obtain ⟨B, ex, hlo, hB⟩ := hA.here
  have ey : a.eval (.tmp tyy) = .slice la ll lc := hq t0 h0 a w hF hD'
  have hS : St w0 (Os s.ev) (Gs s.ev) K w := St.drops _ hG.1
  obtain ⟨v, w', h1, h2, h4⟩ := run_lit2 (ty := ty) (lc := lc) hB (hr s.ev w hS) hl hm
  refine wp_val hi rfl (v := v) (w' := w') (by
   unfold execOp
   simp only [resolve, invoke, builtin, Sem.run_bind, Sem.run_pure, Result.andThen_ok, List.map_toArray, List.map_cons, List.map_nil, ex, ey, h1]) ⟨v, rfl, ?_, h4⟩
  rw [hI]
  rcases h2 with ⟨e1, e2⟩ | h2
  ·subst e1; subst e2
   intro w2 hw2
   obtain ⟨B2, ex2, hlo2, hB2⟩ := hA w2 ((sameX_of h4).trans hw2 (fun b hb => .inl hb))
   rw [ex] at ex2
   cases ex2
   exact ⟨_, _, rfl, rfl, .inr ⟨B, 1, _, rfl, hlo2, hB2, Nat.le_refl _, by decide, rfl, rfl⟩⟩
  ·obtain ⟨a9, c9, rfl, h9⟩ := h2
   intro w2 hw2
   refine ⟨a9, c9, rfl, ?_⟩
   unfold gr_RowN at h9 ⊢
   refine ownsRow_base (ownsRow_same h9 (fun b hb => ?_)) hG.2.1
   rcases h9.2 with ⟨e1, _⟩ | ⟨g, cap, cur, e1, hg, hh, _⟩
   ·cases e1
   ·have e2 : a9 = some ⟨g, 0, none⟩ := by injection e1
    subst e2
    have e3 : g = b := Option.some.inj hb
    subst e3
    refine hw2.2.2 _ (Nat.le_trans hG.2.1 hg) (lt_of_heap hh) (fun hx => ?_)
    rcases hx with ⟨q, hq, e4⟩ | ⟨g2, hg2, hgb⟩
    ·have h5 := lt_of_heap (hG.1.own q hq).2
     rw [e4] at h5
     exact absurd h5 (Nat.not_lt_of_le hg)
    ·exact absurd (hG.1.glt hg2 hgb).2 (Nat.not_lt_of_le hg)
end
theorem of_moveS {P : Program} {p : Asr} {d td : Nat} {ty : TypeId} {pos : String} : ∀ (ev : Operand → Value) (w : World), p (ev (.tmp td)) w → ∃ v, (execOp ev ⟨some d, .move (.tmp td), ty, pos, #[], none⟩).run P w = .ok (.value v) w ∧ ∀ w', p (ev (.tmp td)) w' → p v w' := fun ev w h => ⟨ev (.tmp td), by unfold execOp; rfl, fun _ h => h⟩
theorem of_cf0S {P : Program} {d td : Nat} {ty : TypeId} {pos : String} {lo : Nat} {zs : List Int} : ∀ (ev : Operand → Value) (w : World), isCfT lo zs (ev (.tmp td)) w → ∃ v, (execOp ev ⟨some d, .extract (.tmp td) 0, ty, pos, #[], none⟩).run P w = .ok (.value v) w ∧ ∀ w', isCfT lo zs (ev (.tmp td)) w' → isCf0 lo zs v w' := fun ev w ⟨a, c, e, h⟩ => by
 refine ⟨.agg #[.int .i64 0, .slice a zs.length c], ?_, fun w' ⟨a2, c2, e2, h2⟩ => ?_⟩
 ·unfold execOp; simp only []; rw [e]; simp [Instr.extract]
 ·rw [e] at e2
  cases e2
  exact ⟨a, c, rfl, h2⟩
theorem of_cf1S {P : Program} {d td : Nat} {ty : TypeId} {pos : String} {lo : Nat} {zs : List Int} : ∀ (ev : Operand → Value) (w : World), isCfT lo zs (ev (.tmp td)) w → ∃ v, (execOp ev ⟨some d, .extract (.tmp td) 1, ty, pos, #[], none⟩).run P w = .ok (.value v) w ∧ ∀ w', isCfT lo zs (ev (.tmp td)) w' → isV (.int .i64 0) v w' := fun ev w ⟨a, c, e, h⟩ => by
 refine ⟨.int .i64 0, ?_, fun _ _ => rfl⟩
 unfold execOp; simp only []; rw [e]; simp [Instr.extract]
theorem confR_N {lo : Nat} {g : GV} {node : Int} {la : Option Addr} {ll lc : Nat} {is l : List Int} {w : World} (hg : GIn w g) (hf : GFew g) (hrla : RowI w la is) (hll : is.length = ll) (hlm : ll ≤ 5000) (hce : gr_checkE g = 0) (hn : gr_inQ node g.ol = true) (hb : backs g.ts g.tl is = some l) (hl : l.length ≤ 4000) (hlo : lo ≤ w.heap.size) :
  Calls Try.prog 8 #[g.val, .int .i64 node, .slice la ll lc] w (GivesN (isCfT lo (node :: l)) w) :=
 (confR_is g node la ll lc is w hg hf hrla hll hlm).mono fun e w2 h => by
  obtain ⟨a, c, he, hr, hb2⟩ := confRet_ok h (confE_ok hce hn hb hl)
  exact ⟨_, he, fun w3 hg3 => ⟨a, c, rfl, (hr.agree hg3).mono hlo⟩, hb2⟩
end Go.Proofs.Ythepjghlipdcoaa
namespace Go.Proofs.Ythepjghlipdcoaa
open Go Go.RowKit
theorem gr_bs_47_1 (v00 : Value) (v01 : Value) : Instr.fill (fun i => some (i * 2, 2)) ((Array.range (1 * 2)).map ((Value.cells (.agg #[.int .i64 0, .slice none 0 0]))[· % (Value.cells (.agg #[.int .i64 0, .slice none 0 0])).size]!)) [(0, .agg #[v00, v01])] = some (List.toArray [v00, v01]) := by kernel_rfl
theorem gr_goes_8 : goesIn Try.prog 8 = true := by kernel_rfl
theorem gr_goes_9 : goesIn Try.prog 9 = true := by kernel_rfl
theorem gr_inf_44 : Try.prog.info? 44 = some Try.t44 := by kernel_rfl
theorem encodeSteps_c (va : Option Addr) (vl : Nat) (vc : Nat) (pa : Option Addr) (pl : Nat) (pc : Nat) (ea : Option Addr) (el : Nat) (ec : Nat) (es : List Int) (xa : Option Addr) (xl : Nat) (xc : Nat) (xs : List Int) (mn : Int) (oa : Option Addr) (ol : Nat) (oc : Nat) (os : List Int) (sa : Option Addr) (sl : Nat) (sc : Nat) (ss : List TV) (ta : Option Addr) (tl : Nat) (tc : Nat) (ts : List UV) (na : Option Addr) (nl : Nat) (nc : Nat) (ns : List NV) (ka : Option Addr) (kl : Nat) (kc : Nat) (ks : List KV) (node : Int) (la : Option Addr) (ll lc : Nat) (is : List Int) (w : World) (he : RowI w ea es) (hel : es.length = el) (hx : RowI w xa xs) (hxl : xs.length = xl) (ho : RowI w oa os) (hol : os.length = ol) (hs : RowL TV.sev 7 w sa ss) (hsl : ss.length = sl) (ht : RowL UV.four 4 w ta ts) (htl : ts.length = tl) (hn : RowL NV.two 2 w na ns) (hnl : ns.length = nl) (hk : RowL KV.two 2 w ka ks) (hkl : ks.length = kl) (hrla : RowI w la is) (hll : is.length = ll) (hlc : ll ≤ lc) (hlm : ll ≤ 9223372036854775807) :
  Calls Try.prog 3 #[.agg #[.slice va vl vc, .slice pa pl pc, .slice ea el ec, .slice xa xl xc, .int .i64 mn, .slice oa ol oc, .slice sa sl sc, .slice ta tl tc, .slice na nl nc, .slice ka kl kc], .int .i64 node, .slice la ll lc] w (fun e w' => e = .returned (.bool (true)) ∧ Below w.heap.size w w') := by
 refine enterF (args := [.agg #[.slice va vl vc, .slice pa pl pc, .slice ea el ec, .slice xa xl xc, .int .i64 mn, .slice oa ol oc, .slice sa sl sc, .slice ta tl tc, .slice na nl nc, .slice ka kl kc], .int .i64 node, .slice la ll lc]) Try.func3 rfl Try.ntmps3 rfl ?_
 have hS := St.start w
 refine seqF (regF ?_)
 refine op_box (cs := [_, _, _, _, _, _, _, _, _, _]) hS rfl rfl rfl ?_
 clear hS; intro B1 W1 hS
 refine op_assign rfl rfl ?_
 refine endF (XF.thenN ?_)
 refine seqF ?_
 refine seqF (regF ?_)
 refine op_loadA (vs := [_, _, _, _, _, _, _, _, _, _]) Try.isAgg29 Try.sizeOf29 rfl (CellsAt.own (j := 0) (m := 10) (hS.at_ 0 rfl) rfl) rfl ?_
 refine op_call (vs := [_]) hS gr_goes_4 rfl (gr_small_is ⟨_, vl, vc, _, pl, pc, _, el, ec, es, _, xl, xc, xs, mn, _, ol, oc, os, _, sl, sc, ss, _, tl, tc, ts, _, nl, nc, ns, _, kl, kc, ks⟩ _) rfl ?_
 rintro e W2 ⟨rfl, hb⟩
 refine ⟨_, rfl, hb, fun hS' => ?_⟩
 clear hS; have hS := hS'; clear hS' hb
 refine op_not rfl rfl ?_
 refine op_move rfl rfl ?_
 refine op_cases (d := 25) rfl (fun hc => ?_) (fun hc => ?_)
 ·have hg25 := hc; clear hc
  refine op_notF (d := 25) rfl rfl rfl rfl ?_
  refine op_notF (d := 25) rfl rfl rfl rfl ?_
  refine op_notF (d := 25) rfl rfl rfl rfl ?_
  refine op_pickT rfl rfl rfl ?_
  refine endF (XF.thenN ?_)
  refine condT rfl ?_
  refine seqF (regF ?_)
  refine op_call (vs := []) hS gr_goes_5 rfl (alive_is _) rfl ?_
  rintro e W3 ⟨rfl, hb⟩
  refine ⟨_, rfl, hb, fun hS' => ?_⟩
  clear hS; have hS := hS'; clear hS' hb
  refine op_assign rfl rfl ?_
  refine endF (XF.thenN ?_)
  refine retF ?_
  refine XF.thenR ?_
  refine XF.res (res1 Try.results3 rfl) ?_
  exact ⟨rfl, hS.below⟩
 ·have hg25 := hc; clear hc
  have hsm : smallB ⟨va, vl, vc, pa, pl, pc, ea, el, ec, es, xa, xl, xc, xs, mn, oa, ol, oc, os, sa, sl, sc, ss, ta, tl, tc, ts, na, nl, nc, ns, ka, kl, kc, ks⟩ = true := by simpa using hg25
  have hfw := small_few hsm
  have b1 : vl ≤ 5000 := hfw.v
  have b2 : pl ≤ 5000 := hfw.p
  have b3 : el ≤ 5000 := hfw.e
  have b4 : xl ≤ 5000 := hfw.x
  have b5 : ol ≤ 5000 := hfw.o
  have b6 : sl ≤ 5000 := hfw.s
  have b7 : tl ≤ 5000 := hfw.t
  have b8 : nl ≤ 5000 := hfw.n
  have b9 : kl ≤ 5000 := hfw.k
  have hgi : GIn w ⟨va, vl, vc, pa, pl, pc, ea, el, ec, es, xa, xl, xc, xs, mn, oa, ol, oc, os, sa, sl, sc, ss, ta, tl, tc, ts, na, nl, nc, ns, ka, kl, kc, ks⟩ := ⟨he, hel, hx, hxl, ho, hol, hs, hsl, ht, htl, hn, hnl, hk, hkl⟩
  refine op_wantedF (d := 25) rfl rfl ?_
  refine op_move rfl rfl ?_
  refine op_wantedF (d := 25) rfl rfl ?_
  refine op_len Try.underlying23 rfl rfl ?_
  refine op_wantedF (d := 25) rfl rfl ?_
  refine op_gtr rfl rfl rfl ?_
  refine op_pickF rfl rfl rfl ?_
  refine endF (XF.thenN ?_)
  refine condF rfl (fun hc => ?_) (fun hc => ?_)
  ·have hc29 := of_decide_eq_true hc; clear hc
   refine seqF (regF ?_)
   refine op_call (vs := []) hS gr_goes_5 rfl (alive_is _) rfl ?_
   rintro e W4 ⟨rfl, hb⟩
   refine ⟨_, rfl, hb, fun hS' => ?_⟩
   clear hS; have hS := hS'; clear hS' hb
   refine op_assign rfl rfl ?_
   refine endF (XF.thenN ?_)
   refine retF ?_
   refine XF.thenR ?_
   refine XF.res (res1 Try.results3 rfl) ?_
   exact ⟨rfl, hS.below⟩
  ·have hc29 := of_decide_eq_false hc; clear hc
   have hl50 : ll ≤ 50 := by omega
   refine skipF ?_
   refine XF.thenN ?_
   refine seqF ?_
   rcases Decidable.em (gr_checkE ⟨va, vl, vc, pa, pl, pc, ea, el, ec, es, xa, xl, xc, xs, mn, oa, ol, oc, os, sa, sl, sc, ss, ta, tl, tc, ts, na, nl, nc, ns, ka, kl, kc, ks⟩ = 0) with hce | hce
   ·have hok : GOk ⟨va, vl, vc, pa, pl, pc, ea, el, ec, es, xa, xl, xc, xs, mn, oa, ol, oc, os, sa, sl, sc, ss, ta, tl, tc, ts, na, nl, nc, ns, ka, kl, kc, ks⟩ := gOk hel hxl htl hce
    have hco := hok.calls htl
    have hbin := backs_in (g := ⟨va, vl, vc, pa, pl, pc, ea, el, ec, es, xa, xl, xc, xs, mn, oa, ol, oc, os, sa, sl, sc, ss, ta, tl, tc, ts, na, nl, nc, ns, ka, kl, kc, ks⟩) htl hce
    refine regF ?_
    refine op_loadA (vs := [_, _, _, _, _, _, _, _, _, _]) Try.isAgg29 Try.sizeOf29 rfl (CellsAt.own (j := 0) (m := 10) (hS.at_ 0 rfl) rfl) rfl ?_
    refine op_call (vs := [_, _]) hS gr_goes_6 rfl ((pds_is ⟨_, vl, vc, _, pl, pc, _, el, ec, es, _, xl, xc, xs, mn, _, ol, oc, os, _, sl, sc, ss, _, tl, tc, ts, _, nl, nc, ns, _, kl, kc, ks⟩ _ (hgi.below hS.below) hfw hco).mono fun e w2 h => pdsRet_ok h hce) rfl ?_
    rintro e W5 ⟨ap, cp, qs, rfl, hrow, hqm, hqn, hb⟩
    refine ⟨_, rfl, hb, fun hS' => ?_⟩
    clear hS; have hS := hS'; clear hS'
    obtain ⟨lp, hlp⟩ : ∃ n, n = W2.heap.size := ⟨_, rfl⟩
    rw [← hlp] at hrow hqn
    have HP : Held w [(W2.heap.size, _)] (fun W2 => (W2.ownsRow lp 69 10 (.slice ap qs.length cp) qs.length (qs.flatMap QV.ten)) ∧ (∀ q ∈ qs, QN lp W2 q)) := Held.one (p := fun W2 => (W2.ownsRow lp 69 10 (.slice ap qs.length cp) qs.length (qs.flatMap QV.ten)) ∧ (∀ q ∈ qs, QN lp W2 q)) (fun W2 hg => by rw [← hlp] at hg; exact ⟨ownsRow_agree hrow hg, fun q hq => (hqn q hq).agree hg⟩)
    clear hb
    refine op_move rfl rfl ?_
    refine op_extract rfl rfl rfl ?_
    refine op_extract rfl rfl rfl ?_
    refine op_alloc (cs := [_, _, _, _, _, _]) hS Try.zeroValue38 rfl rfl ?_
    clear hS; intro B6 W6 hS
    refine op_storeA (i := 0) (vs := [_, _, _, _, _, _]) (cs' := [_, _, _, _, _, _]) (O' := [_, _]) hS Try.sizeOf38 rfl rfl rfl rfl rfl rfl rfl ?_
    clear hS; intro W7 hS
    refine op_assign rfl rfl ?_
    refine endF (XF.thenN ?_)
    refine seqF ?_
    rcases conf_cases ⟨va, vl, vc, pa, pl, pc, ea, el, ec, es, xa, xl, xc, xs, mn, oa, ol, oc, os, sa, sl, sc, ss, ta, tl, tc, ts, na, nl, nc, ns, ka, kl, kc, ks⟩ node is with ⟨c9, hc9, hcf⟩ | ⟨bs, hcf, _, hnd, hbk, hl9⟩
    ·skip
     refine regF ?_
     refine op_loadA (vs := [_, _, _, _, _, _, _, _, _, _]) Try.isAgg29 Try.sizeOf29 rfl (CellsAt.own (j := 0) (m := 10) (hS.at_ 1 rfl) rfl) rfl ?_
     refine op_move rfl rfl ?_
     refine op_move rfl rfl ?_
     refine op_call (vs := [_, _, _]) hS gr_goes_7 rfl ((conf_is ⟨_, vl, vc, _, pl, pc, _, el, ec, es, _, xl, xc, xs, mn, _, ol, oc, os, _, sl, sc, ss, _, tl, tc, ts, _, nl, nc, ns, _, kl, kc, ks⟩ node la ll lc is _ (hgi.below hS.below) hfw (hrla.below hS.below) hll (by omega)).mono fun e w2 h => confRet_no h hcf hc9) rfl ?_
     rintro e W8 ⟨rfl, hb⟩
     refine ⟨_, rfl, hb, fun hS' => ?_⟩
     clear hS; have hS := hS'; clear hS' hb
     refine op_move rfl rfl ?_
     refine op_extract rfl rfl rfl ?_
     refine op_extract rfl rfl rfl ?_
     refine op_alloc (cs := [_, _]) hS Try.zeroValue44 rfl rfl ?_
     clear hS; intro B9 W9 hS
     refine op_storeA (i := 0) (vs := [_, _]) (cs' := [_, _]) (O' := [_, _, _]) hS Try.sizeOf44 rfl rfl rfl rfl rfl rfl rfl ?_
     clear hS; intro W10 hS
     refine op_assign rfl rfl ?_
     refine endF (XF.thenN ?_)
     refine seqF ?_
     refine seqF (regF ?_)
     refine op_move rfl rfl ?_
     refine op_neq rfl rfl rfl ?_
     refine op_move rfl rfl ?_
     refine op_cases (d := 45) rfl (fun hc => absurd (of_decide_eq_true hc) (by exact fun h => h rfl)) (fun hc => ?_)
     have hc := of_decide_eq_false hc
     refine op_wantedF (d := 45) rfl rfl ?_
     refine op_move rfl rfl ?_
     refine op_wantedF (d := 45) rfl rfl ?_
     refine op_neq rfl rfl rfl ?_
     refine op_pickF rfl rfl rfl ?_
     refine endF (XF.thenN ?_)
     refine condF rfl (fun hc => ?_) (fun hc => absurd (of_decide_eq_false hc) (by exact fun h => h hc9))
     have hc := of_decide_eq_true hc
     refine seqF (regF ?_)
     refine op_call (vs := []) hS gr_goes_5 rfl (alive_is _) rfl ?_
     rintro e W11 ⟨rfl, hb⟩
     refine ⟨_, rfl, hb, fun hS' => ?_⟩
     clear hS; have hS := hS'; clear hS' hb
     refine op_assign rfl rfl ?_
     refine endF (XF.thenN ?_)
     refine retF ?_
     refine XF.thenR ?_
     refine XF.res (res1 Try.results3 rfl) ?_
     exact ⟨rfl, hS.below⟩
    ·have hbl : bs.length ≤ 4000 := by rw [backs_len hbk]; omega
     refine regF ?_
     refine op_loadA (vs := [_, _, _, _, _, _, _, _, _, _]) Try.isAgg29 Try.sizeOf29 rfl (CellsAt.own (j := 0) (m := 10) (hS.at_ 1 rfl) rfl) rfl ?_
     refine op_move rfl rfl ?_
     refine op_move rfl rfl ?_
     refine op_call (vs := [_, _, _]) hS gr_goes_7 rfl ((conf_is ⟨_, vl, vc, _, pl, pc, _, el, ec, es, _, xl, xc, xs, mn, _, ol, oc, os, _, sl, sc, ss, _, tl, tc, ts, _, nl, nc, ns, _, kl, kc, ks⟩ node la ll lc is _ (hgi.below hS.below) hfw (hrla.below hS.below) hll (by omega)).mono fun e w2 h => confRet_ok h hcf) rfl ?_
     rintro e W12 ⟨ac, cc, rfl, hcn, hb⟩
     refine ⟨_, rfl, hb, fun hS' => ?_⟩
     clear hS; have hS := hS'; clear hS'
     obtain ⟨lcf, hlcf⟩ : ∃ n, n = W7.heap.size := ⟨_, rfl⟩
     rw [← hlcf] at hcn
     have HC : Held w [(W7.heap.size, _)] (fun W2 => gr_RowN lcf W2 ac cc (node :: bs)) := Held.one (p := fun W2 => gr_RowN lcf W2 ac cc (node :: bs)) (fun W2 hg => by rw [← hlcf] at hg; exact hcn.agree hg)
     clear hb
     refine op_move rfl rfl ?_
     refine op_extract rfl rfl rfl ?_
     refine op_extract rfl rfl rfl ?_
     refine op_alloc (cs := [_, _]) hS Try.zeroValue44 rfl rfl ?_
     clear hS; intro B13 W13 hS
     refine op_storeA (i := 0) (vs := [_, _]) (cs' := [_, _]) (O' := [_, _, _]) hS Try.sizeOf44 rfl rfl rfl rfl rfl rfl rfl ?_
     clear hS; intro W14 hS
     refine op_assign rfl rfl ?_
     refine endF (XF.thenN ?_)
     refine seqF ?_
     refine seqF (regF ?_)
     refine op_move rfl rfl ?_
     refine op_neq rfl rfl rfl ?_
     refine op_move rfl rfl ?_
     refine op_cases (d := 45) rfl (fun hc => absurd (of_decide_eq_true hc) (by exact fun h => h rfl)) (fun hc => ?_)
     have hc := of_decide_eq_false hc
     refine op_wantedF (d := 45) rfl rfl ?_
     refine op_move rfl rfl ?_
     refine op_wantedF (d := 45) rfl rfl ?_
     refine op_neq rfl rfl rfl ?_
     refine op_pickF rfl rfl rfl ?_
     refine endF (XF.thenN ?_)
     refine condF rfl (fun hc => absurd (of_decide_eq_true hc) (by exact fun h => h rfl)) (fun hc => ?_)
     have hc := of_decide_eq_false hc
     refine skipF ?_
     refine XF.thenN ?_
     refine seqF ?_
     have hS := hS.newG 44 2
     refine regF ?_
     refine op_assign rfl rfl ?_
     refine endF (XF.thenN ?_)
     refine seqF ?_
     refine seqF (regF ?_)
     refine op_assign rfl rfl ?_
     refine endF (XF.thenN ?_)
     refine blockF ?_
     refine loopF (fun m l W => ∃ (i : Nat) (cs : List CV) (v : Value) (Kk : List (Nat × World)), i ≤ sl ∧ m = sl - i ∧ l = [(1, .int .i64 node), (2, .slice la ll lc), (3, .pointer (some ⟨B1, 0, none⟩)), (7, .pointer (some ⟨B6, 0, none⟩)), (9, .pointer (some ⟨B13, 0, none⟩)), (11, v), (12, .int .i64 (i : Int))] ∧ cs.length ≤ i ∧ cs.map CV.pl = wantS ⟨va, vl, vc, pa, pl, pc, ea, el, ec, es, xa, xl, xc, xs, mn, oa, ol, oc, os, sa, sl, sc, ss, ta, tl, tc, ts, na, nl, nc, ns, ka, kl, kc, ks⟩ node bs (ss.take i) ∧ Held w Kk (fun W2 => ((W2.ownsRow lp 69 10 (.slice ap qs.length cp) qs.length (qs.flatMap QV.ten)) ∧ (∀ q ∈ qs, QN lp W2 q) ∧ gr_RowN lcf W2 ac cc (node :: bs)) ∧ ∀ c ∈ cs, CHeld w.heap.size W2 c) ∧ St w [(B13, [.int .i64 0, .slice ac (node :: bs).length cc], 44), (B6, [.int .i64 1, .int .i64 0, .slice none 0 0, .int .i64 1, .int .i64 (ol : Int), .slice ap qs.length cp], 38), (B1, [.slice va vl vc, .slice pa pl pc, .slice ea el ec, .slice xa xl xc, .int .i64 mn, .slice oa ol oc, .slice sa sl sc, .slice ta tl tc, .slice na nl nc, .slice ka kl kc], 29)] [⟨v, cs.length, cs.flatMap two9, 44, 2⟩] Kk W) (sl - 0) ([(1, _), (2, _), (3, _), (7, _), (9, _), (11, _), (12, _)]) ⟨rfl, rfl, rfl, rfl, rfl, rfl, rfl, trivial⟩ (⟨0, [], _, _, Nat.zero_le _, rfl, rfl, Nat.le_refl _, rfl, (by exact (fun h2 hk => ⟨⟨(HP h2 (fun q hq => hk q (by simp at hq; simp [hq]))).1, (HP h2 (fun q hq => hk q (by simp at hq; simp [hq]))).2, HC h2 (fun q hq => hk q (by simp at hq; simp [hq]))⟩, fun c hc => by cases hc⟩)), hS⟩) ?_
     clear hS
     rintro m l W ⟨i, cs, v, Kk, hi, rfl, rfl, hcl, hcs, HH, hS⟩
     refine seqF ?_
     refine seqF (regF ?_)
     refine op_move rfl rfl ?_
     refine op_field (o' := 6) gr_fa_29_6 rfl rfl rfl ?_
     refine op_load Try.isAgg24 rfl (cell_own (hS.at_ 2 rfl) rfl) rfl ?_
     refine op_len Try.underlying24 rfl rfl ?_
     refine op_lss rfl rfl rfl ?_
     refine endF (XF.thenN ?_)
     refine condF rfl (fun hc => ?_) (fun hc => ?_)
     ·have hc54 := of_decide_eq_true hc; clear hc
      have hk1 : i < sl := by omega
      obtain ⟨b, off, s, rfl, hy, hyc⟩ := hs.get (i := i) (by omega)
      have k1 := CellsAt.agree hS.agree (Nat.zero_le _) hyc
      obtain ⟨hsf, hst⟩ := hok.step s (List.mem_of_getElem? hy)
      refine skipF ?_
      refine XF.thenN ?_
      refine seqF ?_
      refine blockF ?_
      refine seqF (regF ?_)
      refine op_field (o' := 6) gr_fa_29_6 rfl rfl rfl ?_
      refine op_load Try.isAgg24 rfl (cell_own (hS.at_ 2 rfl) rfl) rfl ?_
      refine op_move rfl rfl ?_
      refine op_indexA  Try.underlying24 Try.sizeOf50 rfl rfl rfl (by omega) rfl rfl ?_
      refine op_loadA (vs := [_, _, _, _, _, _, _]) Try.isAgg50 Try.sizeOf50 rfl (k1) rfl ?_
      refine op_alloc (cs := [_, _, _, _, _, _, _]) hS Try.zeroValue50 rfl rfl ?_
      clear hS; intro B15 W15 hS
      refine op_storeA (i := 0) (vs := [_, _, _, _, _, _, _]) (cs' := [_, _, _, _, _, _, _]) (O' := [_, _, _, _]) hS Try.sizeOf50 rfl rfl rfl rfl rfl rfl rfl ?_
      clear hS; intro W16 hS
      refine endF (XF.thenN ?_)
      refine seqF ?_
      refine seqF (regF ?_)
      refine op_field (o' := 0) gr_fa_50_0 rfl rfl rfl ?_
      refine op_load Try.isAgg3 rfl (cell_own (hS.at_ 0 rfl) rfl) rfl ?_
      refine op_move rfl rfl ?_
      refine op_neq rfl rfl rfl ?_
      refine endF (XF.thenN ?_)
      refine condF rfl (fun hc => ?_) (fun hc => ?_)
      ·have hc65 := of_decide_eq_true hc; clear hc
       have hfn : ¬ s.f = node := hc65
       refine exitF ?_
       refine XF.thenX ?_
       refine XF.blkX ?_
       refine XF.thenN ?_
       refine regF ?_
       refine op_move rfl rfl ?_
       refine op_add rfl rfl (IntWalk.i64_in _ (by omega)) rfl ?_
       refine op_assign rfl rfl ?_
       refine endF ?_
       exact XF.round (sl - (i + 1)) [(1, _), (2, _), (3, _), (7, _), (9, _), (11, _), (12, _)] (by omega) ⟨rfl, rfl, rfl, rfl, rfl, rfl, rfl, trivial⟩ ⟨i + 1, cs, _, _, by omega, rfl, rfl, by omega, by rw [wantS_take hy, if_neg hfn, List.append_nil]; exact hcs, HH.more (fun q hq => by simp [hq]), hS.tail⟩
      ·have hc65 := of_decide_eq_false hc; clear hc
       have hfn : s.f = node := Decidable.of_not_not hc65
       refine skipF ?_
       refine XF.thenN ?_
       refine seqF (regF ?_)
       refine op_loadA (vs := [_, _, _, _, _, _, _, _, _, _]) Try.isAgg29 Try.sizeOf29 rfl (CellsAt.own (j := 0) (m := 10) (hS.at_ 3 rfl) rfl) rfl ?_
       refine op_field (o' := 1) gr_fa_50_1 rfl rfl rfl ?_
       refine op_load Try.isAgg3 rfl (cell_own (hS.at_ 0 rfl) rfl) rfl ?_
       refine op_move rfl rfl ?_
       have hsz5 : w.heap.size ≤ W16.heap.size := hS.below.size
       refine op_call (vs := [_, _, _]) hS gr_goes_8 rfl ((confR_is ⟨_, vl, vc, _, pl, pc, _, el, ec, es, _, xl, xc, xs, mn, _, ol, oc, os, _, sl, sc, ss, _, tl, tc, ts, _, nl, nc, ns, _, kl, kc, ks⟩ s.t la ll lc is _ (hgi.below hS.below) hfw (hrla.below hS.below) hll (by omega)).mono fun e w2 h => confRet_ok h (confE_ok hce hst hbk hbl)) rfl ?_
       rintro e W17 ⟨a5, c5, rfl, hn5, hb⟩
       refine ⟨_, rfl, hb, fun hS' => ?_⟩
       clear hS; have hS := hS'; clear hS'
       have H5 : Held w [(W16.heap.size, _)] (fun W2 => gr_RowN W16.heap.size W2 a5 c5 (s.t :: bs)) := Held.one (p := fun W2 => gr_RowN W16.heap.size W2 a5 c5 (s.t :: bs)) (fun W2 hg => hn5.agree hg)
       clear hb
       refine op_move rfl rfl ?_
       refine op_extract rfl rfl rfl ?_
       refine op_extract rfl rfl rfl ?_
       refine op_alloc (cs := [_, _]) hS Try.zeroValue44 rfl rfl ?_
       clear hS; intro B18 W18 hS
       refine op_storeA (i := 0) (vs := [_, _]) (cs' := [_, _]) (O' := [_, _, _, _, _]) hS Try.sizeOf44 rfl rfl rfl rfl rfl rfl rfl ?_
       clear hS; intro W19 hS
       refine op_assign rfl rfl ?_
       refine endF (XF.thenN ?_)
       refine seqF ?_
       refine seqF (regF ?_)
       refine op_field (o' := 2) gr_fa_50_2 rfl rfl rfl ?_
       refine op_load Try.isAgg48 rfl (cell_own (hS.at_ 1 rfl) rfl) rfl ?_
       refine op_eql rfl rfl rfl ?_
       refine endF (XF.thenN ?_)
       refine condF rfl (fun hc => ?_) (fun hc => ?_)
       ·have hc76 := of_decide_eq_true hc; clear hc
        have h8 : s.k = 8 := hc76
        obtain ⟨n8, k8, u8, e8, hn8, hu8, hub, hk8, hke8, he8, hie8⟩ := hok.call s (List.mem_of_getElem? hy) h8
        have hu8 : ts[n8]? = some u8 := hu8
        have he8 : es[k8]? = some e8 := he8
        have hnt8 : n8 < ts.length := (List.getElem?_eq_some_iff.1 hu8).1
        have hnt9 : n8 < tl := by omega
        have hke9 : k8 < el := hke8
        obtain ⟨tb, to_, u9, rfl, hu9, huc9⟩ := ht.get (i := n8) (by omega)
        obtain rfl : u8 = u9 := Option.some.inj (hu8.symm.trans hu9)
        obtain ⟨eb, eo, e9, rfl, he9, hec9⟩ := he.get (i := k8) (by omega)
        obtain rfl : e8 = e9 := Option.some.inj (he8.symm.trans he9)
        have k2 := huc9.2.1
        have k3 := hec9.1
        have hb8 : backs ts tl (s.s :: is) = some (s.t :: bs) := by rw [hn8, ← hub]; exact backs_of hnt9 hu8 hbk
        have hsz7 : w.heap.size ≤ W19.heap.size := hS.below.size
        refine regSL (ef := 21) (jy := 19) (ca := caNo (fun _ => [])) (ta := fun _ => 0) (Os := osY _ 0 0 B18 ([.int .i64 0, .slice a5 (s.t :: bs).length c5]) 44) (Gs := gsNo _) (al := []) (k := 22) (ds := []) gr_followsM rfl hS rfl (by kernel_rfl) rfl (by decide) rfl rfl rfl rfl ?_
        refine bls_cons 1 rfl rfl (isV _) (fun hNo => sgV [(3, _)] rfl rfl rfl rfl hNo (w_free rfl) ⟨g_fr (by kernel_rfl) rfl, trivial⟩ (fun ev w he hw => rn_loadA (vs := [_, _, _, _, _, _, _, _, _, _]) Try.isAgg29 Try.sizeOf29 rfl ((CellsAt.own (j := 0) (m := 10) (hw.at_ 4 (osY_at (i := 4) (j := 0) rfl rfl)) rfl))) (at_top rfl)) ?_
        refine bls_cons 2 rfl rfl (isV _) (fun hNo => sgV [(3, _)] rfl rfl rfl rfl hNo (w_free rfl) ⟨g_fr (by kernel_rfl) rfl, trivial⟩ (fun ev w he hw => rn_field (o' := 2) gr_fa_29_2 rfl rfl) (at_top rfl)) ?_
        refine bls_cons 3 rfl rfl (isV _) (fun hNo => sgV [(79, _)] rfl rfl rfl rfl hNo (w_free rfl) ⟨g_dep 1 (by kernel_rfl) (at_dep rfl rfl rfl), trivial⟩ (fun ev w he hw => rn_load Try.isAgg23 rfl ((cell_own (hw.at_ 4 (osY_at (i := 4) (j := 0) rfl rfl)) rfl))) (at_top rfl)) ?_
        refine bls_cons 4 rfl rfl (isV _) (fun hNo => sgV [(3, _)] rfl rfl rfl rfl hNo (w_free rfl) ⟨g_fr (by kernel_rfl) rfl, trivial⟩ (fun ev w he hw => rn_field (o' := 7) gr_fa_29_7 rfl rfl) (at_top rfl)) ?_
        refine bls_cons 5 rfl rfl (isV _) (fun hNo => sgV [(81, _)] rfl rfl rfl rfl hNo (w_free rfl) ⟨g_dep 3 (by kernel_rfl) (at_dep rfl rfl rfl), trivial⟩ (fun ev w he hw => rn_load Try.isAgg25 rfl ((cell_own (hw.at_ 4 (osY_at (i := 4) (j := 0) rfl rfl)) rfl))) (at_top rfl)) ?_
        refine bls_cons 6 rfl rfl (isV _) (fun hNo => sgV [(13, _)] rfl rfl rfl rfl hNo (w_free rfl) ⟨g_fr (by kernel_rfl) rfl, trivial⟩ (fun ev w he hw => rn_field (o' := 6) gr_fa_50_6 rfl rfl) (at_top rfl)) ?_
        refine bls_cons 7 rfl rfl (isV _) (fun hNo => sgV [(83, _)] rfl rfl rfl rfl hNo (w_free rfl) ⟨g_dep 5 (by kernel_rfl) (at_dep rfl rfl rfl), trivial⟩ (fun ev w he hw => rn_load Try.isAgg3 rfl ((cell_own (hw.at_ 1 (osY_at (i := 1) (j := 0) rfl rfl)) rfl))) (at_top rfl)) ?_
        refine bls_cons 8 rfl rfl (isV _) (fun hNo => sgV [(82, _), (84, _)] rfl rfl rfl rfl hNo (w_free rfl) ⟨g_dep 4 (by kernel_rfl) (at_dep rfl rfl rfl), g_dep 6 (by kernel_rfl) (at_dep rfl rfl rfl), trivial⟩ (fun ev w he hw => rn_indexA (j := n8) Try.underlying25 Try.sizeOf54 rfl rfl (hn8) (hnt9) rfl) (at_top rfl)) ?_
        refine bls_cons 9 rfl rfl (isV _) (fun hNo => sgV [(85, _)] rfl rfl rfl rfl hNo (w_free rfl) ⟨g_dep 7 (by kernel_rfl) (at_dep rfl rfl rfl), trivial⟩ (fun ev w he hw => rn_field gr_fa_54_1 rfl rfl) (at_top rfl)) ?_
        refine bls_cons 10 rfl rfl (isV _) (fun hNo => sgV [(86, _)] rfl rfl rfl rfl hNo (w_free rfl) ⟨g_dep 8 (by kernel_rfl) (at_dep rfl rfl rfl), trivial⟩ (fun ev w he hw => rn_load Try.isAgg3 rfl (hw.agree.cell (Nat.zero_le _) (k2))) (at_top rfl)) ?_
        refine bls_cons 11 rfl rfl (isV _) (fun hNo => sgV [(80, _), (87, _)] rfl rfl rfl rfl hNo (w_free rfl) ⟨g_dep 2 (by kernel_rfl) (at_dep rfl rfl rfl), g_dep 9 (by kernel_rfl) (at_dep rfl rfl rfl), trivial⟩ (fun ev w he hw => rn_indexA (j := k8) Try.underlying23 Try.sizeOf3 rfl rfl (hk8) (hke9) rfl) (at_top rfl)) ?_
        refine bls_cons 12 rfl rfl (isV _) (fun hNo => sgV [(88, _)] rfl rfl rfl rfl hNo (w_free rfl) ⟨g_dep 10 (by kernel_rfl) (at_dep rfl rfl rfl), trivial⟩ (fun ev w he hw => rn_load Try.isAgg3 rfl (hw.agree.cell (Nat.zero_le _) (k3))) (at_top rfl)) ?_
        refine bls_cons 13 rfl rfl (isV _) (fun hNo => sgV [(13, _)] rfl rfl rfl rfl hNo (w_free rfl) ⟨g_fr (by kernel_rfl) rfl, trivial⟩ (fun ev w he hw => rn_field (o' := 6) gr_fa_50_6 rfl rfl) (at_top rfl)) ?_
        refine bls_cons 14 rfl rfl (isV _) (fun hNo => sgV [(90, _)] rfl rfl rfl rfl hNo (w_free rfl) ⟨g_dep 12 (by kernel_rfl) (at_dep rfl rfl rfl), trivial⟩ (fun ev w he hw => rn_load Try.isAgg3 rfl ((cell_own (hw.at_ 1 (osY_at (i := 1) (j := 0) rfl rfl)) rfl))) (at_top rfl)) ?_
        refine bls_cons 15 rfl rfl (isRow W19.heap.size 1 3 _) (fun hNo => sg_rowV (us := [.int .i64 _]) rfl rfl rfl rfl hNo (w_free rfl) Try.underlying23 Try.sizeOf3 Try.zeroValue3 rfl rfl ⟨p_tmp (g_dep 13 (by kernel_rfl) (at_dep rfl rfl rfl)), trivial⟩ (gr_bs_23_1 _) (at_top rfl)) ?_
        refine bls_cons 16 rfl rfl (isV _) (fun hNo => sgV [(2, _)] rfl rfl rfl rfl hNo (w_free rfl) ⟨g_fr (by kernel_rfl) rfl, trivial⟩ (fun ev w he hw => rn_move rfl) (at_top rfl)) ?_
        refine bls_cons 17 rfl rfl (isAppN W19.heap.size (s.s :: is)) (fun hNo => sg_appLit (j0 := 14) rfl rfl rfl rfl hNo (by kernel_rfl) rfl rfl (at_dep rfl rfl rfl) (g_dep 15 (by kernel_rfl) (at_dep rfl rfl rfl)) (fun ev w hw => hrla.below hw.below) hll (by omega) (at_top rfl)) ?_
        refine bls_cons 18 rfl rfl (isCfT W19.heap.size (e8 :: s.t :: bs)) (fun hNo => sg_call [isV _, isV _, isAppN W19.heap.size (s.s :: is)] rfl rfl rfl rfl hNo gr_goes_8 (w_free rfl) ⟨p_tmp (g_dep 0 (by kernel_rfl) (at_dep rfl rfl rfl)), p_tmp (g_dep 11 (by kernel_rfl) (at_dep rfl rfl rfl)), p_tmp (g_dep 16 (by kernel_rfl) (at_dep rfl rfl rfl)), trivial⟩ (fun vs ev w' he hSt hlo hh => by
         obtain ⟨v1, v2, v3, rfl, e1, e2, ⟨a6, c6, rfl, h6⟩⟩ := holds3 hh
         have e1 : v1 = _ := e1
         have e2 : v2 = _ := e2
         subst e1; subst e2
         exact confR_N (g := ⟨_, vl, vc, _, pl, pc, _, el, ec, es, _, xl, xc, xs, mn, _, ol, oc, os, _, sl, sc, ss, _, tl, tc, ts, _, nl, nc, ns, _, kl, kc, ks⟩) (hgi.below hSt.below) hfw h6.row rfl (by rw [List.length_cons]; omega) hce hie8 hb8 (by rw [List.length_cons, backs_len hbk]; omega) hlo) (at_top rfl)) ?_
        refine bls_cons 19 rfl rfl (isCfT W19.heap.size (e8 :: s.t :: bs)) (fun hNo => sg_of (j0 := 17) rfl rfl rfl rfl hNo (by kernel_rfl) rfl rfl (at_dep rfl rfl rfl) of_moveS (at_top rfl)) ?_
        refine bls_cons 20 rfl rfl (isCf0 W19.heap.size (e8 :: s.t :: bs)) (fun hNo => sg_of (j0 := 18) rfl rfl rfl rfl hNo (by kernel_rfl) rfl rfl (at_dep rfl rfl rfl) of_cf0S (at_top rfl)) ?_
        refine bls_cons 21 rfl rfl (isV (.int .i64 0)) (fun hNo => sg_of (j0 := 18) rfl rfl rfl rfl hNo (by kernel_rfl) rfl rfl (at_dep rfl rfl rfl) of_cf1S (at_top rfl)) ?_
        refine bls_any 22 rfl (eff_stP (py := isCf0 W19.heap.size (e8 :: s.t :: bs)) (m := 2) 0 0 [(14, _)] rfl rfl rfl rfl (by kernel_rfl) rfl rfl (fun j hj => by rcases hj with h | rfl <;> first | (cases h <;> rfl) | rfl) ⟨g_fr (by kernel_rfl) rfl, trivial⟩ rfl rfl Try.sizeOf44 (fun v w ⟨a, c, e, _⟩ => by subst e; exact ⟨[.int .i64 0, .slice a _ c], rfl, rfl, rfl⟩) rfl) ?_
        refine bls_nil ?_
        intro Bf20 y20 W20 Ks20 hsz20 hKs20 hS' hcov20
        clear hS; have hS := hS'.castO (O' := [_, _, _, _, _]) rfl; clear hS'
        refine castL (L' := [AwS _ _ (isV _), AwS _ _ (isV _), AwS _ _ (isV _), AwS _ _ (isV _), AwS _ _ (isV _), AwS _ _ (isV _), AwS _ _ (isV _), AwS _ _ (isV _), AwS _ _ (isV _), AwS _ _ (isV _), AwS _ _ (isV _), AwS _ _ (isV _), AwS _ _ (isV _), AwS _ _ (isV _), AwS _ _ (isRow W19.heap.size 1 3 _), AwS _ _ (isV _), AwS _ _ (isAppN W19.heap.size (s.s :: is)), AwS _ _ (isCfT W19.heap.size (e8 :: s.t :: bs)), AwS _ _ (isCfT W19.heap.size (e8 :: s.t :: bs)), (fun v w => v = _ ∧ AwS _ _ (isCf0 W19.heap.size (e8 :: s.t :: bs)) v w), AwS _ _ (isV (.int .i64 0)), isV _]) rfl ?_
        refine fin_sV ?_
        refine fin_sV ?_
        refine fin_sV ?_
        refine fin_sV ?_
        refine fin_sV ?_
        refine fin_sV ?_
        refine fin_sV ?_
        refine fin_sV ?_
        refine fin_sV ?_
        refine fin_sV ?_
        refine fin_sV ?_
        refine fin_sV ?_
        refine fin_sV ?_
        refine fin_sV ?_
        refine fin_p ?_; intro _ _
        refine fin_sV ?_
        refine fin_p ?_; intro _ _
        refine fin_p ?_; intro _ _
        refine fin_p ?_; intro _ _
        refine fin_p ?_; rintro _ ⟨rfl, hA20⟩
        obtain ⟨a7, c7, rfl, _⟩ := hA20.here
        have H7 : Held w Ks20 (fun W2 => gr_RowN _ W2 a7 c7 (e8 :: s.t :: bs)) := fun h2 hk => by
         obtain ⟨a3, c3, e3, h3⟩ := hA20 _ (hcov20 h2 hk)
         injection e3 with e3
         simp at e3
         obtain ⟨rfl, rfl⟩ := e3
         exact h3
        refine fin_sV ?_
        refine fin_0 ?_
        refine fin_nil ?_
        refine endF (XF.thenN ?_)
        refine regF ?_
        refine op_move rfl rfl ?_
        refine op_loadA (vs := [_, _]) Try.isAgg44 Try.sizeOf44 rfl (CellsAt.own (j := 0) (m := 2) (hS.at_ 0 rfl) rfl) rfl ?_
        refine op_buildSlice (us := [(0, .agg (List.toArray [_, _]))]) hS Try.underlying47 Try.sizeOf44 Try.zeroValue44 rfl rfl rfl (gr_bs_47_1 _ _) rfl ?_
        clear hS; intro B21 W21 hS
        refine op_append (i := 0) (news := [_, _]) hS Try.underlying47 gr_inf_44 rfl rfl (by show 0 < 2; decide) rfl rfl rfl rfl rfl (CellsAt.own (j := 0) (m := 2) (hS.at_ 0 rfl) rfl) rfl rfl (by dsimp only; simp only [maxLen]; omega) (by dsimp only; show (cs.length + 1) * 32 ≤ _; omega) rfl ?_
        clear hS; intro v22 W22 hS
        refine op_assign rfl rfl ?_
        refine endF ?_
        refine XF.blkN ?_
        refine XF.thenN ?_
        refine regF ?_
        refine op_move rfl rfl ?_
        refine op_add rfl rfl (IntWalk.i64_in _ (by omega)) rfl ?_
        refine op_assign rfl rfl ?_
        refine endF ?_
        exact XF.round (sl - (i + 1)) [(1, _), (2, _), (3, _), (7, _), (9, _), (11, _), (12, _)] (by omega) ⟨rfl, rfl, rfl, rfl, rfl, rfl, rfl, trivial⟩ ⟨i + 1, cs ++ [⟨0, a7, (e8 :: s.t :: bs).length, c7, (e8 :: s.t :: bs)⟩], _, _, by omega, rfl, rfl, by simp; omega, by rw [wantS_take hy, if_pos hfn, List.map_append, hcs, stepR_two h8 hn8 hu8 hk8 he8]; rfl, (fun h2 hk => ⟨(HH h2 (fun q hq => hk q (by simp [hq]))).1, fun c hc => by
          rcases List.mem_append.1 hc with hc | hc
          ·exact (HH h2 (fun q hq => hk q (by simp [hq]))).2 c hc
          ·rw [List.mem_singleton] at hc; subst hc
           exact ⟨(H7 h2 (fun q hq => hk q (by simp [hq]))).mono hsz7, rfl⟩⟩), hS.tail.tail.tail.castG (by simp [two9, gsNo])⟩
       ·have hc76 := of_decide_eq_false hc; clear hc
        have n8 : ¬ s.k = 8 := hc76
        refine skipF ?_
        refine XF.thenN ?_
        refine regF ?_
        refine op_move rfl rfl ?_
        refine op_loadA (vs := [_, _]) Try.isAgg44 Try.sizeOf44 rfl (CellsAt.own (j := 0) (m := 2) (hS.at_ 0 rfl) rfl) rfl ?_
        refine op_buildSlice (us := [(0, .agg (List.toArray [_, _]))]) hS Try.underlying47 Try.sizeOf44 Try.zeroValue44 rfl rfl rfl (gr_bs_47_1 _ _) rfl ?_
        clear hS; intro B23 W23 hS
        refine op_append (i := 0) (news := [_, _]) hS Try.underlying47 gr_inf_44 rfl rfl (by show 0 < 2; decide) rfl rfl rfl rfl rfl (CellsAt.own (j := 0) (m := 2) (hS.at_ 0 rfl) rfl) rfl rfl (by dsimp only; simp only [maxLen]; omega) (by dsimp only; show (cs.length + 1) * 32 ≤ _; omega) rfl ?_
        clear hS; intro v24 W24 hS
        refine op_assign rfl rfl ?_
        refine endF ?_
        refine XF.blkN ?_
        refine XF.thenN ?_
        refine regF ?_
        refine op_move rfl rfl ?_
        refine op_add rfl rfl (IntWalk.i64_in _ (by omega)) rfl ?_
        refine op_assign rfl rfl ?_
        refine endF ?_
        exact XF.round (sl - (i + 1)) [(1, _), (2, _), (3, _), (7, _), (9, _), (11, _), (12, _)] (by omega) ⟨rfl, rfl, rfl, rfl, rfl, rfl, rfl, trivial⟩ ⟨i + 1, cs ++ [⟨0, a5, (s.t :: bs).length, c5, s.t :: bs⟩], _, _, by omega, rfl, rfl, by simp; omega, by rw [wantS_take hy, if_pos hfn, List.map_append, hcs, stepR_one n8]; rfl, (fun h2 hk => ⟨(HH h2 (fun q hq => hk q (by simp [hq]))).1, fun c hc => by
          rcases List.mem_append.1 hc with hc | hc
          ·exact (HH h2 (fun q hq => hk q (by simp [hq]))).2 c hc
          ·rw [List.mem_singleton] at hc; subst hc
           exact ⟨(H5 h2 (fun q hq => hk q (by simp at hq; simp [hq]))).mono hsz5, rfl⟩⟩), hS.tail.tail.tail.castG (by simp [two9, gsNo])⟩
     ·have hc54 := of_decide_eq_false hc; clear hc
      rw [List.take_of_length_le (by omega)] at hcs
      have hcl2 : cs.length ≤ sl := by omega
      refine exitF ?_
      refine XF.thenX ?_
      refine XF.thenX ?_
      refine XF.blkX ?_
      refine XF.thenN ?_
      refine seqF ?_
      refine seqF (regF ?_)
      refine op_assign rfl rfl ?_
      refine endF (XF.thenN ?_)
      refine blockF ?_
      refine loopF (fun m l W => ∃ (i : Nat) (cs : List CV) (v : Value) (Kk : List (Nat × World)), i ≤ xl ∧ m = xl - i ∧ l = [(1, .int .i64 node), (2, .slice la ll lc), (3, .pointer (some ⟨B1, 0, none⟩)), (7, .pointer (some ⟨B6, 0, none⟩)), (9, .pointer (some ⟨B13, 0, none⟩)), (11, v), (16, .int .i64 (i : Int))] ∧ cs.length ≤ sl + i ∧ cs.map CV.pl = wantS ⟨va, vl, vc, pa, pl, pc, ea, el, ec, es, xa, xl, xc, xs, mn, oa, ol, oc, os, sa, sl, sc, ss, ta, tl, tc, ts, na, nl, nc, ns, ka, kl, kc, ks⟩ node bs ss ++ wantX node bs (xs.take i) ∧ Held w Kk (fun W2 => ((W2.ownsRow lp 69 10 (.slice ap qs.length cp) qs.length (qs.flatMap QV.ten)) ∧ (∀ q ∈ qs, QN lp W2 q) ∧ gr_RowN lcf W2 ac cc (node :: bs)) ∧ ∀ c ∈ cs, CHeld w.heap.size W2 c) ∧ St w [(B13, [.int .i64 0, .slice ac (node :: bs).length cc], 44), (B6, [.int .i64 1, .int .i64 0, .slice none 0 0, .int .i64 1, .int .i64 (ol : Int), .slice ap qs.length cp], 38), (B1, [.slice va vl vc, .slice pa pl pc, .slice ea el ec, .slice xa xl xc, .int .i64 mn, .slice oa ol oc, .slice sa sl sc, .slice ta tl tc, .slice na nl nc, .slice ka kl kc], 29)] [⟨v, cs.length, cs.flatMap two9, 44, 2⟩] Kk W) (xl - 0) ([(1, _), (2, _), (3, _), (7, _), (9, _), (11, _), (16, _)]) ⟨rfl, rfl, rfl, rfl, rfl, rfl, rfl, trivial⟩ (⟨0, cs, _, _, Nat.zero_le _, rfl, rfl, by omega, by rw [hcs]; exact (List.append_nil _).symm, HH, hS⟩) ?_
      clear hS
      rintro m l W ⟨i, cs, v, Kk, hi, rfl, rfl, hcl, hcs, HH, hS⟩
      refine seqF ?_
      refine seqF (regF ?_)
      refine op_move rfl rfl ?_
      refine op_field (o' := 3) gr_fa_29_3 rfl rfl rfl ?_
      refine op_load Try.isAgg23 rfl (cell_own (hS.at_ 2 rfl) rfl) rfl ?_
      refine op_len Try.underlying23 rfl rfl ?_
      refine op_lss rfl rfl rfl ?_
      refine endF (XF.thenN ?_)
      refine condF rfl (fun hc => ?_) (fun hc => ?_)
      ·have hc106 := of_decide_eq_true hc; clear hc
       have hk1 : i < xl := by omega
       obtain ⟨b, off, y, rfl, hy, hyc⟩ := hx.get (i := i) (by omega)
       have k1 := (CellsAt.agree hS.agree (Nat.zero_le _) hyc).1
       refine skipF ?_
       refine XF.thenN ?_
       refine seqF ?_
       refine blockF ?_
       refine seqF ?_
       refine seqF (regF ?_)
       refine op_field (o' := 3) gr_fa_29_3 rfl rfl rfl ?_
       refine op_load Try.isAgg23 rfl (cell_own (hS.at_ 2 rfl) rfl) rfl ?_
       refine op_move rfl rfl ?_
       refine op_indexA  Try.underlying23 Try.sizeOf3 rfl rfl rfl (by omega) rfl rfl ?_
       refine op_load Try.isAgg3 rfl (k1) rfl ?_
       refine op_move rfl rfl ?_
       refine op_neq rfl rfl rfl ?_
       refine endF (XF.thenN ?_)
       refine condF rfl (fun hc => ?_) (fun hc => ?_)
       ·have hc115 := of_decide_eq_true hc; clear hc
        have hyn : ¬ y = node := hc115
        refine exitF ?_
        refine XF.thenX ?_
        refine XF.blkX ?_
        refine XF.thenN ?_
        refine regF ?_
        refine op_move rfl rfl ?_
        refine op_add rfl rfl (IntWalk.i64_in _ (by omega)) rfl ?_
        refine op_assign rfl rfl ?_
        refine endF ?_
        exact XF.round (xl - (i + 1)) [(1, _), (2, _), (3, _), (7, _), (9, _), (11, _), (16, _)] (by omega) ⟨rfl, rfl, rfl, rfl, rfl, rfl, rfl, trivial⟩ ⟨i + 1, cs, _, _, by omega, rfl, rfl, by omega, by rw [wantX_take hy, if_neg hyn, List.append_nil]; exact hcs, HH.more (fun q hq => by simp [hq]), hS⟩
       ·have hc115 := of_decide_eq_false hc; clear hc
        have hyn : y = node := Decidable.of_not_not hc115
        refine skipF ?_
        refine XF.thenN ?_
        refine seqF (regF ?_)
        refine op_build (us := []) rfl (gr_bld_44) rfl ?_
        refine op_alloc (cs := [_, _]) hS Try.zeroValue44 rfl rfl ?_
        clear hS; intro B25 W25 hS
        refine op_storeA (i := 0) (vs := [_, _]) (cs' := [_, _]) (O' := [_, _, _, _]) hS Try.sizeOf44 rfl rfl rfl rfl rfl rfl rfl ?_
        clear hS; intro W26 hS
        refine endF (XF.thenN ?_)
        refine seqF ?_
        refine seqF (regF ?_)
        refine op_move rfl rfl ?_
        refine op_len Try.underlying23 rfl rfl ?_
        refine op_gtr rfl rfl rfl ?_
        refine endF (XF.thenN ?_)
        refine condF rfl (fun hc => ?_) (fun hc => ?_)
        ·have hc119 := of_decide_eq_true hc; clear hc
         obtain ⟨s0, r0, rfl⟩ : ∃ n r, is = n :: r := by
          cases is with
          | nil => exact absurd hll (by show ¬ 0 = ll; omega)
          | cons n r => exact ⟨n, r, rfl⟩
         rw [List.length_cons] at hll
         obtain ⟨k9, u9, l9, rfl, hk9, hu9, hb9, hbs⟩ := backs_cons htl hbk
         obtain ⟨lb, lo9, y0, rfl, hy0, hyc0⟩ := hrla.get (i := 0) (by simp)
         obtain rfl : (k9 : Int) = y0 := Option.some.inj hy0
         have k4 : w.cell? ⟨lb, lo9, none⟩ = some (.int .i64 (k9 : Int)) := hyc0.1
         obtain ⟨tb, to_, u, rfl, hu, huc⟩ := ht.get (i := k9) (by omega)
         obtain rfl : u9 = u := Option.some.inj (hu9.symm.trans hu)
         have k5 := huc.2.2.2.1
         have hl9b : l9.length ≤ 4000 := by have := congrArg List.length hbs; rw [List.length_cons] at this; omega
         have hsz8 : w.heap.size ≤ W26.heap.size := hS.below.size
         refine regSL (ef := 15) (jy := 13) (ca := caNo (fun _ => [])) (ta := fun _ => 0) (Os := osY _ 0 0 B25 ([.int .i64 0, .slice none 0 0]) 44) (Gs := gsNo _) (al := []) (k := 16) (ds := []) gr_followsM rfl hS rfl (by kernel_rfl) rfl (by decide) rfl rfl rfl rfl ?_
         refine bls_cons 1 rfl rfl (isV _) (fun hNo => sgV [(3, _)] rfl rfl rfl rfl hNo (w_free rfl) ⟨g_fr (by kernel_rfl) rfl, trivial⟩ (fun ev w he hw => rn_loadA (vs := [_, _, _, _, _, _, _, _, _, _]) Try.isAgg29 Try.sizeOf29 rfl ((CellsAt.own (j := 0) (m := 10) (hw.at_ 3 (osY_at (i := 3) (j := 0) rfl rfl)) rfl))) (at_top rfl)) ?_
         refine bls_cons 2 rfl rfl (isV _) (fun hNo => sgV [(3, _)] rfl rfl rfl rfl hNo (w_free rfl) ⟨g_fr (by kernel_rfl) rfl, trivial⟩ (fun ev w he hw => rn_field (o' := 7) gr_fa_29_7 rfl rfl) (at_top rfl)) ?_
         refine bls_cons 3 rfl rfl (isV _) (fun hNo => sgV [(122, _)] rfl rfl rfl rfl hNo (w_free rfl) ⟨g_dep 1 (by kernel_rfl) (at_dep rfl rfl rfl), trivial⟩ (fun ev w he hw => rn_load Try.isAgg25 rfl ((cell_own (hw.at_ 3 (osY_at (i := 3) (j := 0) rfl rfl)) rfl))) (at_top rfl)) ?_
         refine bls_cons 4 rfl rfl (isV _) (fun hNo => sgV [(2, _)] rfl rfl rfl rfl hNo (w_free rfl) ⟨g_fr (by kernel_rfl) rfl, trivial⟩ (fun ev w he hw => rn_move rfl) (at_top rfl)) ?_
         refine bls_cons 5 rfl rfl (isV _) (fun hNo => sgV [(124, _)] rfl rfl rfl rfl hNo (w_free rfl) ⟨g_dep 3 (by kernel_rfl) (at_dep rfl rfl rfl), trivial⟩ (fun ev w he hw => rn_indexA (j := 0) Try.underlying23 Try.sizeOf3 rfl rfl rfl (by omega) (Nat.add_zero _)) (at_top rfl)) ?_
         refine bls_cons 6 rfl rfl (isV _) (fun hNo => sgV [(125, _)] rfl rfl rfl rfl hNo (w_free rfl) ⟨g_dep 4 (by kernel_rfl) (at_dep rfl rfl rfl), trivial⟩ (fun ev w he hw => rn_load Try.isAgg3 rfl (hw.agree.cell (Nat.zero_le _) (k4))) (at_top rfl)) ?_
         refine bls_cons 7 rfl rfl (isV _) (fun hNo => sgV [(123, _), (126, _)] rfl rfl rfl rfl hNo (w_free rfl) ⟨g_dep 2 (by kernel_rfl) (at_dep rfl rfl rfl), g_dep 5 (by kernel_rfl) (at_dep rfl rfl rfl), trivial⟩ (fun ev w he hw => rn_indexA (j := k9) Try.underlying25 Try.sizeOf54 rfl rfl (rfl) (by omega) rfl) (at_top rfl)) ?_
         refine bls_cons 8 rfl rfl (isV _) (fun hNo => sgV [(127, _)] rfl rfl rfl rfl hNo (w_free rfl) ⟨g_dep 6 (by kernel_rfl) (at_dep rfl rfl rfl), trivial⟩ (fun ev w he hw => rn_field gr_fa_54_3 rfl rfl) (at_top rfl)) ?_
         refine bls_cons 9 rfl rfl (isV _) (fun hNo => sgV [(128, _)] rfl rfl rfl rfl hNo (w_free rfl) ⟨g_dep 7 (by kernel_rfl) (at_dep rfl rfl rfl), trivial⟩ (fun ev w he hw => rn_load Try.isAgg3 rfl (hw.agree.cell (Nat.zero_le _) (k5))) (at_top rfl)) ?_
         refine bls_cons 10 rfl rfl (isV _) (fun hNo => sgV [(2, _)] rfl rfl rfl rfl hNo (w_free rfl) ⟨g_fr (by kernel_rfl) rfl, trivial⟩ (fun ev w he hw => rn_move rfl) (at_top rfl)) ?_
         refine bls_cons 11 rfl rfl (isV _) (fun hNo => sgV [(130, _)] rfl rfl rfl rfl hNo (w_free rfl) ⟨g_dep 9 (by kernel_rfl) (at_dep rfl rfl rfl), trivial⟩ (fun ev w he hw => rn_sliceFrom (j := 1) Try.underlying23 Try.sizeOf3 rfl rfl rfl (by omega)) (at_top rfl)) ?_
         refine bls_cons 12 rfl rfl (isCfT W26.heap.size (u9.bk :: l9)) (fun hNo => sg_call [isV _, isV _, isV _] rfl rfl rfl rfl hNo gr_goes_8 (w_free rfl) ⟨p_tmp (g_dep 0 (by kernel_rfl) (at_dep rfl rfl rfl)), p_tmp (g_dep 8 (by kernel_rfl) (at_dep rfl rfl rfl)), p_tmp (g_dep 10 (by kernel_rfl) (at_dep rfl rfl rfl)), trivial⟩ (fun vs ev w' he hSt hlo hh => by
          have e := holds_isV (us := [_, _, _]) hh
          subst e
          exact confR_N (g := ⟨_, vl, vc, _, pl, pc, _, el, ec, es, _, xl, xc, xs, mn, _, ol, oc, os, _, sl, sc, ss, _, tl, tc, ts, _, nl, nc, ns, _, kl, kc, ks⟩) (hgi.below hSt.below) hfw ((hrla.tail1 (c := lc) (by rw [List.length_cons]; omega)).below hSt.below) (by omega) (by omega) hce (hbin u9 (List.mem_of_getElem? hu9)) hb9 hl9b hlo) (at_top rfl)) ?_
         refine bls_cons 13 rfl rfl (isCfT W26.heap.size (u9.bk :: l9)) (fun hNo => sg_of (j0 := 11) rfl rfl rfl rfl hNo (by kernel_rfl) rfl rfl (at_dep rfl rfl rfl) of_moveS (at_top rfl)) ?_
         refine bls_cons 14 rfl rfl (isCf0 W26.heap.size (u9.bk :: l9)) (fun hNo => sg_of (j0 := 12) rfl rfl rfl rfl hNo (by kernel_rfl) rfl rfl (at_dep rfl rfl rfl) of_cf0S (at_top rfl)) ?_
         refine bls_cons 15 rfl rfl (isV (.int .i64 0)) (fun hNo => sg_of (j0 := 12) rfl rfl rfl rfl hNo (by kernel_rfl) rfl rfl (at_dep rfl rfl rfl) of_cf1S (at_top rfl)) ?_
         refine bls_any 16 rfl (eff_stP (py := isCf0 W26.heap.size (u9.bk :: l9)) (m := 2) 0 0 [(17, _)] rfl rfl rfl rfl (by kernel_rfl) rfl rfl (fun j hj => by rcases hj with h | rfl <;> first | (cases h <;> rfl) | rfl) ⟨g_fr (by kernel_rfl) rfl, trivial⟩ rfl rfl Try.sizeOf44 (fun v w ⟨a, c, e, _⟩ => by subst e; exact ⟨[.int .i64 0, .slice a _ c], rfl, rfl, rfl⟩) rfl) ?_
         refine bls_nil ?_
         intro Bf27 y27 W27 Ks27 hsz27 hKs27 hS' hcov27
         clear hS; have hS := hS'.castO (O' := [_, _, _, _]) rfl; clear hS'
         refine castL (L' := [AwS _ _ (isV _), AwS _ _ (isV _), AwS _ _ (isV _), AwS _ _ (isV _), AwS _ _ (isV _), AwS _ _ (isV _), AwS _ _ (isV _), AwS _ _ (isV _), AwS _ _ (isV _), AwS _ _ (isV _), AwS _ _ (isV _), AwS _ _ (isCfT W26.heap.size (u9.bk :: l9)), AwS _ _ (isCfT W26.heap.size (u9.bk :: l9)), (fun v w => v = _ ∧ AwS _ _ (isCf0 W26.heap.size (u9.bk :: l9)) v w), AwS _ _ (isV (.int .i64 0)), isV _]) rfl ?_
         refine fin_sV ?_
         refine fin_sV ?_
         refine fin_sV ?_
         refine fin_sV ?_
         refine fin_sV ?_
         refine fin_sV ?_
         refine fin_sV ?_
         refine fin_sV ?_
         refine fin_sV ?_
         refine fin_sV ?_
         refine fin_sV ?_
         refine fin_p ?_; intro _ _
         refine fin_p ?_; intro _ _
         refine fin_p ?_; rintro _ ⟨rfl, hA27⟩
         obtain ⟨a8, c8, rfl, _⟩ := hA27.here
         have H8 : Held w Ks27 (fun W2 => gr_RowN _ W2 a8 c8 (u9.bk :: l9)) := fun h2 hk => by
          obtain ⟨a3, c3, e3, h3⟩ := hA27 _ (hcov27 h2 hk)
          injection e3 with e3
          simp at e3
          obtain ⟨rfl, rfl⟩ := e3
          exact h3
         refine fin_sV ?_
         refine fin_0 ?_
         refine fin_nil ?_
         refine endF (XF.thenN ?_)
         refine regF ?_
         refine op_move rfl rfl ?_
         refine op_loadA (vs := [_, _]) Try.isAgg44 Try.sizeOf44 rfl (CellsAt.own (j := 0) (m := 2) (hS.at_ 0 rfl) rfl) rfl ?_
         refine op_buildSlice (us := [(0, .agg (List.toArray [_, _]))]) hS Try.underlying47 Try.sizeOf44 Try.zeroValue44 rfl rfl rfl (gr_bs_47_1 _ _) rfl ?_
         clear hS; intro B28 W28 hS
         refine op_append (i := 0) (news := [_, _]) hS Try.underlying47 gr_inf_44 rfl rfl (by show 0 < 2; decide) rfl rfl rfl rfl rfl (CellsAt.own (j := 0) (m := 2) (hS.at_ 0 rfl) rfl) rfl rfl (by dsimp only; simp only [maxLen]; omega) (by dsimp only; show (cs.length + 1) * 32 ≤ _; omega) rfl ?_
         clear hS; intro v29 W29 hS
         refine op_assign rfl rfl ?_
         refine endF ?_
         refine XF.blkN ?_
         refine XF.thenN ?_
         refine regF ?_
         refine op_move rfl rfl ?_
         refine op_add rfl rfl (IntWalk.i64_in _ (by omega)) rfl ?_
         refine op_assign rfl rfl ?_
         refine endF ?_
         exact XF.round (xl - (i + 1)) [(1, _), (2, _), (3, _), (7, _), (9, _), (11, _), (16, _)] (by omega) ⟨rfl, rfl, rfl, rfl, rfl, rfl, rfl, trivial⟩ ⟨i + 1, cs ++ [⟨0, a8, (u9.bk :: l9).length, c8, (u9.bk :: l9)⟩], _, _, by omega, rfl, rfl, by simp; omega, by rw [wantX_take hy, if_pos hyn, List.map_append, hcs, List.append_assoc, hbs]; rfl, (fun h2 hk => ⟨(HH h2 (fun q hq => hk q (by simp [hq]))).1, fun c hc => by
           rcases List.mem_append.1 hc with hc | hc
           ·exact (HH h2 (fun q hq => hk q (by simp [hq]))).2 c hc
           ·rw [List.mem_singleton] at hc; subst hc
            exact ⟨(H8 h2 (fun q hq => hk q (by simp [hq]))).mono hsz8, rfl⟩⟩), hS.tail.tail.castG (by simp [two9, gsNo])⟩
        ·have hc119 := of_decide_eq_false hc; clear hc
         have hbs : bs = [] := List.eq_nil_of_length_eq_zero (by rw [backs_len hbk]; omega)
         refine skipF ?_
         refine XF.thenN ?_
         refine regF ?_
         refine op_move rfl rfl ?_
         refine op_loadA (vs := [_, _]) Try.isAgg44 Try.sizeOf44 rfl (CellsAt.own (j := 0) (m := 2) (hS.at_ 0 rfl) rfl) rfl ?_
         refine op_buildSlice (us := [(0, .agg (List.toArray [_, _]))]) hS Try.underlying47 Try.sizeOf44 Try.zeroValue44 rfl rfl rfl (gr_bs_47_1 _ _) rfl ?_
         clear hS; intro B30 W30 hS
         refine op_append (i := 0) (news := [_, _]) hS Try.underlying47 gr_inf_44 rfl rfl (by show 0 < 2; decide) rfl rfl rfl rfl rfl (CellsAt.own (j := 0) (m := 2) (hS.at_ 0 rfl) rfl) rfl rfl (by dsimp only; simp only [maxLen]; omega) (by dsimp only; show (cs.length + 1) * 32 ≤ _; omega) rfl ?_
         clear hS; intro v31 W31 hS
         refine op_assign rfl rfl ?_
         refine endF ?_
         refine XF.blkN ?_
         refine XF.thenN ?_
         refine regF ?_
         refine op_move rfl rfl ?_
         refine op_add rfl rfl (IntWalk.i64_in _ (by omega)) rfl ?_
         refine op_assign rfl rfl ?_
         refine endF ?_
         exact XF.round (xl - (i + 1)) [(1, _), (2, _), (3, _), (7, _), (9, _), (11, _), (16, _)] (by omega) ⟨rfl, rfl, rfl, rfl, rfl, rfl, rfl, trivial⟩ ⟨i + 1, cs ++ [⟨0, none, 0, 0, []⟩], _, _, by omega, rfl, rfl, by simp; omega, by rw [wantX_take hy, if_pos hyn, List.map_append, hcs, List.append_assoc, hbs]; rfl, (fun h2 hk => ⟨(HH h2 (fun q hq => hk q (by simp [hq]))).1, fun c hc => by
           rcases List.mem_append.1 hc with hc | hc
           ·exact (HH h2 (fun q hq => hk q (by simp [hq]))).2 c hc
           ·rw [List.mem_singleton] at hc; subst hc
            exact ⟨World.ownsRow_nil _ _ _ _, rfl⟩⟩), hS.tail.tail.castG (by simp [two9, gsNo])⟩
      ·have hc106 := of_decide_eq_false hc; clear hc
       rw [List.take_of_length_le (by omega)] at hcs
       obtain ⟨a7, c7, rfl, _⟩ := ownsRow_sl (v := v) (n := cs.length) (hS.row 0 rfl)
       obtain ⟨⟨hpr, hqn2, hcr⟩, _⟩ := HH.now hS
       have hb6 : sl ≤ 5000 := b6
       have hb4 : xl ≤ 5000 := b4
       refine exitF ?_
       refine XF.thenX ?_
       refine XF.thenX ?_
       refine XF.blkX ?_
       refine XF.thenN ?_
       refine seqF (regF ?_)
       refine op_loadA (vs := [_, _, _, _, _, _]) Try.isAgg38 Try.sizeOf38 rfl (CellsAt.own (j := 0) (m := 6) (hS.at_ 1 rfl) rfl) rfl ?_
       refine op_loadA (vs := [_, _]) Try.isAgg44 Try.sizeOf44 rfl (CellsAt.own (j := 0) (m := 2) (hS.at_ 0 rfl) rfl) rfl ?_
       have hsz6 : w.heap.size ≤ W.heap.size := hS.below.size
       refine op_call (vs := [_, _]) hS gr_goes_9 rfl (nextS_is (g := ⟨_, vl, vc, _, pl, pc, _, el, ec, es, _, xl, xc, xs, mn, _, ol, oc, os, _, sl, sc, ss, _, tl, tc, ts, _, nl, nc, ns, _, kl, kc, ks⟩) htl hel hxl hsl b6 b4 hce hnd hbk hbl hqm hpr hqn2 hcr) rfl ?_
       rintro e W32 ⟨v8, a9, c9, ds, rfl, hd9, hdm, hdh, hb⟩
       refine ⟨_, rfl, hb, fun hS' => ?_⟩
       clear hS; have hS := hS'; clear hS'
       have hdl : ds.length = cs.length := by
        have := congrArg List.length (hdm.trans hcs.symm)
        simpa using this
       have hdc : ds.map CV.pl = cs.map CV.pl := hdm.trans hcs.symm
       obtain ⟨ld, hld⟩ : ∃ n, n = W.heap.size := ⟨_, rfl⟩
       rw [← hld] at hd9 hdh
       have HD : Held w [(W.heap.size, _)] (fun W2 => W2.ownsRow ld 44 2 (.slice a9 ds.length c9) ds.length (ds.flatMap two9) ∧ ∀ d ∈ ds, CHeld ld W2 d) := Held.one (p := fun W2 => W2.ownsRow ld 44 2 (.slice a9 ds.length c9) ds.length (ds.flatMap two9) ∧ ∀ d ∈ ds, CHeld ld W2 d) (fun W2 hg => by rw [← hld] at hg; exact ⟨ownsRow_agree hd9 hg, fun d hd => ⟨gr_RowN.agree (hdh d hd).1 hg, (hdh d hd).2⟩⟩)
       clear hb
       refine op_move rfl rfl ?_
       refine op_extract rfl rfl rfl ?_
       refine op_extract rfl rfl rfl ?_
       refine op_extract rfl rfl rfl ?_
       refine op_assign rfl rfl ?_
       refine op_assign rfl rfl ?_
       refine op_assign rfl rfl ?_
       refine endF (XF.thenN ?_)
       refine seqF ?_
       refine seqF (regF ?_)
       refine op_move rfl rfl ?_
       refine op_neq rfl rfl rfl ?_
       refine op_move rfl rfl ?_
       refine op_cases (d := 148) rfl (fun hc => absurd (of_decide_eq_true hc) (by exact fun h => h rfl)) (fun hc => ?_)
       have hc := of_decide_eq_false hc
       refine op_wantedF (d := 148) rfl rfl ?_
       refine op_move rfl rfl ?_
       refine op_wantedF (d := 148) rfl rfl ?_
       refine op_len Try.underlying47 rfl rfl ?_
       refine op_wantedF (d := 148) rfl rfl ?_
       refine op_move rfl rfl ?_
       refine op_wantedF (d := 148) rfl rfl ?_
       refine op_len Try.underlying47 rfl rfl ?_
       refine op_wantedF (d := 148) rfl rfl ?_
       refine op_neq rfl rfl rfl ?_
       refine op_pickF rfl rfl rfl ?_
       refine endF (XF.thenN ?_)
       refine condF rfl (fun hc => absurd (of_decide_eq_true hc) (by exact fun h => h (by rw [hdl]))) (fun hc => ?_)
       have hc := of_decide_eq_false hc
       refine skipF ?_
       refine XF.thenN ?_
       refine seqF ?_
       refine seqF (regF ?_)
       refine op_assign rfl rfl ?_
       refine endF (XF.thenN ?_)
       refine blockF ?_
       refine loopF (fun m l W => ∃ (i : Nat) (Kk : List (Nat × World)), i ≤ ds.length ∧ m = ds.length - i ∧ l = [(3, .pointer (some ⟨B1, 0, none⟩)), (11, .slice a7 cs.length c7), (19, .slice a9 ds.length c9), (21, .int .i64 (i : Int))] ∧ Held w Kk (fun W2 => (W2.ownsRow ld 44 2 (.slice a9 ds.length c9) ds.length (ds.flatMap two9) ∧ ∀ d ∈ ds, CHeld ld W2 d) ∧ ∀ c ∈ cs, CHeld w.heap.size W2 c) ∧ St w [(B13, [.int .i64 0, .slice ac (node :: bs).length cc], 44), (B6, [.int .i64 1, .int .i64 0, .slice none 0 0, .int .i64 1, .int .i64 (ol : Int), .slice ap qs.length cp], 38), (B1, [.slice va vl vc, .slice pa pl pc, .slice ea el ec, .slice xa xl xc, .int .i64 mn, .slice oa ol oc, .slice sa sl sc, .slice ta tl tc, .slice na nl nc, .slice ka kl kc], 29)] [⟨.slice a7 cs.length c7, cs.length, cs.flatMap two9, 44, 2⟩] Kk W) (ds.length - 0) ([(3, _), (11, _), (19, _), (21, _)]) ⟨rfl, rfl, rfl, rfl, trivial⟩ (⟨0, _, Nat.zero_le _, rfl, rfl, (by exact (fun h2 hk => ⟨HD h2 (fun q hq => hk q (by simp at hq; simp [hq])), (HH h2 (fun q hq => hk q (by simp [hq]))).2⟩)), hS⟩) ?_
       clear hS
       rintro m l W ⟨i, Kk, hi, rfl, rfl, HE, hS⟩
       refine seqF ?_
       refine seqF (regF ?_)
       refine op_move rfl rfl ?_
       refine op_move rfl rfl ?_
       refine op_len Try.underlying47 rfl rfl ?_
       refine op_lss rfl rfl rfl ?_
       refine endF (XF.thenN ?_)
       refine condF rfl (fun hc => ?_) (fun hc => ?_)
       ·have hc158 := of_decide_eq_true hc; clear hc
        have hk1 : i < ds.length := by omega
        obtain ⟨dv, hdv⟩ : ∃ x, ds[i]? = some x := ⟨ds[i], by simp [hk1]⟩
        obtain ⟨cv, hcv⟩ : ∃ x, cs[i]? = some x := ⟨cs[i]'(by omega), by simp [show i < cs.length by omega]⟩
        have hpl : dv.pl = cv.pl := by
         have := congrArg (fun z => z[i]?) hdc
         simp only [List.getElem?_map, hdv, hcv, Option.map_some, Option.some.injEq] at this
         exact this
        obtain ⟨⟨he1, he2⟩, he3⟩ := HE.now hS
        obtain ⟨db, rfl, kd⟩ := cfs_cell he1 hdv
        obtain ⟨cb, rfl, kc⟩ := cfs_cell (hS.row 0 rfl) hcv
        have hd1 := he2 dv (List.mem_of_getElem? hdv)
        have hc1 := he3 cv (List.mem_of_getElem? hcv)
        refine skipF ?_
        refine XF.thenN ?_
        refine seqF ?_
        refine blockF ?_
        refine seqF ?_
        refine regB (m := 10) gr_followsM hS (by kernel_rfl) (by kernel_rfl) rfl ?_
        refine bl_cons 1 rfl (isV _) (stab_isV _) (rgV (li := [(19, _)]) rfl (w_free rfl) ⟨g_fr (by kernel_rfl) rfl, trivial⟩ (fun w hw => rn_move rfl) (at_top rfl)) ?_
        refine bl_cons 2 rfl (isV _) (stab_isV _) (rgV (li := [(21, _)]) rfl (w_free rfl) ⟨g_fr (by kernel_rfl) rfl, trivial⟩ (fun w hw => rn_move rfl) (at_top rfl)) ?_
        refine bl_cons 3 rfl (isV _) (stab_isV _) (rgV (li := [(161, _), (162, _)]) rfl (w_free rfl) ⟨g_dep 0 (by kernel_rfl) (at_dep rfl rfl rfl), g_dep 1 (by kernel_rfl) (at_dep rfl rfl rfl), trivial⟩ (fun w hw => rn_indexA  Try.underlying47 Try.sizeOf44 rfl rfl rfl (by omega) rfl) (at_top rfl)) ?_
        refine bl_cons 4 rfl (isV _) (stab_isV _) (rgV (li := [(163, _)]) rfl (w_free rfl) ⟨g_dep 2 (by kernel_rfl) (at_dep rfl rfl rfl), trivial⟩ (fun w hw => rn_loadA (vs := [_, _]) Try.isAgg44 Try.sizeOf44 rfl (CellsAt.agree (below_agree hw 0) (Nat.zero_le _) (kd))) (at_top rfl)) ?_
        refine bl_cons 5 rfl (isV _) (stab_isV _) (rgV (li := [(11, _)]) rfl (w_free rfl) ⟨g_fr (by kernel_rfl) rfl, trivial⟩ (fun w hw => rn_move rfl) (at_top rfl)) ?_
        refine bl_cons 6 rfl (isV _) (stab_isV _) (rgV (li := [(21, _)]) rfl (w_free rfl) ⟨g_fr (by kernel_rfl) rfl, trivial⟩ (fun w hw => rn_move rfl) (at_top rfl)) ?_
        refine bl_cons 7 rfl (isV _) (stab_isV _) (rgV (li := [(165, _), (166, _)]) rfl (w_free rfl) ⟨g_dep 4 (by kernel_rfl) (at_dep rfl rfl rfl), g_dep 5 (by kernel_rfl) (at_dep rfl rfl rfl), trivial⟩ (fun w hw => rn_indexA  Try.underlying47 Try.sizeOf44 rfl rfl rfl (by omega) rfl) (at_top rfl)) ?_
        refine bl_cons 8 rfl (isV _) (stab_isV _) (rgV (li := [(167, _)]) rfl (w_free rfl) ⟨g_dep 6 (by kernel_rfl) (at_dep rfl rfl rfl), trivial⟩ (fun w hw => rn_loadA (vs := [_, _]) Try.isAgg44 Try.sizeOf44 rfl (CellsAt.agree (below_agree hw 0) (Nat.zero_le _) (kc))) (at_top rfl)) ?_
        refine bl_cons 9 rfl (isV (.bool true)) (stab_isV _) (rg_call [isV _, isV _] rfl gr_goes_10 (w_free rfl) ⟨p_tmp (g_dep 3 (by kernel_rfl) (at_dep rfl rfl rfl)), p_tmp (g_dep 7 (by kernel_rfl) (at_dep rfl rfl rfl)), trivial⟩ (fun vs w' hb hh => by
         have e := holds_isV (us := [_, _]) hh
         subst e
         exact (sameCv (l1 := ld) (l2 := w.heap.size) (c := dv) (d := cv) ⟨gr_RowN.agree hd1.1 (below_agree hb _), hd1.2⟩ ⟨gr_RowN.agree hc1.1 (below_agree hb _), hc1.2⟩ hpl).mono fun e w2 h => ⟨_, h.1, rfl, h.2⟩) (at_top rfl)) ?_
        refine bl_cons 10 rfl (isV _) (stab_isV _) (rgV (li := [(169, _)]) rfl (w_free rfl) ⟨g_dep 8 (by kernel_rfl) (at_dep rfl rfl rfl), trivial⟩ (fun w hw => rn_not rfl) (at_top rfl)) ?_
        refine bl_nil ?_
        intro W33 hbR hS'
        clear hS; have hS := hS'; clear hS'
        refine fin_v ?_
        refine fin_v ?_
        refine fin_v ?_
        refine fin_v ?_
        refine fin_v ?_
        refine fin_v ?_
        refine fin_v ?_
        refine fin_v ?_
        refine fin_v ?_
        refine fin_v ?_
        refine fin_nil ?_
        refine XF.thenN ?_
        refine condN rfl ?_
        refine skipF ?_
        refine XF.blkN ?_
        refine XF.thenN ?_
        refine regF ?_
        refine op_move rfl rfl ?_
        refine op_add rfl rfl (IntWalk.i64_in _ (by omega)) rfl ?_
        refine op_assign rfl rfl ?_
        refine endF ?_
        exact XF.round (ds.length - (i + 1)) [(3, _), (11, _), (19, _), (21, _)] (by omega) ⟨rfl, rfl, rfl, rfl, trivial⟩ ⟨i + 1, _, by omega, rfl, rfl, HE.more (fun q hq => by simp [hq]), hS⟩
       ·have hc158 := of_decide_eq_false hc; clear hc
        refine exitF ?_
        refine XF.thenX ?_
        refine XF.thenX ?_
        refine XF.blkX ?_
        refine XF.thenN ?_
        refine seqF (regF ?_)
        refine op_call (vs := []) hS gr_goes_5 rfl (alive_is _) rfl ?_
        rintro e W34 ⟨rfl, hb⟩
        refine ⟨_, rfl, hb, fun hS' => ?_⟩
        clear hS; have hS := hS'; clear hS' hb
        refine op_assign rfl rfl ?_
        refine endF (XF.thenN ?_)
        refine retF ?_
        refine XF.res (res1 Try.results3 rfl) ?_
        exact ⟨rfl, hS.below⟩
   ·skip
    refine regF ?_
    refine op_loadA (vs := [_, _, _, _, _, _, _, _, _, _]) Try.isAgg29 Try.sizeOf29 rfl (CellsAt.own (j := 0) (m := 10) (hS.at_ 0 rfl) rfl) rfl ?_
    refine op_call (vs := [_, _]) hS gr_goes_6 rfl (pdsBad_c _ vl vc _ pl pc _ el ec es _ xl xc xs mn _ ol oc os _ sl sc ss _ tl tc ts _ nl nc ns _ kl kc ks _ (he.below hS.below) hel (hx.below hS.below) hxl (ho.below hS.below) hol (hs.below hS.below) hsl (ht.below hS.below) htl (hn.below hS.below) hnl (hk.below hS.below) hkl b1 b2 b3 b4 b5 b6 b7 b8 b9 hce) rfl ?_
    rintro e W35 ⟨rfl, hb⟩
    refine ⟨_, rfl, hb, fun hS' => ?_⟩
    clear hS; have hS := hS'; clear hS' hb
    refine op_move rfl rfl ?_
    refine op_extract rfl rfl rfl ?_
    refine op_extract rfl rfl rfl ?_
    refine op_alloc (cs := [_, _, _, _, _, _]) hS Try.zeroValue38 rfl rfl ?_
    clear hS; intro B36 W36 hS
    refine op_storeA (i := 0) (vs := [_, _, _, _, _, _]) (cs' := [_, _, _, _, _, _]) (O' := [_, _]) hS Try.sizeOf38 rfl rfl rfl rfl rfl rfl rfl ?_
    clear hS; intro W37 hS
    refine op_assign rfl rfl ?_
    refine endF (XF.thenN ?_)
    refine seqF (regF ?_)
    refine op_loadA (vs := [_, _, _, _, _, _, _, _, _, _]) Try.isAgg29 Try.sizeOf29 rfl (CellsAt.own (j := 0) (m := 10) (hS.at_ 1 rfl) rfl) rfl ?_
    refine op_move rfl rfl ?_
    refine op_move rfl rfl ?_
    refine op_call (vs := [_, _, _]) hS gr_goes_7 rfl ((conf_is ⟨_, vl, vc, _, pl, pc, _, el, ec, es, _, xl, xc, xs, mn, _, ol, oc, os, _, sl, sc, ss, _, tl, tc, ts, _, nl, nc, ns, _, kl, kc, ks⟩ node la ll lc is _ (hgi.below hS.below) hfw (hrla.below hS.below) hll (by omega)).mono fun e w2 h => confRet_any h) rfl ?_
    rintro e W38 ⟨a1, c1, rfl, hr1, hb⟩
    refine ⟨_, rfl, hb, fun hS' => ?_⟩
    clear hS; have hS := hS'; clear hS' hb
    refine op_move rfl rfl ?_
    refine op_extract rfl rfl rfl ?_
    refine op_extract rfl rfl rfl ?_
    refine op_alloc (cs := [_, _]) hS Try.zeroValue44 rfl rfl ?_
    clear hS; intro B39 W39 hS
    refine op_storeA (i := 0) (vs := [_, _]) (cs' := [_, _]) (O' := [_, _, _]) hS Try.sizeOf44 rfl rfl rfl rfl rfl rfl rfl ?_
    clear hS; intro W40 hS
    refine op_assign rfl rfl ?_
    refine endF (XF.thenN ?_)
    refine seqF ?_
    refine seqF (regF ?_)
    refine op_move rfl rfl ?_
    refine op_neq rfl rfl rfl ?_
    refine op_move rfl rfl ?_
    refine op_cases (d := 45) rfl (fun hc => ?_) (fun hc => absurd (of_decide_eq_false hc) (by exact fun h => h hce))
    have hc := of_decide_eq_true hc
    refine op_notF (d := 45) rfl rfl rfl rfl ?_
    refine op_notF (d := 45) rfl rfl rfl rfl ?_
    refine op_pickT rfl rfl rfl ?_
    refine endF (XF.thenN ?_)
    refine condT rfl ?_
    refine seqF (regF ?_)
    refine op_call (vs := []) hS gr_goes_5 rfl (alive_is _) rfl ?_
    rintro e W41 ⟨rfl, hb⟩
    refine ⟨_, rfl, hb, fun hS' => ?_⟩
    clear hS; have hS := hS'; clear hS' hb
    refine op_assign rfl rfl ?_
    refine endF (XF.thenN ?_)
    refine retF ?_
    refine XF.thenR ?_
    refine XF.res (res1 Try.results3 rfl) ?_
    exact ⟨rfl, hS.below⟩
theorem encodeSteps_walk (g : GV) (node : Int) (la : Option Addr) (ll lc : Nat) (is : List Int) (w : World) (hg : GIn w g) (hw : (Lit.int .i64 node).wf = true) (hl : RowI w la is ∧ is.length = ll ∧ ll ≤ lc ∧ ll ≤ 9223372036854775807) :
  Calls Try.prog 3 #[g.val, .int .i64 node, .slice la ll lc] w (fun e w' => e = .returned (.bool true) ∧ Below w.heap.size w w') :=
 encodeSteps_c g.va g.vl g.vc g.pa g.pl g.pc g.ea g.el g.ec g.es g.xa g.xl g.xc g.xs g.mn g.oa g.ol g.oc g.os g.sa g.sl g.sc g.ss g.ta g.tl g.tc g.ts g.na g.nl g.nc g.ns g.ka g.kl g.kc g.ks node la ll lc is w hg.e hg.el hg.x hg.xl hg.o hg.ol hg.s hg.sl hg.t hg.tl hg.n hg.nl hg.k hg.kl hl.1 hl.2.1 hl.2.2.1 hl.2.2.2
end Go.Proofs.Ythepjghlipdcoaa
