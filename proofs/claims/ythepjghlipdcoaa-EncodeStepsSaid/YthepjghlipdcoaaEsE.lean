import Derived.Orders
import Derived.Below
import Derived.Deep.RegionHeld
import Derived.WalkKit
import Derived.KernelRfl
import Derived.Laws.Rows
import Derived.Laws.AppendOwn
import Derived.Laws.Strings
import Derived.Laws.Small
import Derived.Lib.Hide
import Derived.IntWalk
import Derived.Laws.Tables
import Derived.Laws.Concat
import Derived.Laws.MakeOwn
import Derived.Lib.OwnBridge
import Derived.Laws.IdiomStrings
import Derived.Lib.ItoaLen
import Derived.Lib.UnsafeStr
import Derived.Lib.AppendIntMem
import Derived.Test.YthepjghlipdcoaaRows
import Derived.RangeFuncNested
import Derived.RangeFuncBound
import Derived.RangeFuncCalls
import Derived.RangeFuncLeaves
import Derived.OwnWalkIn
import Derived.TacticsInMore
import Derived.LoopNIn
import Derived.Shelf.Abstract
import Derived.Lib.SmallJoins
import Derived.Deep.Slices
import Derived.Deep.Fields
import Derived.ChangeSlices
import Derived.ChangeSame
import Derived.ProofKit
import Derived.Test.YthepjghlipdcoaaProg
import Derived.Lib.TrailingZeros
import Derived.Lib.LaidTab
import Derived.Lib.ItoaNum
import Derived.Stop.LaidErr
import Derived.WalkSmall
import Derived.LaidMore
import Derived.Shelf.Spec.TrailingZeros
import Derived.Laws.BitsAllLaws
import Derived.Laws.Bits64
import Derived.Deep.QuietTactic
import Derived.BigQuiet
import Derived.RegionTactic
import Derived.BigRegion
import Derived.Deep.RegionHeld3
import Derived.ChangeAlike
import Derived.Laws.Bits128
import Derived.Deep.AppendLies
import Derived.Sort.Grow
import Derived.Shelf.RegionOpen
import Derived.LoopIn
import Derived.Maps.AppendAt
import Derived.Shelf.Lay
import Derived.Shelf.LaySoft
import Derived.Lib.OthersKept
import Derived.StillTailTactics
import Derived.Deep.RegionLaw
import Derived.Deep.DeepCutAuto
import Derived.Deep.CutRange
import Derived.Deep.RegionWith
import Derived.Laws.Bits64b
import Derived.Deep.DrawnRows
import Derived.Laws.OwnMore
import Derived.OwnWalk
import Derived.WalkSpells
import Derived.Lib.SliceRun
import Derived.Lib.Join
import Derived.Test.YthepjghlipdcoaaEsA
import Derived.Test.YthepjghlipdcoaaEsB
import Derived.Test.YthepjghlipdcoaaEsC
import Derived.Test.YthepjghlipdcoaaEsD
set_option maxRecDepth 100000
set_option maxHeartbeats 4000000
set_option linter.unusedVariables false
set_option linter.unusedVariables false
set_option linter.unusedSimpArgs false
set_option linter.unusedSectionVars false
set_option linter.unnecessarySimpa false
namespace Go.Proofs.Ythepjghlipdcoaa
open Go Go.RowKit
theorem gr_goes_29 : goesIn Try.prog 29 = true := by kernel_rfl
theorem in_is (x : Int) (n : Nat) (w : World) :
  Calls Try.prog 29 #[.int .i64 x, .int .i64 (n : Int)] w (fun e w' => e = .returned (.bool (gr_inQ x n)) ∧ Below w.heap.size w w') := by
 refine enterF (args := [.int .i64 x, .int .i64 (n : Int)]) Try.func29 rfl Try.ntmps29 rfl ?_
 have hS := St.start w
 refine seqF (regF ?_)
 refine op_assign rfl rfl ?_
 refine endF (XF.thenN ?_)
 refine seqF (regF ?_)
 refine op_move rfl rfl ?_
 refine op_geq rfl rfl rfl ?_
 refine op_move rfl rfl ?_
 refine op_cases (d := 7) rfl (fun hc => ?_) (fun hc => ?_)
 ·have hg7 := of_decide_eq_true hc; clear hc
  refine op_wantedF (d := 7) rfl rfl ?_
  refine op_move rfl rfl ?_
  refine op_wantedF (d := 7) rfl rfl ?_
  refine op_move rfl rfl ?_
  refine op_wantedF (d := 7) rfl rfl ?_
  refine op_lss rfl rfl rfl ?_
  refine op_pickT rfl rfl rfl ?_
  refine op_assign rfl rfl ?_
  refine endF (XF.thenN ?_)
  refine retF ?_
  refine XF.res (res1 Try.results29 rfl) ?_
  exact ⟨gr_rbool (by simp [gr_inQ, show 0 ≤ x from hg7]), hS.below⟩
 ·have hg7 := of_decide_eq_false hc; clear hc
  refine op_notF (d := 7) rfl rfl rfl rfl ?_
  refine op_notF (d := 7) rfl rfl rfl rfl ?_
  refine op_notF (d := 7) rfl rfl rfl rfl ?_
  refine op_pickF rfl rfl rfl ?_
  refine op_assign rfl rfl ?_
  refine endF (XF.thenN ?_)
  refine retF ?_
  refine XF.res (res1 Try.results29 rfl) ?_
  exact ⟨gr_rbool (by simp [gr_inQ]; omega), hS.below⟩
theorem headsR_c (va : Option Addr) (vl : Nat) (vc : Nat) (pa : Option Addr) (pl : Nat) (pc : Nat) (ea : Option Addr) (el : Nat) (ec : Nat) (es : List Int) (xa : Option Addr) (xl : Nat) (xc : Nat) (xs : List Int) (mn : Int) (oa : Option Addr) (ol : Nat) (oc : Nat) (os : List Int) (sa : Option Addr) (sl : Nat) (sc : Nat) (ss : List TV) (ta : Option Addr) (tl : Nat) (tc : Nat) (ts : List UV) (na : Option Addr) (nl : Nat) (nc : Nat) (ns : List NV) (ka : Option Addr) (kl : Nat) (kc : Nat) (ks : List KV) (w : World) (he : RowI w ea es) (hel : es.length = el) (hx : RowI w xa xs) (hxl : xs.length = xl) (ho : RowI w oa os) (hol : os.length = ol) (hs : RowL TV.sev 7 w sa ss) (hsl : ss.length = sl) (ht : RowL UV.four 4 w ta ts) (htl : ts.length = tl) (hn : RowL NV.two 2 w na ns) (hnl : ns.length = nl) (hk : RowL KV.two 2 w ka ks) (hkl : ks.length = kl) (b1 : vl ≤ 5000) (b2 : pl ≤ 5000) (b3 : el ≤ 5000) (b4 : xl ≤ 5000) (b5 : ol ≤ 5000) (b6 : sl ≤ 5000) (b7 : tl ≤ 5000) (b8 : nl ≤ 5000) (b9 : kl ≤ 5000) :
  Calls Try.prog 27 #[.agg #[.slice va vl vc, .slice pa pl pc, .slice ea el ec, .slice xa xl xc, .int .i64 mn, .slice oa ol oc, .slice sa sl sc, .slice ta tl tc, .slice na nl nc, .slice ka kl kc]] w (fun e w' => e = .returned (.bool (headsB ⟨va, vl, vc, pa, pl, pc, ea, el, ec, es, xa, xl, xc, xs, mn, oa, ol, oc, os, sa, sl, sc, ss, ta, tl, tc, ts, na, nl, nc, ns, ka, kl, kc, ks⟩)) ∧ Below w.heap.size w w') := by
 refine enterF (args := [.agg #[.slice va vl vc, .slice pa pl pc, .slice ea el ec, .slice xa xl xc, .int .i64 mn, .slice oa ol oc, .slice sa sl sc, .slice ta tl tc, .slice na nl nc, .slice ka kl kc]]) Try.func27 rfl Try.ntmps27 rfl ?_
 have hS := St.start w
 refine seqF (regF ?_)
 refine op_box (cs := [_, _, _, _, _, _, _, _, _, _]) hS rfl rfl rfl ?_
 clear hS; intro B1 W1 hS
 refine op_assign rfl rfl ?_
 refine endF (XF.thenN ?_)
 refine seqF ?_
 refine regB (m := 8) gr_followsM hS (by kernel_rfl) (by kernel_rfl) rfl ?_
 refine bl_cons 1 rfl (isV _) (stab_isV _) (rgV (li := [(1, _)]) rfl (w_free rfl) ⟨g_fr (by kernel_rfl) rfl, trivial⟩ (fun w hw => rn_field (o' := 1) gr_fa_29_1 rfl rfl) (at_top rfl)) ?_
 refine bl_cons 2 rfl (isV _) (stab_isV _) (rgV (li := [(8, _)]) rfl (w_free rfl) ⟨g_dep 0 (by kernel_rfl) (at_dep rfl rfl rfl), trivial⟩ (fun w hw => rn_load Try.isAgg22 rfl ((below_agree hw 0).cell (Nat.zero_le _) (cell_own (hS.at_ 0 rfl) rfl))) (at_top rfl)) ?_
 refine bl_cons 3 rfl (isV _) (stab_isV _) (rgV (li := [(9, _)]) rfl (w_free rfl) ⟨g_dep 1 (by kernel_rfl) (at_dep rfl rfl rfl), trivial⟩ (fun w hw => rn_len Try.underlying22 rfl) (at_top rfl)) ?_
 refine bl_cons 4 rfl (isV _) (stab_isV _) (rgV (li := [(1, _)]) rfl (w_free rfl) ⟨g_fr (by kernel_rfl) rfl, trivial⟩ (fun w hw => rn_field (o' := 5) gr_fa_29_5 rfl rfl) (at_top rfl)) ?_
 refine bl_cons 5 rfl (isV _) (stab_isV _) (rgV (li := [(11, _)]) rfl (w_free rfl) ⟨g_dep 3 (by kernel_rfl) (at_dep rfl rfl rfl), trivial⟩ (fun w hw => rn_load Try.isAgg23 rfl ((below_agree hw 0).cell (Nat.zero_le _) (cell_own (hS.at_ 0 rfl) rfl))) (at_top rfl)) ?_
 refine bl_cons 6 rfl (isV _) (stab_isV _) (rgV (li := [(12, _)]) rfl (w_free rfl) ⟨g_dep 4 (by kernel_rfl) (at_dep rfl rfl rfl), trivial⟩ (fun w hw => rn_len Try.underlying23 rfl) (at_top rfl)) ?_
 refine bl_cons 7 rfl (isV _) (stab_isV _) (rgV (li := [(10, _)]) rfl (w_free rfl) ⟨g_dep 2 (by kernel_rfl) (at_dep rfl rfl rfl), trivial⟩ (fun w hw => rn_assign rfl) (at_top rfl)) ?_
 refine bl_cons 8 rfl (isV _) (stab_isV _) (rgV (li := [(13, _)]) rfl (w_free rfl) ⟨g_dep 5 (by kernel_rfl) (at_dep rfl rfl rfl), trivial⟩ (fun w hw => rn_assign rfl) (at_top rfl)) ?_
 refine bl_nil ?_
 intro W2 hbR hS'
 clear hS; have hS := hS'; clear hS'
 refine fin_v ?_
 refine fin_v ?_
 refine fin_v ?_
 refine fin_v ?_
 refine fin_v ?_
 refine fin_v ?_
 refine fin_v ?_
 refine fin_v ?_
 refine fin_nil ?_
 refine XF.thenN ?_
 refine seqF ?_
 refine seqF (regF ?_)
 refine op_field (o' := 0) gr_fa_29_0 rfl rfl rfl ?_
 refine op_load Try.isAgg22 rfl (cell_own (hS.at_ 0 rfl) rfl) rfl ?_
 refine op_len Try.underlying22 rfl rfl ?_
 refine op_gtr rfl rfl rfl ?_
 refine op_move rfl rfl ?_
 refine op_cases (d := 18) rfl (fun hc => ?_) (fun hc => ?_)
 ·have hg18 := of_decide_eq_true hc; clear hc
  refine op_notF (d := 18) rfl rfl rfl rfl ?_
  refine op_notF (d := 18) rfl rfl rfl rfl ?_
  refine op_pickT rfl rfl rfl ?_
  refine op_move rfl rfl ?_
  refine op_notF (d := 22) rfl rfl rfl rfl ?_
  refine op_notF (d := 22) rfl rfl rfl rfl ?_
  refine op_pickT rfl rfl rfl ?_
  refine op_move rfl rfl ?_
  refine op_notF (d := 26) rfl rfl rfl rfl ?_
  refine op_notF (d := 26) rfl rfl rfl rfl ?_
  refine op_notF (d := 26) rfl rfl rfl rfl ?_
  refine op_notF (d := 26) rfl rfl rfl rfl ?_
  refine op_notF (d := 26) rfl rfl rfl rfl ?_
  refine op_pickT rfl rfl rfl ?_
  refine op_move rfl rfl ?_
  refine op_notF (d := 33) rfl rfl rfl rfl ?_
  refine op_notF (d := 33) rfl rfl rfl rfl ?_
  refine op_notF (d := 33) rfl rfl rfl rfl ?_
  refine op_notF (d := 33) rfl rfl rfl rfl ?_
  refine op_notF (d := 33) rfl rfl rfl rfl ?_
  refine op_pickT rfl rfl rfl ?_
  refine op_move rfl rfl ?_
  refine op_notF (d := 40) rfl rfl rfl rfl ?_
  refine op_notF (d := 40) rfl rfl rfl rfl ?_
  refine op_pickT rfl rfl rfl ?_
  refine op_move rfl rfl ?_
  refine op_notF (d := 44) rfl rfl rfl rfl ?_
  refine op_notF (d := 44) rfl rfl rfl rfl ?_
  refine op_notF (d := 44) rfl rfl rfl rfl ?_
  refine op_notF (d := 44) rfl rfl rfl rfl ?_
  refine op_notF (d := 44) rfl rfl rfl rfl ?_
  refine op_pickT rfl rfl rfl ?_
  refine op_move rfl rfl ?_
  refine op_notF (d := 51) rfl rfl rfl rfl ?_
  refine op_notF (d := 51) rfl rfl rfl rfl ?_
  refine op_notF (d := 51) rfl rfl rfl rfl ?_
  refine op_notF (d := 51) rfl rfl rfl rfl ?_
  refine op_pickT rfl rfl rfl ?_
  refine endF (XF.thenN ?_)
  refine condT rfl ?_
  refine seqF (regF ?_)
  refine op_assign rfl rfl ?_
  refine endF (XF.thenN ?_)
  refine retF ?_
  refine XF.thenR ?_
  refine XF.res (res1 Try.results27 rfl) ?_
  exact ⟨gr_rbool (by unfold headsB; dsimp only; rw [if_pos (by omega)]), hS.below⟩
 ·have hg18 := of_decide_eq_false hc; clear hc
  refine op_wantedF (d := 18) rfl rfl ?_
  refine op_move rfl rfl ?_
  refine op_wantedF (d := 18) rfl rfl ?_
  refine op_lss rfl rfl rfl ?_
  refine op_pickF rfl rfl rfl ?_
  refine op_move rfl rfl ?_
  refine op_cases (d := 22) rfl (fun hc => ?_) (fun hc => ?_)
  ·have hg22 := of_decide_eq_true hc; clear hc
   refine op_notF (d := 22) rfl rfl rfl rfl ?_
   refine op_notF (d := 22) rfl rfl rfl rfl ?_
   refine op_pickT rfl rfl rfl ?_
   refine op_move rfl rfl ?_
   refine op_notF (d := 26) rfl rfl rfl rfl ?_
   refine op_notF (d := 26) rfl rfl rfl rfl ?_
   refine op_notF (d := 26) rfl rfl rfl rfl ?_
   refine op_notF (d := 26) rfl rfl rfl rfl ?_
   refine op_notF (d := 26) rfl rfl rfl rfl ?_
   refine op_pickT rfl rfl rfl ?_
   refine op_move rfl rfl ?_
   refine op_notF (d := 33) rfl rfl rfl rfl ?_
   refine op_notF (d := 33) rfl rfl rfl rfl ?_
   refine op_notF (d := 33) rfl rfl rfl rfl ?_
   refine op_notF (d := 33) rfl rfl rfl rfl ?_
   refine op_notF (d := 33) rfl rfl rfl rfl ?_
   refine op_pickT rfl rfl rfl ?_
   refine op_move rfl rfl ?_
   refine op_notF (d := 40) rfl rfl rfl rfl ?_
   refine op_notF (d := 40) rfl rfl rfl rfl ?_
   refine op_pickT rfl rfl rfl ?_
   refine op_move rfl rfl ?_
   refine op_notF (d := 44) rfl rfl rfl rfl ?_
   refine op_notF (d := 44) rfl rfl rfl rfl ?_
   refine op_notF (d := 44) rfl rfl rfl rfl ?_
   refine op_notF (d := 44) rfl rfl rfl rfl ?_
   refine op_notF (d := 44) rfl rfl rfl rfl ?_
   refine op_pickT rfl rfl rfl ?_
   refine op_move rfl rfl ?_
   refine op_notF (d := 51) rfl rfl rfl rfl ?_
   refine op_notF (d := 51) rfl rfl rfl rfl ?_
   refine op_notF (d := 51) rfl rfl rfl rfl ?_
   refine op_notF (d := 51) rfl rfl rfl rfl ?_
   refine op_pickT rfl rfl rfl ?_
   refine endF (XF.thenN ?_)
   refine condT rfl ?_
   refine seqF (regF ?_)
   refine op_assign rfl rfl ?_
   refine endF (XF.thenN ?_)
   refine retF ?_
   refine XF.thenR ?_
   refine XF.res (res1 Try.results27 rfl) ?_
   exact ⟨gr_rbool (by unfold headsB; dsimp only; rw [if_neg (by omega), if_pos (by omega)]), hS.below⟩
  ·have hg22 := of_decide_eq_false hc; clear hc
   refine op_wantedF (d := 22) rfl rfl ?_
   refine op_move rfl rfl ?_
   refine op_wantedF (d := 22) rfl rfl ?_
   refine op_gtr rfl rfl rfl ?_
   refine op_pickF rfl rfl rfl ?_
   refine op_move rfl rfl ?_
   refine op_cases (d := 26) rfl (fun hc => ?_) (fun hc => ?_)
   ·have hg26 := of_decide_eq_true hc; clear hc
    refine op_notF (d := 26) rfl rfl rfl rfl ?_
    refine op_notF (d := 26) rfl rfl rfl rfl ?_
    refine op_notF (d := 26) rfl rfl rfl rfl ?_
    refine op_notF (d := 26) rfl rfl rfl rfl ?_
    refine op_notF (d := 26) rfl rfl rfl rfl ?_
    refine op_pickT rfl rfl rfl ?_
    refine op_move rfl rfl ?_
    refine op_notF (d := 33) rfl rfl rfl rfl ?_
    refine op_notF (d := 33) rfl rfl rfl rfl ?_
    refine op_notF (d := 33) rfl rfl rfl rfl ?_
    refine op_notF (d := 33) rfl rfl rfl rfl ?_
    refine op_notF (d := 33) rfl rfl rfl rfl ?_
    refine op_pickT rfl rfl rfl ?_
    refine op_move rfl rfl ?_
    refine op_notF (d := 40) rfl rfl rfl rfl ?_
    refine op_notF (d := 40) rfl rfl rfl rfl ?_
    refine op_pickT rfl rfl rfl ?_
    refine op_move rfl rfl ?_
    refine op_notF (d := 44) rfl rfl rfl rfl ?_
    refine op_notF (d := 44) rfl rfl rfl rfl ?_
    refine op_notF (d := 44) rfl rfl rfl rfl ?_
    refine op_notF (d := 44) rfl rfl rfl rfl ?_
    refine op_notF (d := 44) rfl rfl rfl rfl ?_
    refine op_pickT rfl rfl rfl ?_
    refine op_move rfl rfl ?_
    refine op_notF (d := 51) rfl rfl rfl rfl ?_
    refine op_notF (d := 51) rfl rfl rfl rfl ?_
    refine op_notF (d := 51) rfl rfl rfl rfl ?_
    refine op_notF (d := 51) rfl rfl rfl rfl ?_
    refine op_pickT rfl rfl rfl ?_
    refine endF (XF.thenN ?_)
    refine condT rfl ?_
    refine seqF (regF ?_)
    refine op_assign rfl rfl ?_
    refine endF (XF.thenN ?_)
    refine retF ?_
    refine XF.thenR ?_
    refine XF.res (res1 Try.results27 rfl) ?_
    exact ⟨gr_rbool (by unfold headsB; dsimp only; rw [if_neg (by omega), if_neg (by omega), if_pos (by omega)]), hS.below⟩
   ·have hg26 := of_decide_eq_false hc; clear hc
    refine op_wantedF (d := 26) rfl rfl ?_
    refine op_field (o' := 2) gr_fa_29_2 rfl rfl rfl ?_
    refine op_wantedF (d := 26) rfl rfl ?_
    refine op_load Try.isAgg23 rfl (cell_own (hS.at_ 0 rfl) rfl) rfl ?_
    refine op_wantedF (d := 26) rfl rfl ?_
    refine op_len Try.underlying23 rfl rfl ?_
    refine op_wantedF (d := 26) rfl rfl ?_
    refine op_move rfl rfl ?_
    refine op_wantedF (d := 26) rfl rfl ?_
    refine op_neq rfl rfl rfl ?_
    refine op_pickF rfl rfl rfl ?_
    refine op_move rfl rfl ?_
    refine op_cases (d := 33) rfl (fun hc => ?_) (fun hc => ?_)
    ·have hg33 := of_decide_eq_true hc; clear hc
     refine op_notF (d := 33) rfl rfl rfl rfl ?_
     refine op_notF (d := 33) rfl rfl rfl rfl ?_
     refine op_notF (d := 33) rfl rfl rfl rfl ?_
     refine op_notF (d := 33) rfl rfl rfl rfl ?_
     refine op_notF (d := 33) rfl rfl rfl rfl ?_
     refine op_pickT rfl rfl rfl ?_
     refine op_move rfl rfl ?_
     refine op_notF (d := 40) rfl rfl rfl rfl ?_
     refine op_notF (d := 40) rfl rfl rfl rfl ?_
     refine op_pickT rfl rfl rfl ?_
     refine op_move rfl rfl ?_
     refine op_notF (d := 44) rfl rfl rfl rfl ?_
     refine op_notF (d := 44) rfl rfl rfl rfl ?_
     refine op_notF (d := 44) rfl rfl rfl rfl ?_
     refine op_notF (d := 44) rfl rfl rfl rfl ?_
     refine op_notF (d := 44) rfl rfl rfl rfl ?_
     refine op_pickT rfl rfl rfl ?_
     refine op_move rfl rfl ?_
     refine op_notF (d := 51) rfl rfl rfl rfl ?_
     refine op_notF (d := 51) rfl rfl rfl rfl ?_
     refine op_notF (d := 51) rfl rfl rfl rfl ?_
     refine op_notF (d := 51) rfl rfl rfl rfl ?_
     refine op_pickT rfl rfl rfl ?_
     refine endF (XF.thenN ?_)
     refine condT rfl ?_
     refine seqF (regF ?_)
     refine op_assign rfl rfl ?_
     refine endF (XF.thenN ?_)
     refine retF ?_
     refine XF.thenR ?_
     refine XF.res (res1 Try.results27 rfl) ?_
     exact ⟨gr_rbool (by unfold headsB; dsimp only; rw [if_neg (by omega), if_neg (by omega), if_neg (by omega), if_pos (by omega)]), hS.below⟩
    ·have hg33 := of_decide_eq_false hc; clear hc
     refine op_wantedF (d := 33) rfl rfl ?_
     refine op_field (o' := 3) gr_fa_29_3 rfl rfl rfl ?_
     refine op_wantedF (d := 33) rfl rfl ?_
     refine op_load Try.isAgg23 rfl (cell_own (hS.at_ 0 rfl) rfl) rfl ?_
     refine op_wantedF (d := 33) rfl rfl ?_
     refine op_len Try.underlying23 rfl rfl ?_
     refine op_wantedF (d := 33) rfl rfl ?_
     refine op_move rfl rfl ?_
     refine op_wantedF (d := 33) rfl rfl ?_
     refine op_neq rfl rfl rfl ?_
     refine op_pickF rfl rfl rfl ?_
     refine op_move rfl rfl ?_
     refine op_cases (d := 40) rfl (fun hc => ?_) (fun hc => ?_)
     ·have hg40 := of_decide_eq_true hc; clear hc
      refine op_notF (d := 40) rfl rfl rfl rfl ?_
      refine op_notF (d := 40) rfl rfl rfl rfl ?_
      refine op_pickT rfl rfl rfl ?_
      refine op_move rfl rfl ?_
      refine op_notF (d := 44) rfl rfl rfl rfl ?_
      refine op_notF (d := 44) rfl rfl rfl rfl ?_
      refine op_notF (d := 44) rfl rfl rfl rfl ?_
      refine op_notF (d := 44) rfl rfl rfl rfl ?_
      refine op_notF (d := 44) rfl rfl rfl rfl ?_
      refine op_pickT rfl rfl rfl ?_
      refine op_move rfl rfl ?_
      refine op_notF (d := 51) rfl rfl rfl rfl ?_
      refine op_notF (d := 51) rfl rfl rfl rfl ?_
      refine op_notF (d := 51) rfl rfl rfl rfl ?_
      refine op_notF (d := 51) rfl rfl rfl rfl ?_
      refine op_pickT rfl rfl rfl ?_
      refine endF (XF.thenN ?_)
      refine condT rfl ?_
      refine seqF (regF ?_)
      refine op_assign rfl rfl ?_
      refine endF (XF.thenN ?_)
      refine retF ?_
      refine XF.thenR ?_
      refine XF.res (res1 Try.results27 rfl) ?_
      exact ⟨gr_rbool (by unfold headsB; dsimp only; rw [if_neg (by omega), if_neg (by omega), if_neg (by omega), if_neg (by omega), if_pos (by omega)]), hS.below⟩
     ·have hg40 := of_decide_eq_false hc; clear hc
      refine op_wantedF (d := 40) rfl rfl ?_
      refine op_move rfl rfl ?_
      refine op_wantedF (d := 40) rfl rfl ?_
      refine op_gtr rfl rfl rfl ?_
      refine op_pickF rfl rfl rfl ?_
      refine op_move rfl rfl ?_
      refine op_cases (d := 44) rfl (fun hc => ?_) (fun hc => ?_)
      ·have hg44 := of_decide_eq_true hc; clear hc
       refine op_notF (d := 44) rfl rfl rfl rfl ?_
       refine op_notF (d := 44) rfl rfl rfl rfl ?_
       refine op_notF (d := 44) rfl rfl rfl rfl ?_
       refine op_notF (d := 44) rfl rfl rfl rfl ?_
       refine op_notF (d := 44) rfl rfl rfl rfl ?_
       refine op_pickT rfl rfl rfl ?_
       refine op_move rfl rfl ?_
       refine op_notF (d := 51) rfl rfl rfl rfl ?_
       refine op_notF (d := 51) rfl rfl rfl rfl ?_
       refine op_notF (d := 51) rfl rfl rfl rfl ?_
       refine op_notF (d := 51) rfl rfl rfl rfl ?_
       refine op_pickT rfl rfl rfl ?_
       refine endF (XF.thenN ?_)
       refine condT rfl ?_
       refine seqF (regF ?_)
       refine op_assign rfl rfl ?_
       refine endF (XF.thenN ?_)
       refine retF ?_
       refine XF.thenR ?_
       refine XF.res (res1 Try.results27 rfl) ?_
       exact ⟨gr_rbool (by unfold headsB; dsimp only; rw [if_neg (by omega), if_neg (by omega), if_neg (by omega), if_neg (by omega), if_neg (by omega), if_pos (by omega)]), hS.below⟩
      ·have hg44 := of_decide_eq_false hc; clear hc
       refine op_wantedF (d := 44) rfl rfl ?_
       refine op_field (o' := 4) gr_fa_29_4 rfl rfl rfl ?_
       refine op_wantedF (d := 44) rfl rfl ?_
       refine op_load Try.isAgg3 rfl (cell_own (hS.at_ 0 rfl) rfl) rfl ?_
       refine op_wantedF (d := 44) rfl rfl ?_
       refine op_move rfl rfl ?_
       refine op_wantedF (d := 44) rfl rfl ?_
       refine op_call (vs := [_, _]) hS gr_goes_29 rfl (in_is mn pl _) rfl ?_
       rintro e W3 ⟨rfl, hb⟩
       refine ⟨_, rfl, hb, fun hS' => ?_⟩
       clear hS; have hS := hS'; clear hS' hb
       refine op_wantedF (d := 44) rfl rfl ?_
       refine op_not rfl rfl ?_
       refine op_pickF rfl rfl rfl ?_
       refine op_move rfl rfl ?_
       refine op_cases (d := 51) rfl (fun hc => ?_) (fun hc => ?_)
       ·have hg51 := hc; clear hc
        refine op_notF (d := 51) rfl rfl rfl rfl ?_
        refine op_notF (d := 51) rfl rfl rfl rfl ?_
        refine op_notF (d := 51) rfl rfl rfl rfl ?_
        refine op_notF (d := 51) rfl rfl rfl rfl ?_
        refine op_pickT rfl rfl rfl ?_
        refine endF (XF.thenN ?_)
        refine condT rfl ?_
        refine seqF (regF ?_)
        refine op_assign rfl rfl ?_
        refine endF (XF.thenN ?_)
        refine retF ?_
        refine XF.thenR ?_
        refine XF.res (res1 Try.results27 rfl) ?_
        exact ⟨gr_rbool (by unfold headsB; dsimp only; rw [if_neg (by omega), if_neg (by omega), if_neg (by omega), if_neg (by omega), if_neg (by omega), if_neg (by omega), if_pos (by simpa using hg51)]), hS.below⟩
       ·have hg51 := hc; clear hc
        have hmn : gr_inQ mn pl = true := by simpa using hg51
        refine op_wantedF (d := 51) rfl rfl ?_
        refine op_field (o' := 7) gr_fa_29_7 rfl rfl rfl ?_
        refine op_wantedF (d := 51) rfl rfl ?_
        refine op_load Try.isAgg25 rfl (cell_own (hS.at_ 0 rfl) rfl) rfl ?_
        refine op_wantedF (d := 51) rfl rfl ?_
        refine op_len Try.underlying25 rfl rfl ?_
        refine op_wantedF (d := 51) rfl rfl ?_
        refine op_gtr rfl rfl rfl ?_
        refine op_pickF rfl rfl rfl ?_
        refine endF (XF.thenN ?_)
        refine condF rfl (fun hc => ?_) (fun hc => ?_)
        ·have hc56 := of_decide_eq_true hc; clear hc
         refine seqF (regF ?_)
         refine op_assign rfl rfl ?_
         refine endF (XF.thenN ?_)
         refine retF ?_
         refine XF.thenR ?_
         refine XF.res (res1 Try.results27 rfl) ?_
         exact ⟨gr_rbool (by unfold headsB; dsimp only; rw [if_neg (by omega), if_neg (by omega), if_neg (by omega), if_neg (by omega), if_neg (by omega), if_neg (by omega), if_neg (by rw [hmn]; simp), if_pos (by omega)]), hS.below⟩
        ·have hc56 := of_decide_eq_false hc; clear hc
         refine skipF ?_
         refine XF.thenN ?_
         refine seqF ?_
         refine seqF (regF ?_)
         refine op_assign rfl rfl ?_
         refine endF (XF.thenN ?_)
         refine blockF ?_
         refine loopF (fun m l W => ∃ i : Nat, i ≤ ol ∧ m = ol - i ∧ l = [(1, .pointer (some ⟨B1, 0, none⟩)), (3, .int .i64 (pl : Int)), (4, .int .i64 (ol : Int)), (5, .int .i64 (i : Int))] ∧ (os.take i).all (fun y => gr_inQ y pl) = true ∧ St w [(B1, [.slice va vl vc, .slice pa pl pc, .slice ea el ec, .slice xa xl xc, .int .i64 mn, .slice oa ol oc, .slice sa sl sc, .slice ta tl tc, .slice na nl nc, .slice ka kl kc], 29)] [] [] W) (ol - 0) ([(1, _), (3, _), (4, _), (5, _)]) ⟨rfl, rfl, rfl, rfl, trivial⟩ (⟨0, Nat.zero_le _, rfl, rfl, rfl, hS.clear⟩) ?_
         clear hS
         rintro m l W ⟨i, hi, rfl, rfl, hall, hS⟩
         refine seqF ?_
         refine seqF (regF ?_)
         refine op_move rfl rfl ?_
         refine op_move rfl rfl ?_
         refine op_lss rfl rfl rfl ?_
         refine endF (XF.thenN ?_)
         refine condF rfl (fun hc => ?_) (fun hc => ?_)
         ·have hc59 := of_decide_eq_true hc; clear hc
          have hk1 : i < ol := by omega
          obtain ⟨b, off, y, rfl, hy, hyc⟩ := ho.get (i := i) (by omega)
          have k1 := (CellsAt.agree hS.agree (Nat.zero_le _) hyc).1
          refine skipF ?_
          refine XF.thenN ?_
          refine seqF ?_
          refine blockF ?_
          refine seqF (regF ?_)
          refine op_field (o' := 5) gr_fa_29_5 rfl rfl rfl ?_
          refine op_load Try.isAgg23 rfl (cell_own (hS.at_ 0 rfl) rfl) rfl ?_
          refine op_move rfl rfl ?_
          refine op_indexA  Try.underlying23 Try.sizeOf3 rfl rfl rfl (by omega) rfl rfl ?_
          refine op_load Try.isAgg3 rfl (k1) rfl ?_
          refine op_move rfl rfl ?_
          refine op_call (vs := [_, _]) hS gr_goes_29 rfl (in_is y pl _) rfl ?_
          rintro e W4 ⟨rfl, hb⟩
          refine ⟨_, rfl, hb, fun hS' => ?_⟩
          clear hS; have hS := hS'; clear hS' hb
          refine op_not rfl rfl ?_
          refine endF (XF.thenN ?_)
          refine condF rfl (fun hc => ?_) (fun hc => ?_)
          ·have hc69 := hc; clear hc
           refine seqF (regF ?_)
           refine op_assign rfl rfl ?_
           refine endF (XF.thenN ?_)
           refine retF ?_
           refine XF.blkR ?_
           refine XF.thenR ?_
           refine XF.thenR ?_
           refine XF.blkR ?_
           refine XF.thenR ?_
           refine XF.res (res1 Try.results27 rfl) ?_
           exact ⟨gr_rbool (by unfold headsB; dsimp only; rw [if_neg (by omega), if_neg (by omega), if_neg (by omega), if_neg (by omega), if_neg (by omega), if_neg (by omega), if_neg (by rw [hmn]; simp), if_neg (by omega), if_pos (gr_all_false_at hy (by simpa using hc69))]), hS.below⟩
          ·have hc69 := hc; clear hc
           refine skipF ?_
           refine XF.blkN ?_
           refine XF.thenN ?_
           refine regF ?_
           refine op_move rfl rfl ?_
           refine op_add rfl rfl (IntWalk.i64_in _ (by omega)) rfl ?_
           refine op_assign rfl rfl ?_
           refine endF ?_
           exact XF.round (ol - (i + 1)) [(1, _), (3, _), (4, _), (5, _)] (by omega) ⟨rfl, rfl, rfl, rfl, trivial⟩ ⟨i + 1, by omega, rfl, rfl, gr_all_take_at hy hall (by simpa using hc69), hS.clear⟩
         ·have hc59 := of_decide_eq_false hc; clear hc
          rw [List.take_of_length_le (by omega)] at hall
          refine exitF ?_
          refine XF.thenX ?_
          refine XF.thenX ?_
          refine XF.blkX ?_
          refine XF.thenN ?_
          refine seqF ?_
          refine seqF (regF ?_)
          refine op_assign rfl rfl ?_
          refine endF (XF.thenN ?_)
          refine blockF ?_
          refine loopF (fun m l W => ∃ i : Nat, i ≤ pl ∧ m = pl - i ∧ l = [(1, .pointer (some ⟨B1, 0, none⟩)), (3, .int .i64 (pl : Int)), (4, .int .i64 (ol : Int)), (6, .int .i64 (i : Int))] ∧ (List.range i).all (procB ⟨va, vl, vc, pa, pl, pc, ea, el, ec, es, xa, xl, xc, xs, mn, oa, ol, oc, os, sa, sl, sc, ss, ta, tl, tc, ts, na, nl, nc, ns, ka, kl, kc, ks⟩) = true ∧ St w [(B1, [.slice va vl vc, .slice pa pl pc, .slice ea el ec, .slice xa xl xc, .int .i64 mn, .slice oa ol oc, .slice sa sl sc, .slice ta tl tc, .slice na nl nc, .slice ka kl kc], 29)] [] [] W) (pl - 0) ([(1, _), (3, _), (4, _), (6, _)]) ⟨rfl, rfl, rfl, rfl, trivial⟩ (⟨0, Nat.zero_le _, rfl, rfl, rfl, hS.clear⟩) ?_
          clear hS
          rintro m l W ⟨i, hi, rfl, rfl, hpr, hS⟩
          refine seqF ?_
          refine seqF (regF ?_)
          refine op_move rfl rfl ?_
          refine op_move rfl rfl ?_
          refine op_lss rfl rfl rfl ?_
          refine endF (XF.thenN ?_)
          refine condF rfl (fun hc => ?_) (fun hc => ?_)
          ·have hc72 := of_decide_eq_true hc; clear hc
           have hi1 : i < pl := by omega
           obtain ⟨eb, eo, n1, rfl, hn1, hnc1⟩ := he.get (i := i) (by omega)
           obtain ⟨xb, xo, n2, rfl, hn2, hnc2⟩ := hx.get (i := i) (by omega)
           have k1 := (CellsAt.agree hS.agree (Nat.zero_le _) hnc1).1
           have k2 := (CellsAt.agree hS.agree (Nat.zero_le _) hnc2).1
           refine skipF ?_
           refine XF.thenN ?_
           refine seqF ?_
           refine blockF ?_
           refine seqF ?_
           rcases (proc_cases hol n1 n2 i) with h1 | ⟨h1, h2⟩ | ⟨h1, h2, q1, q2, y1, y2, rfl, rfl, hq1, hq2, hy1, hy2, hne | hee⟩
           ·skip
            refine regB (m := 44) gr_followsM hS (by kernel_rfl) (by kernel_rfl) rfl ?_
            refine bl_cons 1 rfl (isV _) (stab_isV _) (rgV (li := [(1, _)]) rfl (w_free rfl) ⟨g_fr (by kernel_rfl) rfl, trivial⟩ (fun w hw => rn_field (o' := 2) gr_fa_29_2 rfl rfl) (at_top rfl)) ?_
            refine bl_cons 2 rfl (isV _) (stab_isV _) (rgV (li := [(75, _)]) rfl (w_free rfl) ⟨g_dep 0 (by kernel_rfl) (at_dep rfl rfl rfl), trivial⟩ (fun w hw => rn_load Try.isAgg23 rfl ((below_agree hw 0).cell (Nat.zero_le _) (cell_own (hS.at_ 0 rfl) rfl))) (at_top rfl)) ?_
            refine bl_cons 3 rfl (isV _) (stab_isV _) (rgV (li := [(6, _)]) rfl (w_free rfl) ⟨g_fr (by kernel_rfl) rfl, trivial⟩ (fun w hw => rn_move rfl) (at_top rfl)) ?_
            refine bl_cons 4 rfl (isV _) (stab_isV _) (rgV (li := [(76, _), (77, _)]) rfl (w_free rfl) ⟨g_dep 1 (by kernel_rfl) (at_dep rfl rfl rfl), g_dep 2 (by kernel_rfl) (at_dep rfl rfl rfl), trivial⟩ (fun w hw => rn_indexA  Try.underlying23 Try.sizeOf3 rfl rfl rfl (by omega) rfl) (at_top rfl)) ?_
            refine bl_cons 5 rfl (isV _) (stab_isV _) (rgV (li := [(78, _)]) rfl (w_free rfl) ⟨g_dep 3 (by kernel_rfl) (at_dep rfl rfl rfl), trivial⟩ (fun w hw => rn_load Try.isAgg3 rfl ((below_agree hw 0).cell (Nat.zero_le _) (k1))) (at_top rfl)) ?_
            refine bl_cons 6 rfl (isV _) (stab_isV _) (rgV (li := [(4, _)]) rfl (w_free rfl) ⟨g_fr (by kernel_rfl) rfl, trivial⟩ (fun w hw => rn_move rfl) (at_top rfl)) ?_
            refine bl_cons 7 rfl (isV (.bool false)) (stab_isV _) (rg_call [isV _, isV _] rfl gr_goes_29 (w_free rfl) ⟨p_tmp (g_dep 4 (by kernel_rfl) (at_dep rfl rfl rfl)), p_tmp (g_dep 5 (by kernel_rfl) (at_dep rfl rfl rfl)), trivial⟩ (fun vs w' hb hh => by have e := holds_isV (us := [_, _]) hh; subst e; exact (in_is n1 _ _).mono fun e w2 h => ⟨_, by rw [h.1, h1], rfl, h.2⟩) (at_top rfl)) ?_
            refine bl_cons 8 rfl (isV _) (stab_isV _) (rgV (li := [(81, _)]) rfl (w_free rfl) ⟨g_dep 6 (by kernel_rfl) (at_dep rfl rfl rfl), trivial⟩ (fun w hw => rn_not rfl) (at_top rfl)) ?_
            refine bl_cons 9 rfl (isV _) (stab_isV _) (rgV (li := [(82, _)]) rfl (w_free rfl) ⟨g_dep 7 (by kernel_rfl) (at_dep rfl rfl rfl), trivial⟩ (fun w hw => rn_move rfl) (at_top rfl)) ?_
            refine bl_cons 10 rfl (isV undef) (stab_isV _) (rg_no rfl (w_no 83 rfl (by kernel_rfl) (by kernel_rfl) (at_dep rfl rfl rfl) rfl) (at_top rfl)) ?_
            refine bl_cons 11 rfl (isV undef) (stab_isV _) (rg_no rfl (w_no 83 rfl (by kernel_rfl) (by kernel_rfl) (at_dep rfl rfl rfl) rfl) (at_top rfl)) ?_
            refine bl_cons 12 rfl (isV undef) (stab_isV _) (rg_no rfl (w_no 83 rfl (by kernel_rfl) (by kernel_rfl) (at_dep rfl rfl rfl) rfl) (at_top rfl)) ?_
            refine bl_cons 13 rfl (isV undef) (stab_isV _) (rg_no rfl (w_no 83 rfl (by kernel_rfl) (by kernel_rfl) (at_dep rfl rfl rfl) rfl) (at_top rfl)) ?_
            refine bl_cons 14 rfl (isV undef) (stab_isV _) (rg_no rfl (w_no 83 rfl (by kernel_rfl) (by kernel_rfl) (at_dep rfl rfl rfl) rfl) (at_top rfl)) ?_
            refine bl_cons 15 rfl (isV undef) (stab_isV _) (rg_no rfl (w_no 83 rfl (by kernel_rfl) (by kernel_rfl) (at_dep rfl rfl rfl) rfl) (at_top rfl)) ?_
            refine bl_cons 16 rfl (isV undef) (stab_isV _) (rg_no rfl (w_no 83 rfl (by kernel_rfl) (by kernel_rfl) (at_dep rfl rfl rfl) rfl) (at_top rfl)) ?_
            refine bl_cons 17 rfl (isV undef) (stab_isV _) (rg_no rfl (w_no 83 rfl (by kernel_rfl) (by kernel_rfl) (at_dep rfl rfl rfl) rfl) (at_top rfl)) ?_
            refine bl_cons 18 rfl (isV _) (stab_isV _) (rgV (li := [(83, _)]) rfl (w_free rfl) ⟨g_dep 8 (by kernel_rfl) (at_dep rfl rfl rfl), trivial⟩ (fun w hw => rn_pickT rfl rfl) (at_top rfl)) ?_
            refine bl_cons 19 rfl (isV _) (stab_isV _) (rgV (li := [(92, _)]) rfl (w_free rfl) ⟨g_dep 17 (by kernel_rfl) (at_dep rfl rfl rfl), trivial⟩ (fun w hw => rn_move rfl) (at_top rfl)) ?_
            refine bl_cons 20 rfl (isV undef) (stab_isV _) (rg_no rfl (w_no 93 rfl (by kernel_rfl) (by kernel_rfl) (at_dep rfl rfl rfl) rfl) (at_top rfl)) ?_
            refine bl_cons 21 rfl (isV undef) (stab_isV _) (rg_no rfl (w_no 93 rfl (by kernel_rfl) (by kernel_rfl) (at_dep rfl rfl rfl) rfl) (at_top rfl)) ?_
            refine bl_cons 22 rfl (isV undef) (stab_isV _) (rg_no rfl (w_no 93 rfl (by kernel_rfl) (by kernel_rfl) (at_dep rfl rfl rfl) rfl) (at_top rfl)) ?_
            refine bl_cons 23 rfl (isV undef) (stab_isV _) (rg_no rfl (w_no 93 rfl (by kernel_rfl) (by kernel_rfl) (at_dep rfl rfl rfl) rfl) (at_top rfl)) ?_
            refine bl_cons 24 rfl (isV undef) (stab_isV _) (rg_no rfl (w_no 93 rfl (by kernel_rfl) (by kernel_rfl) (at_dep rfl rfl rfl) rfl) (at_top rfl)) ?_
            refine bl_cons 25 rfl (isV undef) (stab_isV _) (rg_no rfl (w_no 93 rfl (by kernel_rfl) (by kernel_rfl) (at_dep rfl rfl rfl) rfl) (at_top rfl)) ?_
            refine bl_cons 26 rfl (isV undef) (stab_isV _) (rg_no rfl (w_no 93 rfl (by kernel_rfl) (by kernel_rfl) (at_dep rfl rfl rfl) rfl) (at_top rfl)) ?_
            refine bl_cons 27 rfl (isV undef) (stab_isV _) (rg_no rfl (w_no 93 rfl (by kernel_rfl) (by kernel_rfl) (at_dep rfl rfl rfl) rfl) (at_top rfl)) ?_
            refine bl_cons 28 rfl (isV undef) (stab_isV _) (rg_no rfl (w_no 93 rfl (by kernel_rfl) (by kernel_rfl) (at_dep rfl rfl rfl) rfl) (at_top rfl)) ?_
            refine bl_cons 29 rfl (isV undef) (stab_isV _) (rg_no rfl (w_no 93 rfl (by kernel_rfl) (by kernel_rfl) (at_dep rfl rfl rfl) rfl) (at_top rfl)) ?_
            refine bl_cons 30 rfl (isV undef) (stab_isV _) (rg_no rfl (w_no 93 rfl (by kernel_rfl) (by kernel_rfl) (at_dep rfl rfl rfl) rfl) (at_top rfl)) ?_
            refine bl_cons 31 rfl (isV _) (stab_isV _) (rgV (li := [(93, _)]) rfl (w_free rfl) ⟨g_dep 18 (by kernel_rfl) (at_dep rfl rfl rfl), trivial⟩ (fun w hw => rn_pickT rfl rfl) (at_top rfl)) ?_
            refine bl_cons 32 rfl (isV _) (stab_isV _) (rgV (li := [(105, _)]) rfl (w_free rfl) ⟨g_dep 30 (by kernel_rfl) (at_dep rfl rfl rfl), trivial⟩ (fun w hw => rn_move rfl) (at_top rfl)) ?_
            refine bl_cons 33 rfl (isV undef) (stab_isV _) (rg_no rfl (w_no 106 rfl (by kernel_rfl) (by kernel_rfl) (at_dep rfl rfl rfl) rfl) (at_top rfl)) ?_
            refine bl_cons 34 rfl (isV undef) (stab_isV _) (rg_no rfl (w_no 106 rfl (by kernel_rfl) (by kernel_rfl) (at_dep rfl rfl rfl) rfl) (at_top rfl)) ?_
            refine bl_cons 35 rfl (isV undef) (stab_isV _) (rg_no rfl (w_no 106 rfl (by kernel_rfl) (by kernel_rfl) (at_dep rfl rfl rfl) rfl) (at_top rfl)) ?_
            refine bl_cons 36 rfl (isV undef) (stab_isV _) (rg_no rfl (w_no 106 rfl (by kernel_rfl) (by kernel_rfl) (at_dep rfl rfl rfl) rfl) (at_top rfl)) ?_
            refine bl_cons 37 rfl (isV undef) (stab_isV _) (rg_no rfl (w_no 106 rfl (by kernel_rfl) (by kernel_rfl) (at_dep rfl rfl rfl) rfl) (at_top rfl)) ?_
            refine bl_cons 38 rfl (isV undef) (stab_isV _) (rg_no rfl (w_no 106 rfl (by kernel_rfl) (by kernel_rfl) (at_dep rfl rfl rfl) rfl) (at_top rfl)) ?_
            refine bl_cons 39 rfl (isV undef) (stab_isV _) (rg_no rfl (w_no 106 rfl (by kernel_rfl) (by kernel_rfl) (at_dep rfl rfl rfl) rfl) (at_top rfl)) ?_
            refine bl_cons 40 rfl (isV undef) (stab_isV _) (rg_no rfl (w_no 106 rfl (by kernel_rfl) (by kernel_rfl) (at_dep rfl rfl rfl) rfl) (at_top rfl)) ?_
            refine bl_cons 41 rfl (isV undef) (stab_isV _) (rg_no rfl (w_no 106 rfl (by kernel_rfl) (by kernel_rfl) (at_dep rfl rfl rfl) rfl) (at_top rfl)) ?_
            refine bl_cons 42 rfl (isV undef) (stab_isV _) (rg_no rfl (w_no 106 rfl (by kernel_rfl) (by kernel_rfl) (at_dep rfl rfl rfl) rfl) (at_top rfl)) ?_
            refine bl_cons 43 rfl (isV undef) (stab_isV _) (rg_no rfl (w_no 106 rfl (by kernel_rfl) (by kernel_rfl) (at_dep rfl rfl rfl) rfl) (at_top rfl)) ?_
            refine bl_cons 44 rfl (isV _) (stab_isV _) (rgV (li := [(106, _)]) rfl (w_free rfl) ⟨g_dep 31 (by kernel_rfl) (at_dep rfl rfl rfl), trivial⟩ (fun w hw => rn_pickT rfl rfl) (at_top rfl)) ?_
            refine bl_nil ?_
            intro W5 hbR hS'
            clear hS; have hS := hS'; clear hS'
            refine fin_v ?_
            refine fin_v ?_
            refine fin_v ?_
            refine fin_v ?_
            refine fin_v ?_
            refine fin_v ?_
            refine fin_v ?_
            refine fin_v ?_
            refine fin_v ?_
            refine fin_v ?_
            refine fin_v ?_
            refine fin_v ?_
            refine fin_v ?_
            refine fin_v ?_
            refine fin_v ?_
            refine fin_v ?_
            refine fin_v ?_
            refine fin_v ?_
            refine fin_v ?_
            refine fin_v ?_
            refine fin_v ?_
            refine fin_v ?_
            refine fin_v ?_
            refine fin_v ?_
            refine fin_v ?_
            refine fin_v ?_
            refine fin_v ?_
            refine fin_v ?_
            refine fin_v ?_
            refine fin_v ?_
            refine fin_v ?_
            refine fin_v ?_
            refine fin_v ?_
            refine fin_v ?_
            refine fin_v ?_
            refine fin_v ?_
            refine fin_v ?_
            refine fin_v ?_
            refine fin_v ?_
            refine fin_v ?_
            refine fin_v ?_
            refine fin_v ?_
            refine fin_v ?_
            refine fin_v ?_
            refine fin_nil ?_
            refine XF.thenN ?_
            refine condT rfl ?_
            refine seqF (regF ?_)
            refine op_assign rfl rfl ?_
            refine endF (XF.thenN ?_)
            refine retF ?_
            refine XF.blkR ?_
            refine XF.thenR ?_
            refine XF.thenR ?_
            refine XF.blkR ?_
            refine XF.thenR ?_
            refine XF.res (res1 Try.results27 rfl) ?_
            exact ⟨gr_rbool (by unfold headsB; dsimp only; rw [if_neg (by omega), if_neg (by omega), if_neg (by omega), if_neg (by omega), if_neg (by omega), if_neg (by omega), if_neg (by rw [hmn]; simp), if_neg (by omega), if_neg (by rw [hall]; simp), if_pos (range_false hi1 (by show (nodeB os ol es i && nodeB os ol xs i) = false; rw [nodeB_out hn1 h1]; rfl))]), hS.below⟩
           ·skip
            refine regB (m := 44) gr_followsM hS (by kernel_rfl) (by kernel_rfl) rfl ?_
            refine bl_cons 1 rfl (isV _) (stab_isV _) (rgV (li := [(1, _)]) rfl (w_free rfl) ⟨g_fr (by kernel_rfl) rfl, trivial⟩ (fun w hw => rn_field (o' := 2) gr_fa_29_2 rfl rfl) (at_top rfl)) ?_
            refine bl_cons 2 rfl (isV _) (stab_isV _) (rgV (li := [(75, _)]) rfl (w_free rfl) ⟨g_dep 0 (by kernel_rfl) (at_dep rfl rfl rfl), trivial⟩ (fun w hw => rn_load Try.isAgg23 rfl ((below_agree hw 0).cell (Nat.zero_le _) (cell_own (hS.at_ 0 rfl) rfl))) (at_top rfl)) ?_
            refine bl_cons 3 rfl (isV _) (stab_isV _) (rgV (li := [(6, _)]) rfl (w_free rfl) ⟨g_fr (by kernel_rfl) rfl, trivial⟩ (fun w hw => rn_move rfl) (at_top rfl)) ?_
            refine bl_cons 4 rfl (isV _) (stab_isV _) (rgV (li := [(76, _), (77, _)]) rfl (w_free rfl) ⟨g_dep 1 (by kernel_rfl) (at_dep rfl rfl rfl), g_dep 2 (by kernel_rfl) (at_dep rfl rfl rfl), trivial⟩ (fun w hw => rn_indexA  Try.underlying23 Try.sizeOf3 rfl rfl rfl (by omega) rfl) (at_top rfl)) ?_
            refine bl_cons 5 rfl (isV _) (stab_isV _) (rgV (li := [(78, _)]) rfl (w_free rfl) ⟨g_dep 3 (by kernel_rfl) (at_dep rfl rfl rfl), trivial⟩ (fun w hw => rn_load Try.isAgg3 rfl ((below_agree hw 0).cell (Nat.zero_le _) (k1))) (at_top rfl)) ?_
            refine bl_cons 6 rfl (isV _) (stab_isV _) (rgV (li := [(4, _)]) rfl (w_free rfl) ⟨g_fr (by kernel_rfl) rfl, trivial⟩ (fun w hw => rn_move rfl) (at_top rfl)) ?_
            refine bl_cons 7 rfl (isV (.bool true)) (stab_isV _) (rg_call [isV _, isV _] rfl gr_goes_29 (w_free rfl) ⟨p_tmp (g_dep 4 (by kernel_rfl) (at_dep rfl rfl rfl)), p_tmp (g_dep 5 (by kernel_rfl) (at_dep rfl rfl rfl)), trivial⟩ (fun vs w' hb hh => by have e := holds_isV (us := [_, _]) hh; subst e; exact (in_is n1 _ _).mono fun e w2 h => ⟨_, by rw [h.1, h1], rfl, h.2⟩) (at_top rfl)) ?_
            refine bl_cons 8 rfl (isV _) (stab_isV _) (rgV (li := [(81, _)]) rfl (w_free rfl) ⟨g_dep 6 (by kernel_rfl) (at_dep rfl rfl rfl), trivial⟩ (fun w hw => rn_not rfl) (at_top rfl)) ?_
            refine bl_cons 9 rfl (isV _) (stab_isV _) (rgV (li := [(82, _)]) rfl (w_free rfl) ⟨g_dep 7 (by kernel_rfl) (at_dep rfl rfl rfl), trivial⟩ (fun w hw => rn_move rfl) (at_top rfl)) ?_
            refine bl_cons 10 rfl (isV _) (stab_isV _) (rgV (li := [(1, _)]) rfl (w_yes 83 rfl (by kernel_rfl) (by kernel_rfl) (at_dep rfl rfl rfl)) ⟨g_fr (by kernel_rfl) rfl, trivial⟩ (fun w hw => rn_field (o' := 3) gr_fa_29_3 rfl rfl) (at_top rfl)) ?_
            refine bl_cons 11 rfl (isV _) (stab_isV _) (rgV (li := [(84, _)]) rfl (w_yes 83 rfl (by kernel_rfl) (by kernel_rfl) (at_dep rfl rfl rfl)) ⟨g_dep 9 (by kernel_rfl) (at_dep rfl rfl rfl), trivial⟩ (fun w hw => rn_load Try.isAgg23 rfl ((below_agree hw 0).cell (Nat.zero_le _) (cell_own (hS.at_ 0 rfl) rfl))) (at_top rfl)) ?_
            refine bl_cons 12 rfl (isV _) (stab_isV _) (rgV (li := [(6, _)]) rfl (w_yes 83 rfl (by kernel_rfl) (by kernel_rfl) (at_dep rfl rfl rfl)) ⟨g_fr (by kernel_rfl) rfl, trivial⟩ (fun w hw => rn_move rfl) (at_top rfl)) ?_
            refine bl_cons 13 rfl (isV _) (stab_isV _) (rgV (li := [(85, _), (86, _)]) rfl (w_yes 83 rfl (by kernel_rfl) (by kernel_rfl) (at_dep rfl rfl rfl)) ⟨g_dep 10 (by kernel_rfl) (at_dep rfl rfl rfl), g_dep 11 (by kernel_rfl) (at_dep rfl rfl rfl), trivial⟩ (fun w hw => rn_indexA  Try.underlying23 Try.sizeOf3 rfl rfl rfl (by omega) rfl) (at_top rfl)) ?_
            refine bl_cons 14 rfl (isV _) (stab_isV _) (rgV (li := [(87, _)]) rfl (w_yes 83 rfl (by kernel_rfl) (by kernel_rfl) (at_dep rfl rfl rfl)) ⟨g_dep 12 (by kernel_rfl) (at_dep rfl rfl rfl), trivial⟩ (fun w hw => rn_load Try.isAgg3 rfl ((below_agree hw 0).cell (Nat.zero_le _) (k2))) (at_top rfl)) ?_
            refine bl_cons 15 rfl (isV _) (stab_isV _) (rgV (li := [(4, _)]) rfl (w_yes 83 rfl (by kernel_rfl) (by kernel_rfl) (at_dep rfl rfl rfl)) ⟨g_fr (by kernel_rfl) rfl, trivial⟩ (fun w hw => rn_move rfl) (at_top rfl)) ?_
            refine bl_cons 16 rfl (isV (.bool false)) (stab_isV _) (rg_call [isV _, isV _] rfl gr_goes_29 (w_yes 83 rfl (by kernel_rfl) (by kernel_rfl) (at_dep rfl rfl rfl)) ⟨p_tmp (g_dep 13 (by kernel_rfl) (at_dep rfl rfl rfl)), p_tmp (g_dep 14 (by kernel_rfl) (at_dep rfl rfl rfl)), trivial⟩ (fun vs w' hb hh => by have e := holds_isV (us := [_, _]) hh; subst e; exact (in_is n2 _ _).mono fun e w2 h => ⟨_, by rw [h.1, h2], rfl, h.2⟩) (at_top rfl)) ?_
            refine bl_cons 17 rfl (isV _) (stab_isV _) (rgV (li := [(90, _)]) rfl (w_yes 83 rfl (by kernel_rfl) (by kernel_rfl) (at_dep rfl rfl rfl)) ⟨g_dep 15 (by kernel_rfl) (at_dep rfl rfl rfl), trivial⟩ (fun w hw => rn_not rfl) (at_top rfl)) ?_
            refine bl_cons 18 rfl (isV _) (stab_isV _) (rgV (li := [(83, _), (91, _)]) rfl (w_free rfl) ⟨g_dep 8 (by kernel_rfl) (at_dep rfl rfl rfl), g_dep 16 (by kernel_rfl) (at_dep rfl rfl rfl), trivial⟩ (fun w hw => rn_pickF rfl rfl) (at_top rfl)) ?_
            refine bl_cons 19 rfl (isV _) (stab_isV _) (rgV (li := [(92, _)]) rfl (w_free rfl) ⟨g_dep 17 (by kernel_rfl) (at_dep rfl rfl rfl), trivial⟩ (fun w hw => rn_move rfl) (at_top rfl)) ?_
            refine bl_cons 20 rfl (isV undef) (stab_isV _) (rg_no rfl (w_no 93 rfl (by kernel_rfl) (by kernel_rfl) (at_dep rfl rfl rfl) rfl) (at_top rfl)) ?_
            refine bl_cons 21 rfl (isV undef) (stab_isV _) (rg_no rfl (w_no 93 rfl (by kernel_rfl) (by kernel_rfl) (at_dep rfl rfl rfl) rfl) (at_top rfl)) ?_
            refine bl_cons 22 rfl (isV undef) (stab_isV _) (rg_no rfl (w_no 93 rfl (by kernel_rfl) (by kernel_rfl) (at_dep rfl rfl rfl) rfl) (at_top rfl)) ?_
            refine bl_cons 23 rfl (isV undef) (stab_isV _) (rg_no rfl (w_no 93 rfl (by kernel_rfl) (by kernel_rfl) (at_dep rfl rfl rfl) rfl) (at_top rfl)) ?_
            refine bl_cons 24 rfl (isV undef) (stab_isV _) (rg_no rfl (w_no 93 rfl (by kernel_rfl) (by kernel_rfl) (at_dep rfl rfl rfl) rfl) (at_top rfl)) ?_
            refine bl_cons 25 rfl (isV undef) (stab_isV _) (rg_no rfl (w_no 93 rfl (by kernel_rfl) (by kernel_rfl) (at_dep rfl rfl rfl) rfl) (at_top rfl)) ?_
            refine bl_cons 26 rfl (isV undef) (stab_isV _) (rg_no rfl (w_no 93 rfl (by kernel_rfl) (by kernel_rfl) (at_dep rfl rfl rfl) rfl) (at_top rfl)) ?_
            refine bl_cons 27 rfl (isV undef) (stab_isV _) (rg_no rfl (w_no 93 rfl (by kernel_rfl) (by kernel_rfl) (at_dep rfl rfl rfl) rfl) (at_top rfl)) ?_
            refine bl_cons 28 rfl (isV undef) (stab_isV _) (rg_no rfl (w_no 93 rfl (by kernel_rfl) (by kernel_rfl) (at_dep rfl rfl rfl) rfl) (at_top rfl)) ?_
            refine bl_cons 29 rfl (isV undef) (stab_isV _) (rg_no rfl (w_no 93 rfl (by kernel_rfl) (by kernel_rfl) (at_dep rfl rfl rfl) rfl) (at_top rfl)) ?_
            refine bl_cons 30 rfl (isV undef) (stab_isV _) (rg_no rfl (w_no 93 rfl (by kernel_rfl) (by kernel_rfl) (at_dep rfl rfl rfl) rfl) (at_top rfl)) ?_
            refine bl_cons 31 rfl (isV _) (stab_isV _) (rgV (li := [(93, _)]) rfl (w_free rfl) ⟨g_dep 18 (by kernel_rfl) (at_dep rfl rfl rfl), trivial⟩ (fun w hw => rn_pickT rfl rfl) (at_top rfl)) ?_
            refine bl_cons 32 rfl (isV _) (stab_isV _) (rgV (li := [(105, _)]) rfl (w_free rfl) ⟨g_dep 30 (by kernel_rfl) (at_dep rfl rfl rfl), trivial⟩ (fun w hw => rn_move rfl) (at_top rfl)) ?_
            refine bl_cons 33 rfl (isV undef) (stab_isV _) (rg_no rfl (w_no 106 rfl (by kernel_rfl) (by kernel_rfl) (at_dep rfl rfl rfl) rfl) (at_top rfl)) ?_
            refine bl_cons 34 rfl (isV undef) (stab_isV _) (rg_no rfl (w_no 106 rfl (by kernel_rfl) (by kernel_rfl) (at_dep rfl rfl rfl) rfl) (at_top rfl)) ?_
            refine bl_cons 35 rfl (isV undef) (stab_isV _) (rg_no rfl (w_no 106 rfl (by kernel_rfl) (by kernel_rfl) (at_dep rfl rfl rfl) rfl) (at_top rfl)) ?_
            refine bl_cons 36 rfl (isV undef) (stab_isV _) (rg_no rfl (w_no 106 rfl (by kernel_rfl) (by kernel_rfl) (at_dep rfl rfl rfl) rfl) (at_top rfl)) ?_
            refine bl_cons 37 rfl (isV undef) (stab_isV _) (rg_no rfl (w_no 106 rfl (by kernel_rfl) (by kernel_rfl) (at_dep rfl rfl rfl) rfl) (at_top rfl)) ?_
            refine bl_cons 38 rfl (isV undef) (stab_isV _) (rg_no rfl (w_no 106 rfl (by kernel_rfl) (by kernel_rfl) (at_dep rfl rfl rfl) rfl) (at_top rfl)) ?_
            refine bl_cons 39 rfl (isV undef) (stab_isV _) (rg_no rfl (w_no 106 rfl (by kernel_rfl) (by kernel_rfl) (at_dep rfl rfl rfl) rfl) (at_top rfl)) ?_
            refine bl_cons 40 rfl (isV undef) (stab_isV _) (rg_no rfl (w_no 106 rfl (by kernel_rfl) (by kernel_rfl) (at_dep rfl rfl rfl) rfl) (at_top rfl)) ?_
            refine bl_cons 41 rfl (isV undef) (stab_isV _) (rg_no rfl (w_no 106 rfl (by kernel_rfl) (by kernel_rfl) (at_dep rfl rfl rfl) rfl) (at_top rfl)) ?_
            refine bl_cons 42 rfl (isV undef) (stab_isV _) (rg_no rfl (w_no 106 rfl (by kernel_rfl) (by kernel_rfl) (at_dep rfl rfl rfl) rfl) (at_top rfl)) ?_
            refine bl_cons 43 rfl (isV undef) (stab_isV _) (rg_no rfl (w_no 106 rfl (by kernel_rfl) (by kernel_rfl) (at_dep rfl rfl rfl) rfl) (at_top rfl)) ?_
            refine bl_cons 44 rfl (isV _) (stab_isV _) (rgV (li := [(106, _)]) rfl (w_free rfl) ⟨g_dep 31 (by kernel_rfl) (at_dep rfl rfl rfl), trivial⟩ (fun w hw => rn_pickT rfl rfl) (at_top rfl)) ?_
            refine bl_nil ?_
            intro W6 hbR hS'
            clear hS; have hS := hS'; clear hS'
            refine fin_v ?_
            refine fin_v ?_
            refine fin_v ?_
            refine fin_v ?_
            refine fin_v ?_
            refine fin_v ?_
            refine fin_v ?_
            refine fin_v ?_
            refine fin_v ?_
            refine fin_v ?_
            refine fin_v ?_
            refine fin_v ?_
            refine fin_v ?_
            refine fin_v ?_
            refine fin_v ?_
            refine fin_v ?_
            refine fin_v ?_
            refine fin_v ?_
            refine fin_v ?_
            refine fin_v ?_
            refine fin_v ?_
            refine fin_v ?_
            refine fin_v ?_
            refine fin_v ?_
            refine fin_v ?_
            refine fin_v ?_
            refine fin_v ?_
            refine fin_v ?_
            refine fin_v ?_
            refine fin_v ?_
            refine fin_v ?_
            refine fin_v ?_
            refine fin_v ?_
            refine fin_v ?_
            refine fin_v ?_
            refine fin_v ?_
            refine fin_v ?_
            refine fin_v ?_
            refine fin_v ?_
            refine fin_v ?_
            refine fin_v ?_
            refine fin_v ?_
            refine fin_v ?_
            refine fin_v ?_
            refine fin_nil ?_
            refine XF.thenN ?_
            refine condT rfl ?_
            refine seqF (regF ?_)
            refine op_assign rfl rfl ?_
            refine endF (XF.thenN ?_)
            refine retF ?_
            refine XF.blkR ?_
            refine XF.thenR ?_
            refine XF.thenR ?_
            refine XF.blkR ?_
            refine XF.thenR ?_
            refine XF.res (res1 Try.results27 rfl) ?_
            exact ⟨gr_rbool (by unfold headsB; dsimp only; rw [if_neg (by omega), if_neg (by omega), if_neg (by omega), if_neg (by omega), if_neg (by omega), if_neg (by omega), if_neg (by rw [hmn]; simp), if_neg (by omega), if_neg (by rw [hall]; simp), if_pos (range_false hi1 (by show (nodeB os ol es i && nodeB os ol xs i) = false; rw [nodeB_out hn2 h2, Bool.and_false]))]), hS.below⟩
           ·obtain ⟨ob, oo, z1, rfl, hz1, hzc1⟩ := ho.get (i := q1) (by omega)
            obtain ⟨ob2, oo2, z2, e2, hz2, hzc2⟩ := ho.get (i := q2) (by omega)
            cases e2
            obtain rfl : y1 = z1 := Option.some.inj (hy1.symm.trans hz1)
            obtain rfl : y2 = z2 := Option.some.inj (hy2.symm.trans hz2)
            have k3 := (CellsAt.agree hS.agree (Nat.zero_le _) hzc1).1
            have k4 := (CellsAt.agree hS.agree (Nat.zero_le _) hzc2).1
            refine regB (m := 44) gr_followsM hS (by kernel_rfl) (by kernel_rfl) rfl ?_
            refine bl_cons 1 rfl (isV _) (stab_isV _) (rgV (li := [(1, _)]) rfl (w_free rfl) ⟨g_fr (by kernel_rfl) rfl, trivial⟩ (fun w hw => rn_field (o' := 2) gr_fa_29_2 rfl rfl) (at_top rfl)) ?_
            refine bl_cons 2 rfl (isV _) (stab_isV _) (rgV (li := [(75, _)]) rfl (w_free rfl) ⟨g_dep 0 (by kernel_rfl) (at_dep rfl rfl rfl), trivial⟩ (fun w hw => rn_load Try.isAgg23 rfl ((below_agree hw 0).cell (Nat.zero_le _) (cell_own (hS.at_ 0 rfl) rfl))) (at_top rfl)) ?_
            refine bl_cons 3 rfl (isV _) (stab_isV _) (rgV (li := [(6, _)]) rfl (w_free rfl) ⟨g_fr (by kernel_rfl) rfl, trivial⟩ (fun w hw => rn_move rfl) (at_top rfl)) ?_
            refine bl_cons 4 rfl (isV _) (stab_isV _) (rgV (li := [(76, _), (77, _)]) rfl (w_free rfl) ⟨g_dep 1 (by kernel_rfl) (at_dep rfl rfl rfl), g_dep 2 (by kernel_rfl) (at_dep rfl rfl rfl), trivial⟩ (fun w hw => rn_indexA  Try.underlying23 Try.sizeOf3 rfl rfl rfl (by omega) rfl) (at_top rfl)) ?_
            refine bl_cons 5 rfl (isV _) (stab_isV _) (rgV (li := [(78, _)]) rfl (w_free rfl) ⟨g_dep 3 (by kernel_rfl) (at_dep rfl rfl rfl), trivial⟩ (fun w hw => rn_load Try.isAgg3 rfl ((below_agree hw 0).cell (Nat.zero_le _) (k1))) (at_top rfl)) ?_
            refine bl_cons 6 rfl (isV _) (stab_isV _) (rgV (li := [(4, _)]) rfl (w_free rfl) ⟨g_fr (by kernel_rfl) rfl, trivial⟩ (fun w hw => rn_move rfl) (at_top rfl)) ?_
            refine bl_cons 7 rfl (isV (.bool true)) (stab_isV _) (rg_call [isV _, isV _] rfl gr_goes_29 (w_free rfl) ⟨p_tmp (g_dep 4 (by kernel_rfl) (at_dep rfl rfl rfl)), p_tmp (g_dep 5 (by kernel_rfl) (at_dep rfl rfl rfl)), trivial⟩ (fun vs w' hb hh => by have e := holds_isV (us := [_, _]) hh; subst e; exact (in_is _ _ _).mono fun e w2 h => ⟨_, by rw [h.1, h1], rfl, h.2⟩) (at_top rfl)) ?_
            refine bl_cons 8 rfl (isV _) (stab_isV _) (rgV (li := [(81, _)]) rfl (w_free rfl) ⟨g_dep 6 (by kernel_rfl) (at_dep rfl rfl rfl), trivial⟩ (fun w hw => rn_not rfl) (at_top rfl)) ?_
            refine bl_cons 9 rfl (isV _) (stab_isV _) (rgV (li := [(82, _)]) rfl (w_free rfl) ⟨g_dep 7 (by kernel_rfl) (at_dep rfl rfl rfl), trivial⟩ (fun w hw => rn_move rfl) (at_top rfl)) ?_
            refine bl_cons 10 rfl (isV _) (stab_isV _) (rgV (li := [(1, _)]) rfl (w_yes 83 rfl (by kernel_rfl) (by kernel_rfl) (at_dep rfl rfl rfl)) ⟨g_fr (by kernel_rfl) rfl, trivial⟩ (fun w hw => rn_field (o' := 3) gr_fa_29_3 rfl rfl) (at_top rfl)) ?_
            refine bl_cons 11 rfl (isV _) (stab_isV _) (rgV (li := [(84, _)]) rfl (w_yes 83 rfl (by kernel_rfl) (by kernel_rfl) (at_dep rfl rfl rfl)) ⟨g_dep 9 (by kernel_rfl) (at_dep rfl rfl rfl), trivial⟩ (fun w hw => rn_load Try.isAgg23 rfl ((below_agree hw 0).cell (Nat.zero_le _) (cell_own (hS.at_ 0 rfl) rfl))) (at_top rfl)) ?_
            refine bl_cons 12 rfl (isV _) (stab_isV _) (rgV (li := [(6, _)]) rfl (w_yes 83 rfl (by kernel_rfl) (by kernel_rfl) (at_dep rfl rfl rfl)) ⟨g_fr (by kernel_rfl) rfl, trivial⟩ (fun w hw => rn_move rfl) (at_top rfl)) ?_
            refine bl_cons 13 rfl (isV _) (stab_isV _) (rgV (li := [(85, _), (86, _)]) rfl (w_yes 83 rfl (by kernel_rfl) (by kernel_rfl) (at_dep rfl rfl rfl)) ⟨g_dep 10 (by kernel_rfl) (at_dep rfl rfl rfl), g_dep 11 (by kernel_rfl) (at_dep rfl rfl rfl), trivial⟩ (fun w hw => rn_indexA  Try.underlying23 Try.sizeOf3 rfl rfl rfl (by omega) rfl) (at_top rfl)) ?_
            refine bl_cons 14 rfl (isV _) (stab_isV _) (rgV (li := [(87, _)]) rfl (w_yes 83 rfl (by kernel_rfl) (by kernel_rfl) (at_dep rfl rfl rfl)) ⟨g_dep 12 (by kernel_rfl) (at_dep rfl rfl rfl), trivial⟩ (fun w hw => rn_load Try.isAgg3 rfl ((below_agree hw 0).cell (Nat.zero_le _) (k2))) (at_top rfl)) ?_
            refine bl_cons 15 rfl (isV _) (stab_isV _) (rgV (li := [(4, _)]) rfl (w_yes 83 rfl (by kernel_rfl) (by kernel_rfl) (at_dep rfl rfl rfl)) ⟨g_fr (by kernel_rfl) rfl, trivial⟩ (fun w hw => rn_move rfl) (at_top rfl)) ?_
            refine bl_cons 16 rfl (isV (.bool true)) (stab_isV _) (rg_call [isV _, isV _] rfl gr_goes_29 (w_yes 83 rfl (by kernel_rfl) (by kernel_rfl) (at_dep rfl rfl rfl)) ⟨p_tmp (g_dep 13 (by kernel_rfl) (at_dep rfl rfl rfl)), p_tmp (g_dep 14 (by kernel_rfl) (at_dep rfl rfl rfl)), trivial⟩ (fun vs w' hb hh => by have e := holds_isV (us := [_, _]) hh; subst e; exact (in_is _ _ _).mono fun e w2 h => ⟨_, by rw [h.1, h2], rfl, h.2⟩) (at_top rfl)) ?_
            refine bl_cons 17 rfl (isV _) (stab_isV _) (rgV (li := [(90, _)]) rfl (w_yes 83 rfl (by kernel_rfl) (by kernel_rfl) (at_dep rfl rfl rfl)) ⟨g_dep 15 (by kernel_rfl) (at_dep rfl rfl rfl), trivial⟩ (fun w hw => rn_not rfl) (at_top rfl)) ?_
            refine bl_cons 18 rfl (isV _) (stab_isV _) (rgV (li := [(83, _), (91, _)]) rfl (w_free rfl) ⟨g_dep 8 (by kernel_rfl) (at_dep rfl rfl rfl), g_dep 16 (by kernel_rfl) (at_dep rfl rfl rfl), trivial⟩ (fun w hw => rn_pickF rfl rfl) (at_top rfl)) ?_
            refine bl_cons 19 rfl (isV _) (stab_isV _) (rgV (li := [(92, _)]) rfl (w_free rfl) ⟨g_dep 17 (by kernel_rfl) (at_dep rfl rfl rfl), trivial⟩ (fun w hw => rn_move rfl) (at_top rfl)) ?_
            refine bl_cons 20 rfl (isV _) (stab_isV _) (rgV (li := [(1, _)]) rfl (w_yes 93 rfl (by kernel_rfl) (by kernel_rfl) (at_dep rfl rfl rfl)) ⟨g_fr (by kernel_rfl) rfl, trivial⟩ (fun w hw => rn_field (o' := 5) gr_fa_29_5 rfl rfl) (at_top rfl)) ?_
            refine bl_cons 21 rfl (isV _) (stab_isV _) (rgV (li := [(94, _)]) rfl (w_yes 93 rfl (by kernel_rfl) (by kernel_rfl) (at_dep rfl rfl rfl)) ⟨g_dep 19 (by kernel_rfl) (at_dep rfl rfl rfl), trivial⟩ (fun w hw => rn_load Try.isAgg23 rfl ((below_agree hw 0).cell (Nat.zero_le _) (cell_own (hS.at_ 0 rfl) rfl))) (at_top rfl)) ?_
            refine bl_cons 22 rfl (isV _) (stab_isV _) (rgV (li := [(1, _)]) rfl (w_yes 93 rfl (by kernel_rfl) (by kernel_rfl) (at_dep rfl rfl rfl)) ⟨g_fr (by kernel_rfl) rfl, trivial⟩ (fun w hw => rn_field (o' := 2) gr_fa_29_2 rfl rfl) (at_top rfl)) ?_
            refine bl_cons 23 rfl (isV _) (stab_isV _) (rgV (li := [(96, _)]) rfl (w_yes 93 rfl (by kernel_rfl) (by kernel_rfl) (at_dep rfl rfl rfl)) ⟨g_dep 21 (by kernel_rfl) (at_dep rfl rfl rfl), trivial⟩ (fun w hw => rn_load Try.isAgg23 rfl ((below_agree hw 0).cell (Nat.zero_le _) (cell_own (hS.at_ 0 rfl) rfl))) (at_top rfl)) ?_
            refine bl_cons 24 rfl (isV _) (stab_isV _) (rgV (li := [(6, _)]) rfl (w_yes 93 rfl (by kernel_rfl) (by kernel_rfl) (at_dep rfl rfl rfl)) ⟨g_fr (by kernel_rfl) rfl, trivial⟩ (fun w hw => rn_move rfl) (at_top rfl)) ?_
            refine bl_cons 25 rfl (isV _) (stab_isV _) (rgV (li := [(97, _), (98, _)]) rfl (w_yes 93 rfl (by kernel_rfl) (by kernel_rfl) (at_dep rfl rfl rfl)) ⟨g_dep 22 (by kernel_rfl) (at_dep rfl rfl rfl), g_dep 23 (by kernel_rfl) (at_dep rfl rfl rfl), trivial⟩ (fun w hw => rn_indexA  Try.underlying23 Try.sizeOf3 rfl rfl rfl (by omega) rfl) (at_top rfl)) ?_
            refine bl_cons 26 rfl (isV _) (stab_isV _) (rgV (li := [(99, _)]) rfl (w_yes 93 rfl (by kernel_rfl) (by kernel_rfl) (at_dep rfl rfl rfl)) ⟨g_dep 24 (by kernel_rfl) (at_dep rfl rfl rfl), trivial⟩ (fun w hw => rn_load Try.isAgg3 rfl ((below_agree hw 0).cell (Nat.zero_le _) (k1))) (at_top rfl)) ?_
            refine bl_cons 27 rfl (isV _) (stab_isV _) (rgV (li := [(95, _), (100, _)]) rfl (w_yes 93 rfl (by kernel_rfl) (by kernel_rfl) (at_dep rfl rfl rfl)) ⟨g_dep 20 (by kernel_rfl) (at_dep rfl rfl rfl), g_dep 25 (by kernel_rfl) (at_dep rfl rfl rfl), trivial⟩ (fun w hw => rn_indexA (j := q1) Try.underlying23 Try.sizeOf3 rfl rfl (by omega) (by omega) rfl) (at_top rfl)) ?_
            refine bl_cons 28 rfl (isV _) (stab_isV _) (rgV (li := [(101, _)]) rfl (w_yes 93 rfl (by kernel_rfl) (by kernel_rfl) (at_dep rfl rfl rfl)) ⟨g_dep 26 (by kernel_rfl) (at_dep rfl rfl rfl), trivial⟩ (fun w hw => rn_load Try.isAgg3 rfl ((below_agree hw 0).cell (Nat.zero_le _) (k3))) (at_top rfl)) ?_
            refine bl_cons 29 rfl (isV _) (stab_isV _) (rgV (li := [(6, _)]) rfl (w_yes 93 rfl (by kernel_rfl) (by kernel_rfl) (at_dep rfl rfl rfl)) ⟨g_fr (by kernel_rfl) rfl, trivial⟩ (fun w hw => rn_move rfl) (at_top rfl)) ?_
            refine bl_cons 30 rfl (isV (.bool true)) (stab_isV _) (rgVe (li := [(102, _), (103, _)]) rfl (w_yes 93 rfl (by kernel_rfl) (by kernel_rfl) (at_dep rfl rfl rfl)) ⟨g_dep 27 (by kernel_rfl) (at_dep rfl rfl rfl), g_dep 28 (by kernel_rfl) (at_dep rfl rfl rfl), trivial⟩ (fun w hw => rn_neq rfl rfl) (by rw [decide_eq_true hne]) (at_top rfl)) ?_
            refine bl_cons 31 rfl (isV _) (stab_isV _) (rgV (li := [(93, _), (104, _)]) rfl (w_free rfl) ⟨g_dep 18 (by kernel_rfl) (at_dep rfl rfl rfl), g_dep 29 (by kernel_rfl) (at_dep rfl rfl rfl), trivial⟩ (fun w hw => rn_pickF rfl rfl) (at_top rfl)) ?_
            refine bl_cons 32 rfl (isV _) (stab_isV _) (rgV (li := [(105, _)]) rfl (w_free rfl) ⟨g_dep 30 (by kernel_rfl) (at_dep rfl rfl rfl), trivial⟩ (fun w hw => rn_move rfl) (at_top rfl)) ?_
            refine bl_cons 33 rfl (isV undef) (stab_isV _) (rg_no rfl (w_no 106 rfl (by kernel_rfl) (by kernel_rfl) (at_dep rfl rfl rfl) rfl) (at_top rfl)) ?_
            refine bl_cons 34 rfl (isV undef) (stab_isV _) (rg_no rfl (w_no 106 rfl (by kernel_rfl) (by kernel_rfl) (at_dep rfl rfl rfl) rfl) (at_top rfl)) ?_
            refine bl_cons 35 rfl (isV undef) (stab_isV _) (rg_no rfl (w_no 106 rfl (by kernel_rfl) (by kernel_rfl) (at_dep rfl rfl rfl) rfl) (at_top rfl)) ?_
            refine bl_cons 36 rfl (isV undef) (stab_isV _) (rg_no rfl (w_no 106 rfl (by kernel_rfl) (by kernel_rfl) (at_dep rfl rfl rfl) rfl) (at_top rfl)) ?_
            refine bl_cons 37 rfl (isV undef) (stab_isV _) (rg_no rfl (w_no 106 rfl (by kernel_rfl) (by kernel_rfl) (at_dep rfl rfl rfl) rfl) (at_top rfl)) ?_
            refine bl_cons 38 rfl (isV undef) (stab_isV _) (rg_no rfl (w_no 106 rfl (by kernel_rfl) (by kernel_rfl) (at_dep rfl rfl rfl) rfl) (at_top rfl)) ?_
            refine bl_cons 39 rfl (isV undef) (stab_isV _) (rg_no rfl (w_no 106 rfl (by kernel_rfl) (by kernel_rfl) (at_dep rfl rfl rfl) rfl) (at_top rfl)) ?_
            refine bl_cons 40 rfl (isV undef) (stab_isV _) (rg_no rfl (w_no 106 rfl (by kernel_rfl) (by kernel_rfl) (at_dep rfl rfl rfl) rfl) (at_top rfl)) ?_
            refine bl_cons 41 rfl (isV undef) (stab_isV _) (rg_no rfl (w_no 106 rfl (by kernel_rfl) (by kernel_rfl) (at_dep rfl rfl rfl) rfl) (at_top rfl)) ?_
            refine bl_cons 42 rfl (isV undef) (stab_isV _) (rg_no rfl (w_no 106 rfl (by kernel_rfl) (by kernel_rfl) (at_dep rfl rfl rfl) rfl) (at_top rfl)) ?_
            refine bl_cons 43 rfl (isV undef) (stab_isV _) (rg_no rfl (w_no 106 rfl (by kernel_rfl) (by kernel_rfl) (at_dep rfl rfl rfl) rfl) (at_top rfl)) ?_
            refine bl_cons 44 rfl (isV _) (stab_isV _) (rgV (li := [(106, _)]) rfl (w_free rfl) ⟨g_dep 31 (by kernel_rfl) (at_dep rfl rfl rfl), trivial⟩ (fun w hw => rn_pickT rfl rfl) (at_top rfl)) ?_
            refine bl_nil ?_
            intro W7 hbR hS'
            clear hS; have hS := hS'; clear hS'
            refine fin_v ?_
            refine fin_v ?_
            refine fin_v ?_
            refine fin_v ?_
            refine fin_v ?_
            refine fin_v ?_
            refine fin_v ?_
            refine fin_v ?_
            refine fin_v ?_
            refine fin_v ?_
            refine fin_v ?_
            refine fin_v ?_
            refine fin_v ?_
            refine fin_v ?_
            refine fin_v ?_
            refine fin_v ?_
            refine fin_v ?_
            refine fin_v ?_
            refine fin_v ?_
            refine fin_v ?_
            refine fin_v ?_
            refine fin_v ?_
            refine fin_v ?_
            refine fin_v ?_
            refine fin_v ?_
            refine fin_v ?_
            refine fin_v ?_
            refine fin_v ?_
            refine fin_v ?_
            refine fin_v ?_
            refine fin_v ?_
            refine fin_v ?_
            refine fin_v ?_
            refine fin_v ?_
            refine fin_v ?_
            refine fin_v ?_
            refine fin_v ?_
            refine fin_v ?_
            refine fin_v ?_
            refine fin_v ?_
            refine fin_v ?_
            refine fin_v ?_
            refine fin_v ?_
            refine fin_v ?_
            refine fin_nil ?_
            refine XF.thenN ?_
            refine condT rfl ?_
            refine seqF (regF ?_)
            refine op_assign rfl rfl ?_
            refine endF (XF.thenN ?_)
            refine retF ?_
            refine XF.blkR ?_
            refine XF.thenR ?_
            refine XF.thenR ?_
            refine XF.blkR ?_
            refine XF.thenR ?_
            refine XF.res (res1 Try.results27 rfl) ?_
            exact ⟨gr_rbool (by unfold headsB; dsimp only; rw [if_neg (by omega), if_neg (by omega), if_neg (by omega), if_neg (by omega), if_neg (by omega), if_neg (by omega), if_neg (by rw [hmn]; simp), if_neg (by omega), if_neg (by rw [hall]; simp), if_pos (range_false hi1 (by show (nodeB os ol es i && nodeB os ol xs i) = false; rw [nodeB_at hn1 h1 (by rw [Int.toNat_natCast]; exact hy1), decide_eq_false hne]; rfl))]), hS.below⟩
           ·obtain ⟨ob, oo, z1, rfl, hz1, hzc1⟩ := ho.get (i := q1) (by omega)
            obtain ⟨ob2, oo2, z2, e2, hz2, hzc2⟩ := ho.get (i := q2) (by omega)
            cases e2
            obtain rfl : y1 = z1 := Option.some.inj (hy1.symm.trans hz1)
            obtain rfl : y2 = z2 := Option.some.inj (hy2.symm.trans hz2)
            have k3 := (CellsAt.agree hS.agree (Nat.zero_le _) hzc1).1
            have k4 := (CellsAt.agree hS.agree (Nat.zero_le _) hzc2).1
            refine regB (m := 44) gr_followsM hS (by kernel_rfl) (by kernel_rfl) rfl ?_
            refine bl_cons 1 rfl (isV _) (stab_isV _) (rgV (li := [(1, _)]) rfl (w_free rfl) ⟨g_fr (by kernel_rfl) rfl, trivial⟩ (fun w hw => rn_field (o' := 2) gr_fa_29_2 rfl rfl) (at_top rfl)) ?_
            refine bl_cons 2 rfl (isV _) (stab_isV _) (rgV (li := [(75, _)]) rfl (w_free rfl) ⟨g_dep 0 (by kernel_rfl) (at_dep rfl rfl rfl), trivial⟩ (fun w hw => rn_load Try.isAgg23 rfl ((below_agree hw 0).cell (Nat.zero_le _) (cell_own (hS.at_ 0 rfl) rfl))) (at_top rfl)) ?_
            refine bl_cons 3 rfl (isV _) (stab_isV _) (rgV (li := [(6, _)]) rfl (w_free rfl) ⟨g_fr (by kernel_rfl) rfl, trivial⟩ (fun w hw => rn_move rfl) (at_top rfl)) ?_
            refine bl_cons 4 rfl (isV _) (stab_isV _) (rgV (li := [(76, _), (77, _)]) rfl (w_free rfl) ⟨g_dep 1 (by kernel_rfl) (at_dep rfl rfl rfl), g_dep 2 (by kernel_rfl) (at_dep rfl rfl rfl), trivial⟩ (fun w hw => rn_indexA  Try.underlying23 Try.sizeOf3 rfl rfl rfl (by omega) rfl) (at_top rfl)) ?_
            refine bl_cons 5 rfl (isV _) (stab_isV _) (rgV (li := [(78, _)]) rfl (w_free rfl) ⟨g_dep 3 (by kernel_rfl) (at_dep rfl rfl rfl), trivial⟩ (fun w hw => rn_load Try.isAgg3 rfl ((below_agree hw 0).cell (Nat.zero_le _) (k1))) (at_top rfl)) ?_
            refine bl_cons 6 rfl (isV _) (stab_isV _) (rgV (li := [(4, _)]) rfl (w_free rfl) ⟨g_fr (by kernel_rfl) rfl, trivial⟩ (fun w hw => rn_move rfl) (at_top rfl)) ?_
            refine bl_cons 7 rfl (isV (.bool true)) (stab_isV _) (rg_call [isV _, isV _] rfl gr_goes_29 (w_free rfl) ⟨p_tmp (g_dep 4 (by kernel_rfl) (at_dep rfl rfl rfl)), p_tmp (g_dep 5 (by kernel_rfl) (at_dep rfl rfl rfl)), trivial⟩ (fun vs w' hb hh => by have e := holds_isV (us := [_, _]) hh; subst e; exact (in_is _ _ _).mono fun e w2 h => ⟨_, by rw [h.1, h1], rfl, h.2⟩) (at_top rfl)) ?_
            refine bl_cons 8 rfl (isV _) (stab_isV _) (rgV (li := [(81, _)]) rfl (w_free rfl) ⟨g_dep 6 (by kernel_rfl) (at_dep rfl rfl rfl), trivial⟩ (fun w hw => rn_not rfl) (at_top rfl)) ?_
            refine bl_cons 9 rfl (isV _) (stab_isV _) (rgV (li := [(82, _)]) rfl (w_free rfl) ⟨g_dep 7 (by kernel_rfl) (at_dep rfl rfl rfl), trivial⟩ (fun w hw => rn_move rfl) (at_top rfl)) ?_
            refine bl_cons 10 rfl (isV _) (stab_isV _) (rgV (li := [(1, _)]) rfl (w_yes 83 rfl (by kernel_rfl) (by kernel_rfl) (at_dep rfl rfl rfl)) ⟨g_fr (by kernel_rfl) rfl, trivial⟩ (fun w hw => rn_field (o' := 3) gr_fa_29_3 rfl rfl) (at_top rfl)) ?_
            refine bl_cons 11 rfl (isV _) (stab_isV _) (rgV (li := [(84, _)]) rfl (w_yes 83 rfl (by kernel_rfl) (by kernel_rfl) (at_dep rfl rfl rfl)) ⟨g_dep 9 (by kernel_rfl) (at_dep rfl rfl rfl), trivial⟩ (fun w hw => rn_load Try.isAgg23 rfl ((below_agree hw 0).cell (Nat.zero_le _) (cell_own (hS.at_ 0 rfl) rfl))) (at_top rfl)) ?_
            refine bl_cons 12 rfl (isV _) (stab_isV _) (rgV (li := [(6, _)]) rfl (w_yes 83 rfl (by kernel_rfl) (by kernel_rfl) (at_dep rfl rfl rfl)) ⟨g_fr (by kernel_rfl) rfl, trivial⟩ (fun w hw => rn_move rfl) (at_top rfl)) ?_
            refine bl_cons 13 rfl (isV _) (stab_isV _) (rgV (li := [(85, _), (86, _)]) rfl (w_yes 83 rfl (by kernel_rfl) (by kernel_rfl) (at_dep rfl rfl rfl)) ⟨g_dep 10 (by kernel_rfl) (at_dep rfl rfl rfl), g_dep 11 (by kernel_rfl) (at_dep rfl rfl rfl), trivial⟩ (fun w hw => rn_indexA  Try.underlying23 Try.sizeOf3 rfl rfl rfl (by omega) rfl) (at_top rfl)) ?_
            refine bl_cons 14 rfl (isV _) (stab_isV _) (rgV (li := [(87, _)]) rfl (w_yes 83 rfl (by kernel_rfl) (by kernel_rfl) (at_dep rfl rfl rfl)) ⟨g_dep 12 (by kernel_rfl) (at_dep rfl rfl rfl), trivial⟩ (fun w hw => rn_load Try.isAgg3 rfl ((below_agree hw 0).cell (Nat.zero_le _) (k2))) (at_top rfl)) ?_
            refine bl_cons 15 rfl (isV _) (stab_isV _) (rgV (li := [(4, _)]) rfl (w_yes 83 rfl (by kernel_rfl) (by kernel_rfl) (at_dep rfl rfl rfl)) ⟨g_fr (by kernel_rfl) rfl, trivial⟩ (fun w hw => rn_move rfl) (at_top rfl)) ?_
            refine bl_cons 16 rfl (isV (.bool true)) (stab_isV _) (rg_call [isV _, isV _] rfl gr_goes_29 (w_yes 83 rfl (by kernel_rfl) (by kernel_rfl) (at_dep rfl rfl rfl)) ⟨p_tmp (g_dep 13 (by kernel_rfl) (at_dep rfl rfl rfl)), p_tmp (g_dep 14 (by kernel_rfl) (at_dep rfl rfl rfl)), trivial⟩ (fun vs w' hb hh => by have e := holds_isV (us := [_, _]) hh; subst e; exact (in_is _ _ _).mono fun e w2 h => ⟨_, by rw [h.1, h2], rfl, h.2⟩) (at_top rfl)) ?_
            refine bl_cons 17 rfl (isV _) (stab_isV _) (rgV (li := [(90, _)]) rfl (w_yes 83 rfl (by kernel_rfl) (by kernel_rfl) (at_dep rfl rfl rfl)) ⟨g_dep 15 (by kernel_rfl) (at_dep rfl rfl rfl), trivial⟩ (fun w hw => rn_not rfl) (at_top rfl)) ?_
            refine bl_cons 18 rfl (isV _) (stab_isV _) (rgV (li := [(83, _), (91, _)]) rfl (w_free rfl) ⟨g_dep 8 (by kernel_rfl) (at_dep rfl rfl rfl), g_dep 16 (by kernel_rfl) (at_dep rfl rfl rfl), trivial⟩ (fun w hw => rn_pickF rfl rfl) (at_top rfl)) ?_
            refine bl_cons 19 rfl (isV _) (stab_isV _) (rgV (li := [(92, _)]) rfl (w_free rfl) ⟨g_dep 17 (by kernel_rfl) (at_dep rfl rfl rfl), trivial⟩ (fun w hw => rn_move rfl) (at_top rfl)) ?_
            refine bl_cons 20 rfl (isV _) (stab_isV _) (rgV (li := [(1, _)]) rfl (w_yes 93 rfl (by kernel_rfl) (by kernel_rfl) (at_dep rfl rfl rfl)) ⟨g_fr (by kernel_rfl) rfl, trivial⟩ (fun w hw => rn_field (o' := 5) gr_fa_29_5 rfl rfl) (at_top rfl)) ?_
            refine bl_cons 21 rfl (isV _) (stab_isV _) (rgV (li := [(94, _)]) rfl (w_yes 93 rfl (by kernel_rfl) (by kernel_rfl) (at_dep rfl rfl rfl)) ⟨g_dep 19 (by kernel_rfl) (at_dep rfl rfl rfl), trivial⟩ (fun w hw => rn_load Try.isAgg23 rfl ((below_agree hw 0).cell (Nat.zero_le _) (cell_own (hS.at_ 0 rfl) rfl))) (at_top rfl)) ?_
            refine bl_cons 22 rfl (isV _) (stab_isV _) (rgV (li := [(1, _)]) rfl (w_yes 93 rfl (by kernel_rfl) (by kernel_rfl) (at_dep rfl rfl rfl)) ⟨g_fr (by kernel_rfl) rfl, trivial⟩ (fun w hw => rn_field (o' := 2) gr_fa_29_2 rfl rfl) (at_top rfl)) ?_
            refine bl_cons 23 rfl (isV _) (stab_isV _) (rgV (li := [(96, _)]) rfl (w_yes 93 rfl (by kernel_rfl) (by kernel_rfl) (at_dep rfl rfl rfl)) ⟨g_dep 21 (by kernel_rfl) (at_dep rfl rfl rfl), trivial⟩ (fun w hw => rn_load Try.isAgg23 rfl ((below_agree hw 0).cell (Nat.zero_le _) (cell_own (hS.at_ 0 rfl) rfl))) (at_top rfl)) ?_
            refine bl_cons 24 rfl (isV _) (stab_isV _) (rgV (li := [(6, _)]) rfl (w_yes 93 rfl (by kernel_rfl) (by kernel_rfl) (at_dep rfl rfl rfl)) ⟨g_fr (by kernel_rfl) rfl, trivial⟩ (fun w hw => rn_move rfl) (at_top rfl)) ?_
            refine bl_cons 25 rfl (isV _) (stab_isV _) (rgV (li := [(97, _), (98, _)]) rfl (w_yes 93 rfl (by kernel_rfl) (by kernel_rfl) (at_dep rfl rfl rfl)) ⟨g_dep 22 (by kernel_rfl) (at_dep rfl rfl rfl), g_dep 23 (by kernel_rfl) (at_dep rfl rfl rfl), trivial⟩ (fun w hw => rn_indexA  Try.underlying23 Try.sizeOf3 rfl rfl rfl (by omega) rfl) (at_top rfl)) ?_
            refine bl_cons 26 rfl (isV _) (stab_isV _) (rgV (li := [(99, _)]) rfl (w_yes 93 rfl (by kernel_rfl) (by kernel_rfl) (at_dep rfl rfl rfl)) ⟨g_dep 24 (by kernel_rfl) (at_dep rfl rfl rfl), trivial⟩ (fun w hw => rn_load Try.isAgg3 rfl ((below_agree hw 0).cell (Nat.zero_le _) (k1))) (at_top rfl)) ?_
            refine bl_cons 27 rfl (isV _) (stab_isV _) (rgV (li := [(95, _), (100, _)]) rfl (w_yes 93 rfl (by kernel_rfl) (by kernel_rfl) (at_dep rfl rfl rfl)) ⟨g_dep 20 (by kernel_rfl) (at_dep rfl rfl rfl), g_dep 25 (by kernel_rfl) (at_dep rfl rfl rfl), trivial⟩ (fun w hw => rn_indexA (j := q1) Try.underlying23 Try.sizeOf3 rfl rfl (by omega) (by omega) rfl) (at_top rfl)) ?_
            refine bl_cons 28 rfl (isV _) (stab_isV _) (rgV (li := [(101, _)]) rfl (w_yes 93 rfl (by kernel_rfl) (by kernel_rfl) (at_dep rfl rfl rfl)) ⟨g_dep 26 (by kernel_rfl) (at_dep rfl rfl rfl), trivial⟩ (fun w hw => rn_load Try.isAgg3 rfl ((below_agree hw 0).cell (Nat.zero_le _) (k3))) (at_top rfl)) ?_
            refine bl_cons 29 rfl (isV _) (stab_isV _) (rgV (li := [(6, _)]) rfl (w_yes 93 rfl (by kernel_rfl) (by kernel_rfl) (at_dep rfl rfl rfl)) ⟨g_fr (by kernel_rfl) rfl, trivial⟩ (fun w hw => rn_move rfl) (at_top rfl)) ?_
            refine bl_cons 30 rfl (isV (.bool false)) (stab_isV _) (rgVe (li := [(102, _), (103, _)]) rfl (w_yes 93 rfl (by kernel_rfl) (by kernel_rfl) (at_dep rfl rfl rfl)) ⟨g_dep 27 (by kernel_rfl) (at_dep rfl rfl rfl), g_dep 28 (by kernel_rfl) (at_dep rfl rfl rfl), trivial⟩ (fun w hw => rn_neq rfl rfl) (by rw [decide_eq_false (not_not_intro hee)]) (at_top rfl)) ?_
            refine bl_cons 31 rfl (isV _) (stab_isV _) (rgV (li := [(93, _), (104, _)]) rfl (w_free rfl) ⟨g_dep 18 (by kernel_rfl) (at_dep rfl rfl rfl), g_dep 29 (by kernel_rfl) (at_dep rfl rfl rfl), trivial⟩ (fun w hw => rn_pickF rfl rfl) (at_top rfl)) ?_
            refine bl_cons 32 rfl (isV _) (stab_isV _) (rgV (li := [(105, _)]) rfl (w_free rfl) ⟨g_dep 30 (by kernel_rfl) (at_dep rfl rfl rfl), trivial⟩ (fun w hw => rn_move rfl) (at_top rfl)) ?_
            refine bl_cons 33 rfl (isV _) (stab_isV _) (rgV (li := [(1, _)]) rfl (w_yes 106 rfl (by kernel_rfl) (by kernel_rfl) (at_dep rfl rfl rfl)) ⟨g_fr (by kernel_rfl) rfl, trivial⟩ (fun w hw => rn_field (o' := 5) gr_fa_29_5 rfl rfl) (at_top rfl)) ?_
            refine bl_cons 34 rfl (isV _) (stab_isV _) (rgV (li := [(107, _)]) rfl (w_yes 106 rfl (by kernel_rfl) (by kernel_rfl) (at_dep rfl rfl rfl)) ⟨g_dep 32 (by kernel_rfl) (at_dep rfl rfl rfl), trivial⟩ (fun w hw => rn_load Try.isAgg23 rfl ((below_agree hw 0).cell (Nat.zero_le _) (cell_own (hS.at_ 0 rfl) rfl))) (at_top rfl)) ?_
            refine bl_cons 35 rfl (isV _) (stab_isV _) (rgV (li := [(1, _)]) rfl (w_yes 106 rfl (by kernel_rfl) (by kernel_rfl) (at_dep rfl rfl rfl)) ⟨g_fr (by kernel_rfl) rfl, trivial⟩ (fun w hw => rn_field (o' := 3) gr_fa_29_3 rfl rfl) (at_top rfl)) ?_
            refine bl_cons 36 rfl (isV _) (stab_isV _) (rgV (li := [(109, _)]) rfl (w_yes 106 rfl (by kernel_rfl) (by kernel_rfl) (at_dep rfl rfl rfl)) ⟨g_dep 34 (by kernel_rfl) (at_dep rfl rfl rfl), trivial⟩ (fun w hw => rn_load Try.isAgg23 rfl ((below_agree hw 0).cell (Nat.zero_le _) (cell_own (hS.at_ 0 rfl) rfl))) (at_top rfl)) ?_
            refine bl_cons 37 rfl (isV _) (stab_isV _) (rgV (li := [(6, _)]) rfl (w_yes 106 rfl (by kernel_rfl) (by kernel_rfl) (at_dep rfl rfl rfl)) ⟨g_fr (by kernel_rfl) rfl, trivial⟩ (fun w hw => rn_move rfl) (at_top rfl)) ?_
            refine bl_cons 38 rfl (isV _) (stab_isV _) (rgV (li := [(110, _), (111, _)]) rfl (w_yes 106 rfl (by kernel_rfl) (by kernel_rfl) (at_dep rfl rfl rfl)) ⟨g_dep 35 (by kernel_rfl) (at_dep rfl rfl rfl), g_dep 36 (by kernel_rfl) (at_dep rfl rfl rfl), trivial⟩ (fun w hw => rn_indexA  Try.underlying23 Try.sizeOf3 rfl rfl rfl (by omega) rfl) (at_top rfl)) ?_
            refine bl_cons 39 rfl (isV _) (stab_isV _) (rgV (li := [(112, _)]) rfl (w_yes 106 rfl (by kernel_rfl) (by kernel_rfl) (at_dep rfl rfl rfl)) ⟨g_dep 37 (by kernel_rfl) (at_dep rfl rfl rfl), trivial⟩ (fun w hw => rn_load Try.isAgg3 rfl ((below_agree hw 0).cell (Nat.zero_le _) (k2))) (at_top rfl)) ?_
            refine bl_cons 40 rfl (isV _) (stab_isV _) (rgV (li := [(108, _), (113, _)]) rfl (w_yes 106 rfl (by kernel_rfl) (by kernel_rfl) (at_dep rfl rfl rfl)) ⟨g_dep 33 (by kernel_rfl) (at_dep rfl rfl rfl), g_dep 38 (by kernel_rfl) (at_dep rfl rfl rfl), trivial⟩ (fun w hw => rn_indexA (j := q2) Try.underlying23 Try.sizeOf3 rfl rfl (by omega) (by omega) rfl) (at_top rfl)) ?_
            refine bl_cons 41 rfl (isV _) (stab_isV _) (rgV (li := [(114, _)]) rfl (w_yes 106 rfl (by kernel_rfl) (by kernel_rfl) (at_dep rfl rfl rfl)) ⟨g_dep 39 (by kernel_rfl) (at_dep rfl rfl rfl), trivial⟩ (fun w hw => rn_load Try.isAgg3 rfl ((below_agree hw 0).cell (Nat.zero_le _) (k4))) (at_top rfl)) ?_
            refine bl_cons 42 rfl (isV _) (stab_isV _) (rgV (li := [(6, _)]) rfl (w_yes 106 rfl (by kernel_rfl) (by kernel_rfl) (at_dep rfl rfl rfl)) ⟨g_fr (by kernel_rfl) rfl, trivial⟩ (fun w hw => rn_move rfl) (at_top rfl)) ?_
            refine bl_cons 43 rfl (isV _) (stab_isV _) (rgV (li := [(115, _), (116, _)]) rfl (w_yes 106 rfl (by kernel_rfl) (by kernel_rfl) (at_dep rfl rfl rfl)) ⟨g_dep 40 (by kernel_rfl) (at_dep rfl rfl rfl), g_dep 41 (by kernel_rfl) (at_dep rfl rfl rfl), trivial⟩ (fun w hw => rn_neq rfl rfl) (at_top rfl)) ?_
            refine bl_cons 44 rfl (isV _) (stab_isV _) (rgV (li := [(106, _), (117, _)]) rfl (w_free rfl) ⟨g_dep 31 (by kernel_rfl) (at_dep rfl rfl rfl), g_dep 42 (by kernel_rfl) (at_dep rfl rfl rfl), trivial⟩ (fun w hw => rn_pickF rfl rfl) (at_top rfl)) ?_
            refine bl_nil ?_
            intro W8 hbR hS'
            clear hS; have hS := hS'; clear hS'
            refine fin_v ?_
            refine fin_v ?_
            refine fin_v ?_
            refine fin_v ?_
            refine fin_v ?_
            refine fin_v ?_
            refine fin_v ?_
            refine fin_v ?_
            refine fin_v ?_
            refine fin_v ?_
            refine fin_v ?_
            refine fin_v ?_
            refine fin_v ?_
            refine fin_v ?_
            refine fin_v ?_
            refine fin_v ?_
            refine fin_v ?_
            refine fin_v ?_
            refine fin_v ?_
            refine fin_v ?_
            refine fin_v ?_
            refine fin_v ?_
            refine fin_v ?_
            refine fin_v ?_
            refine fin_v ?_
            refine fin_v ?_
            refine fin_v ?_
            refine fin_v ?_
            refine fin_v ?_
            refine fin_v ?_
            refine fin_v ?_
            refine fin_v ?_
            refine fin_v ?_
            refine fin_v ?_
            refine fin_v ?_
            refine fin_v ?_
            refine fin_v ?_
            refine fin_v ?_
            refine fin_v ?_
            refine fin_v ?_
            refine fin_v ?_
            refine fin_v ?_
            refine fin_v ?_
            refine fin_v ?_
            refine fin_nil ?_
            refine XF.thenN ?_
            refine condF rfl (fun hc => ?_) (fun hc => ?_)
            ·have hc118 := hc; clear hc
             have hne : ¬ y2 = (i : Int) := of_decide_eq_true hc118
             refine seqF (regF ?_)
             refine op_assign rfl rfl ?_
             refine endF (XF.thenN ?_)
             refine retF ?_
             refine XF.blkR ?_
             refine XF.thenR ?_
             refine XF.thenR ?_
             refine XF.blkR ?_
             refine XF.thenR ?_
             refine XF.res (res1 Try.results27 rfl) ?_
             exact ⟨gr_rbool (by unfold headsB; dsimp only; rw [if_neg (by omega), if_neg (by omega), if_neg (by omega), if_neg (by omega), if_neg (by omega), if_neg (by omega), if_neg (by rw [hmn]; simp), if_neg (by omega), if_neg (by rw [hall]; simp), if_pos (range_false hi1 (by show (nodeB os ol es i && nodeB os ol xs i) = false; rw [nodeB_at hn2 h2 (by rw [Int.toNat_natCast]; exact hy2), decide_eq_false hne, Bool.and_false]))]), hS.below⟩
            ·have hc118 := hc; clear hc
             have hff : y2 = (i : Int) := Decidable.of_not_not (of_decide_eq_false hc118)
             refine skipF ?_
             refine XF.blkN ?_
             refine XF.thenN ?_
             refine regF ?_
             refine op_move rfl rfl ?_
             refine op_add rfl rfl (IntWalk.i64_in _ (by omega)) rfl ?_
             refine op_assign rfl rfl ?_
             refine endF ?_
             exact XF.round (pl - (i + 1)) [(1, _), (3, _), (4, _), (6, _)] (by omega) ⟨rfl, rfl, rfl, rfl, trivial⟩ ⟨i + 1, by omega, rfl, rfl, range_take hi1 hpr (by show (nodeB os ol es i && nodeB os ol xs i) = true; rw [nodeB_at hn1 h1 (by rw [Int.toNat_natCast]; exact hy1), nodeB_at hn2 h2 (by rw [Int.toNat_natCast]; exact hy2), decide_eq_true hee, decide_eq_true hff]; rfl), hS.clear⟩
          ·have hc72 := of_decide_eq_false hc; clear hc
           have hpp : i = pl := by omega
           rw [hpp] at hpr
           refine exitF ?_
           refine XF.thenX ?_
           refine XF.thenX ?_
           refine XF.blkX ?_
           refine XF.thenN ?_
           refine seqF ?_
           refine seqF (regF ?_)
           refine op_assign rfl rfl ?_
           refine endF (XF.thenN ?_)
           refine blockF ?_
           refine loopF (fun m l W => ∃ i : Nat, i ≤ tl ∧ m = tl - i ∧ l = [(1, .pointer (some ⟨B1, 0, none⟩)), (3, .int .i64 (pl : Int)), (7, .int .i64 (i : Int))] ∧ (ts.take i).all (fun u => gr_inQ u.pr pl) = true ∧ St w [(B1, [.slice va vl vc, .slice pa pl pc, .slice ea el ec, .slice xa xl xc, .int .i64 mn, .slice oa ol oc, .slice sa sl sc, .slice ta tl tc, .slice na nl nc, .slice ka kl kc], 29)] [] [] W) (tl - 0) ([(1, _), (3, _), (7, _)]) ⟨rfl, rfl, rfl, trivial⟩ (⟨0, Nat.zero_le _, rfl, rfl, rfl, hS.clear⟩) ?_
           clear hS
           rintro m l W ⟨i, hi, rfl, rfl, hts, hS⟩
           refine seqF ?_
           refine seqF (regF ?_)
           refine op_move rfl rfl ?_
           refine op_field (o' := 7) gr_fa_29_7 rfl rfl rfl ?_
           refine op_load Try.isAgg25 rfl (cell_own (hS.at_ 0 rfl) rfl) rfl ?_
           refine op_len Try.underlying25 rfl rfl ?_
           refine op_lss rfl rfl rfl ?_
           refine endF (XF.thenN ?_)
           refine condF rfl (fun hc => ?_) (fun hc => ?_)
           ·have hc123 := of_decide_eq_true hc; clear hc
            have hk1 : i < tl := by omega
            obtain ⟨b, off, u, rfl, hy, hyc⟩ := ht.get (i := i) (by omega)
            have k1 := (CellsAt.agree hS.agree (Nat.zero_le _) hyc).2.1
            refine skipF ?_
            refine XF.thenN ?_
            refine seqF ?_
            refine blockF ?_
            refine seqF (regF ?_)
            refine op_field (o' := 7) gr_fa_29_7 rfl rfl rfl ?_
            refine op_load Try.isAgg25 rfl (cell_own (hS.at_ 0 rfl) rfl) rfl ?_
            refine op_move rfl rfl ?_
            refine op_indexA  Try.underlying25 Try.sizeOf54 rfl rfl rfl (by omega) rfl rfl ?_
            refine op_field gr_fa_54_1 rfl rfl rfl ?_
            refine op_load Try.isAgg3 rfl (k1) rfl ?_
            refine op_move rfl rfl ?_
            refine op_call (vs := [_, _]) hS gr_goes_29 rfl (in_is u.pr pl _) rfl ?_
            rintro e W9 ⟨rfl, hb⟩
            refine ⟨_, rfl, hb, fun hS' => ?_⟩
            clear hS; have hS := hS'; clear hS' hb
            refine op_not rfl rfl ?_
            refine endF (XF.thenN ?_)
            refine condF rfl (fun hc => ?_) (fun hc => ?_)
            ·have hc134 := hc; clear hc
             refine seqF (regF ?_)
             refine op_assign rfl rfl ?_
             refine endF (XF.thenN ?_)
             refine retF ?_
             refine XF.blkR ?_
             refine XF.thenR ?_
             refine XF.thenR ?_
             refine XF.blkR ?_
             refine XF.thenR ?_
             refine XF.res (res1 Try.results27 rfl) ?_
             exact ⟨gr_rbool (by unfold headsB; dsimp only; rw [if_neg (by omega), if_neg (by omega), if_neg (by omega), if_neg (by omega), if_neg (by omega), if_neg (by omega), if_neg (by rw [hmn]; simp), if_neg (by omega), if_neg (by rw [hall]; simp), if_neg (by rw [hpr]; simp), gr_all_false_at hy (by simpa using hc134)]), hS.below⟩
            ·have hc134 := hc; clear hc
             refine skipF ?_
             refine XF.blkN ?_
             refine XF.thenN ?_
             refine regF ?_
             refine op_move rfl rfl ?_
             refine op_add rfl rfl (IntWalk.i64_in _ (by omega)) rfl ?_
             refine op_assign rfl rfl ?_
             refine endF ?_
             exact XF.round (tl - (i + 1)) [(1, _), (3, _), (7, _)] (by omega) ⟨rfl, rfl, rfl, trivial⟩ ⟨i + 1, by omega, rfl, rfl, gr_all_take_at hy hts (by simpa using hc134), hS.clear⟩
           ·have hc123 := of_decide_eq_false hc; clear hc
            rw [List.take_of_length_le (by omega)] at hts
            refine exitF ?_
            refine XF.thenX ?_
            refine XF.thenX ?_
            refine XF.blkX ?_
            refine XF.thenN ?_
            refine seqF (regF ?_)
            refine op_assign rfl rfl ?_
            refine endF (XF.thenN ?_)
            refine retF ?_
            refine XF.res (res1 Try.results27 rfl) ?_
            exact ⟨gr_rbool (by unfold headsB; dsimp only; rw [if_neg (by omega), if_neg (by omega), if_neg (by omega), if_neg (by omega), if_neg (by omega), if_neg (by omega), if_neg (by rw [hmn]; simp), if_neg (by omega), if_neg (by rw [hall]; simp), if_neg (by rw [hpr]; simp), hts]), hS.below⟩
end Go.Proofs.Ythepjghlipdcoaa
