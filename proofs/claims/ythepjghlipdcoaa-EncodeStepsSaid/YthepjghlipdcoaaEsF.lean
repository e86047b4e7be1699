import Derived.Orders
import Derived.Below
import Derived.Deep.RegionHeld
import Derived.WalkKit
import Derived.KernelRfl
import Derived.Laws.Rows
import Derived.Laws.AppendOwn
import Derived.Laws.Strings
import Derived.Laws.Small
import Derived.Lib.Hide
import Derived.IntWalk
import Derived.Laws.Tables
import Derived.Laws.Concat
import Derived.Laws.MakeOwn
import Derived.Lib.OwnBridge
import Derived.Laws.IdiomStrings
import Derived.Lib.ItoaLen
import Derived.Lib.UnsafeStr
import Derived.Lib.AppendIntMem
import Derived.Test.YthepjghlipdcoaaRows
import Derived.RangeFuncNested
import Derived.RangeFuncBound
import Derived.RangeFuncCalls
import Derived.RangeFuncLeaves
import Derived.OwnWalkIn
import Derived.TacticsInMore
import Derived.LoopNIn
import Derived.Shelf.Abstract
import Derived.Lib.SmallJoins
import Derived.Deep.Slices
import Derived.Deep.Fields
import Derived.ChangeSlices
import Derived.ChangeSame
import Derived.ProofKit
import Derived.Test.YthepjghlipdcoaaProg
import Derived.Lib.TrailingZeros
import Derived.Lib.LaidTab
import Derived.Lib.ItoaNum
import Derived.Stop.LaidErr
import Derived.WalkSmall
import Derived.LaidMore
import Derived.Shelf.Spec.TrailingZeros
import Derived.Laws.BitsAllLaws
import Derived.Laws.Bits64
import Derived.Deep.QuietTactic
import Derived.BigQuiet
import Derived.RegionTactic
import Derived.BigRegion
import Derived.Deep.RegionHeld3
import Derived.ChangeAlike
import Derived.Laws.Bits128
import Derived.Deep.AppendLies
import Derived.Sort.Grow
import Derived.Shelf.RegionOpen
import Derived.LoopIn
import Derived.Maps.AppendAt
import Derived.Shelf.Lay
import Derived.Shelf.LaySoft
import Derived.Lib.OthersKept
import Derived.StillTailTactics
import Derived.Deep.RegionLaw
import Derived.Deep.DeepCutAuto
import Derived.Deep.CutRange
import Derived.Deep.RegionWith
import Derived.Laws.Bits64b
import Derived.Deep.DrawnRows
import Derived.Laws.OwnMore
import Derived.OwnWalk
import Derived.WalkSpells
import Derived.Lib.SliceRun
import Derived.Lib.Join
import Derived.Test.YthepjghlipdcoaaEsA
import Derived.Test.YthepjghlipdcoaaEsB
import Derived.Test.YthepjghlipdcoaaEsC
import Derived.Test.YthepjghlipdcoaaEsD
import Derived.Test.YthepjghlipdcoaaEsE
set_option maxRecDepth 100000
set_option maxHeartbeats 4000000
set_option linter.unusedVariables false
set_option linter.unusedVariables false
set_option linter.unusedSimpArgs false
set_option linter.unusedSectionVars false
set_option linter.unnecessarySimpa false
namespace Go.Proofs.Ythepjghlipdcoaa
open Go Go.RowKit
theorem gr_stepR_c (va : Option Addr) (vl : Nat) (vc : Nat) (pa : Option Addr) (pl : Nat) (pc : Nat) (ea : Option Addr) (el : Nat) (ec : Nat) (es : List Int) (xa : Option Addr) (xl : Nat) (xc : Nat) (xs : List Int) (mn : Int) (oa : Option Addr) (ol : Nat) (oc : Nat) (os : List Int) (sa : Option Addr) (sl : Nat) (sc : Nat) (ss : List TV) (ta : Option Addr) (tl : Nat) (tc : Nat) (ts : List UV) (na : Option Addr) (nl : Nat) (nc : Nat) (ns : List NV) (ka : Option Addr) (kl : Nat) (kc : Nat) (ks : List KV) (s : TV) (w : World) (he : RowI w ea es) (hel : es.length = el) (hx : RowI w xa xs) (hxl : xs.length = xl) (ho : RowI w oa os) (hol : os.length = ol) (hs : RowL TV.sev 7 w sa ss) (hsl : ss.length = sl) (ht : RowL UV.four 4 w ta ts) (htl : ts.length = tl) (hn : RowL NV.two 2 w na ns) (hnl : ns.length = nl) (hk : RowL KV.two 2 w ka ks) (hkl : ks.length = kl) (b1 : vl ≤ 5000) (b2 : pl ≤ 5000) (b3 : el ≤ 5000) (b4 : xl ≤ 5000) (b5 : ol ≤ 5000) (b6 : sl ≤ 5000) (b7 : tl ≤ 5000) (b8 : nl ≤ 5000) (b9 : kl ≤ 5000) :
  Calls Try.prog 28 #[.agg #[.slice va vl vc, .slice pa pl pc, .slice ea el ec, .slice xa xl xc, .int .i64 mn, .slice oa ol oc, .slice sa sl sc, .slice ta tl tc, .slice na nl nc, .slice ka kl kc], s.val] w (fun e w' => e = .returned (.bool (stepQ ⟨va, vl, vc, pa, pl, pc, ea, el, ec, es, xa, xl, xc, xs, mn, oa, ol, oc, os, sa, sl, sc, ss, ta, tl, tc, ts, na, nl, nc, ns, ka, kl, kc, ks⟩ s)) ∧ Below w.heap.size w w') := by
 refine enterF (args := [.agg #[.slice va vl vc, .slice pa pl pc, .slice ea el ec, .slice xa xl xc, .int .i64 mn, .slice oa ol oc, .slice sa sl sc, .slice ta tl tc, .slice na nl nc, .slice ka kl kc], s.val]) Try.func28 rfl Try.ntmps28 rfl ?_
 have hS := St.start w
 refine seqF (regF ?_)
 refine op_box (cs := [_, _, _, _, _, _, _, _, _, _]) hS rfl rfl rfl ?_
 clear hS; intro B1 W1 hS
 refine op_box (cs := [_, _, _, _, _, _, _]) hS rfl rfl rfl ?_
 clear hS; intro B2 W2 hS
 refine op_assign rfl rfl ?_
 refine endF (XF.thenN ?_)
 refine seqF ?_
 refine regB (m := 8) gr_followsM hS (by kernel_rfl) (by kernel_rfl) rfl ?_
 refine bl_cons 1 rfl (isV _) (stab_isV _) (rgV (li := [(2, _)]) rfl (w_free rfl) ⟨g_fr (by kernel_rfl) rfl, trivial⟩ (fun w hw => rn_field (o' := 5) gr_fa_29_5 rfl rfl) (at_top rfl)) ?_
 refine bl_cons 2 rfl (isV _) (stab_isV _) (rgV (li := [(7, _)]) rfl (w_free rfl) ⟨g_dep 0 (by kernel_rfl) (at_dep rfl rfl rfl), trivial⟩ (fun w hw => rn_load Try.isAgg23 rfl ((below_agree hw 0).cell (Nat.zero_le _) (cell_own (hS.at_ 1 rfl) rfl))) (at_top rfl)) ?_
 refine bl_cons 3 rfl (isV _) (stab_isV _) (rgV (li := [(8, _)]) rfl (w_free rfl) ⟨g_dep 1 (by kernel_rfl) (at_dep rfl rfl rfl), trivial⟩ (fun w hw => rn_len Try.underlying23 rfl) (at_top rfl)) ?_
 refine bl_cons 4 rfl (isV _) (stab_isV _) (rgV (li := [(2, _)]) rfl (w_free rfl) ⟨g_fr (by kernel_rfl) rfl, trivial⟩ (fun w hw => rn_field (o' := 0) gr_fa_29_0 rfl rfl) (at_top rfl)) ?_
 refine bl_cons 5 rfl (isV _) (stab_isV _) (rgV (li := [(10, _)]) rfl (w_free rfl) ⟨g_dep 3 (by kernel_rfl) (at_dep rfl rfl rfl), trivial⟩ (fun w hw => rn_load Try.isAgg22 rfl ((below_agree hw 0).cell (Nat.zero_le _) (cell_own (hS.at_ 1 rfl) rfl))) (at_top rfl)) ?_
 refine bl_cons 6 rfl (isV _) (stab_isV _) (rgV (li := [(11, _)]) rfl (w_free rfl) ⟨g_dep 4 (by kernel_rfl) (at_dep rfl rfl rfl), trivial⟩ (fun w hw => rn_len Try.underlying22 rfl) (at_top rfl)) ?_
 refine bl_cons 7 rfl (isV _) (stab_isV _) (rgV (li := [(9, _)]) rfl (w_free rfl) ⟨g_dep 2 (by kernel_rfl) (at_dep rfl rfl rfl), trivial⟩ (fun w hw => rn_assign rfl) (at_top rfl)) ?_
 refine bl_cons 8 rfl (isV _) (stab_isV _) (rgV (li := [(12, _)]) rfl (w_free rfl) ⟨g_dep 5 (by kernel_rfl) (at_dep rfl rfl rfl), trivial⟩ (fun w hw => rn_assign rfl) (at_top rfl)) ?_
 refine bl_nil ?_
 intro W3 hbR hS'
 clear hS; have hS := hS'; clear hS'
 refine fin_v ?_
 refine fin_v ?_
 refine fin_v ?_
 refine fin_v ?_
 refine fin_v ?_
 refine fin_v ?_
 refine fin_v ?_
 refine fin_v ?_
 refine fin_nil ?_
 refine XF.thenN ?_
 refine joinF (fun l W => l = [(2, .pointer (some ⟨B1, 0, none⟩)), (3, .pointer (some ⟨B2, 0, none⟩)), (6, .int .i64 (vl : Int))] ∧ stepQ ⟨va, vl, vc, pa, pl, pc, ea, el, ec, es, xa, xl, xc, xs, mn, oa, ol, oc, os, sa, sl, sc, ss, ta, tl, tc, ts, na, nl, nc, ns, ka, kl, kc, ks⟩ s = refK ⟨va, vl, vc, pa, pl, pc, ea, el, ec, es, xa, xl, xc, xs, mn, oa, ol, oc, os, sa, sl, sc, ss, ta, tl, tc, ts, na, nl, nc, ns, ka, kl, kc, ks⟩ s ∧ St w [(B2, [.int .i64 s.f, .int .i64 s.t, .int .i64 s.k, .int .i64 s.x, .int .i64 s.y, .int .i64 s.kk, .int .i64 s.s], 50), (B1, [.slice va vl vc, .slice pa pl pc, .slice ea el ec, .slice xa xl xc, .int .i64 mn, .slice oa ol oc, .slice sa sl sc, .slice ta tl tc, .slice na nl nc, .slice ka kl kc], 29)] [] [] W) ?_ ?_
 ·clear hS
  rintro _ W ⟨rfl, hrk, hS⟩
  refine seqF ?_
  refine seqF (regF ?_)
  refine op_field (o' := 2) gr_fa_50_2 rfl rfl rfl ?_
  refine op_load Try.isAgg48 rfl (cell_own (hS.at_ 0 rfl) rfl) rfl ?_
  refine endF (XF.thenN ?_)
  refine blockF ?_
  refine seqF (regF ?_)
  refine op_eql rfl rfl rfl ?_
  refine op_assign rfl rfl ?_
  refine endF (XF.thenN ?_)
  refine condF rfl (fun hc => ?_) (fun hc => ?_)
  ·have hc62 := of_decide_eq_true hc; clear hc
   have h1 : s.k = 1 := hc62
   refine seqF (regF ?_)
   refine op_field (o' := 3) gr_fa_50_3 rfl rfl rfl ?_
   refine op_load Try.isAgg3 rfl (cell_own (hS.at_ 0 rfl) rfl) rfl ?_
   refine op_eql rfl rfl rfl ?_
   refine op_move rfl rfl ?_
   refine op_cases (d := 67) rfl (fun hc => ?_) (fun hc => ?_)
   ·have hg67 := of_decide_eq_true hc; clear hc
    refine op_wantedF (d := 67) rfl rfl ?_
    refine op_field (o' := 4) gr_fa_50_4 rfl rfl rfl ?_
    refine op_wantedF (d := 67) rfl rfl ?_
    refine op_load Try.isAgg3 rfl (cell_own (hS.at_ 0 rfl) rfl) rfl ?_
    refine op_wantedF (d := 67) rfl rfl ?_
    refine op_eql rfl rfl rfl ?_
    refine op_pickT rfl rfl rfl ?_
    refine op_assign rfl rfl ?_
    refine endF (XF.thenN ?_)
    refine retF ?_
    refine XF.blkR ?_
    refine XF.thenR ?_
    refine XF.res (res1 Try.results28 rfl) ?_
    exact ⟨gr_rbool (by rw [hrk]; unfold refK; dsimp only; rw [if_pos h1, decide_eq_true hg67]; rfl), hS.below⟩
   ·have hg67 := of_decide_eq_false hc; clear hc
    refine op_notF (d := 67) rfl rfl rfl rfl ?_
    refine op_notF (d := 67) rfl rfl rfl rfl ?_
    refine op_notF (d := 67) rfl rfl rfl rfl ?_
    refine op_pickF rfl rfl rfl ?_
    refine op_assign rfl rfl ?_
    refine endF (XF.thenN ?_)
    refine retF ?_
    refine XF.blkR ?_
    refine XF.thenR ?_
    refine XF.res (res1 Try.results28 rfl) ?_
    exact ⟨gr_rbool (by rw [hrk]; unfold refK; dsimp only; rw [if_pos h1, decide_eq_false hg67]; rfl), hS.below⟩
  ·have hc62 := of_decide_eq_false hc; clear hc
   have n1 : ¬ s.k = 1 := hc62
   refine seqF ?_
   refine seqF (regF ?_)
   refine op_eql rfl rfl rfl ?_
   refine op_assign rfl rfl ?_
   refine endF (XF.thenN ?_)
   refine condF rfl (fun hc => ?_) (fun hc => ?_)
   ·have hc72 := of_decide_eq_true hc; clear hc
    refine skipF ?_
    refine XF.thenN ?_
    refine condF rfl (fun hc => ?_) (fun hc => absurd (of_decide_eq_false hc) (by exact fun h => h hc72))
    have hc := of_decide_eq_true hc
    refine seqF (regF ?_)
    refine op_field (o' := 3) gr_fa_50_3 rfl rfl rfl ?_
    refine op_load Try.isAgg3 rfl (cell_own (hS.at_ 0 rfl) rfl) rfl ?_
    refine op_move rfl rfl ?_
    refine op_call (vs := [_, _]) hS gr_goes_29 rfl (in_is s.x vl _) rfl ?_
    rintro e W4 ⟨rfl, hb⟩
    refine ⟨_, rfl, hb, fun hS' => ?_⟩
    clear hS; have hS := hS'; clear hS' hb
    refine op_move rfl rfl ?_
    refine op_cases (d := 81) rfl (fun hc => ?_) (fun hc => ?_)
    ·have hg81 := hc; clear hc
     have hxx : gr_inQ s.x vl = true := by simpa using hg81
     refine op_wantedF (d := 81) rfl rfl ?_
     refine op_field (o' := 4) gr_fa_50_4 rfl rfl rfl ?_
     refine op_wantedF (d := 81) rfl rfl ?_
     refine op_load Try.isAgg3 rfl (cell_own (hS.at_ 0 rfl) rfl) rfl ?_
     refine op_wantedF (d := 81) rfl rfl ?_
     refine op_eql rfl rfl rfl ?_
     refine op_pickT rfl rfl rfl ?_
     refine op_assign rfl rfl ?_
     refine endF (XF.thenN ?_)
     refine retF ?_
     refine XF.blkR ?_
     refine XF.thenR ?_
     refine XF.res (res1 Try.results28 rfl) ?_
     exact ⟨gr_rbool (by rw [hrk]; unfold refK; dsimp only; rw [if_neg n1, if_pos (by first | exact .inl hc72 | exact .inr (.inl hc72) | exact .inr (.inr (.inl hc72)) | exact .inr (.inr (.inr hc72))), hxx]; rfl), hS.below⟩
    ·have hg81 := hc; clear hc
     have hxx : gr_inQ s.x vl = false := by simpa using hg81
     refine op_notF (d := 81) rfl rfl rfl rfl ?_
     refine op_notF (d := 81) rfl rfl rfl rfl ?_
     refine op_notF (d := 81) rfl rfl rfl rfl ?_
     refine op_pickF rfl rfl rfl ?_
     refine op_assign rfl rfl ?_
     refine endF (XF.thenN ?_)
     refine retF ?_
     refine XF.blkR ?_
     refine XF.thenR ?_
     refine XF.res (res1 Try.results28 rfl) ?_
     exact ⟨gr_rbool (by rw [hrk]; unfold refK; dsimp only; rw [if_neg n1, if_pos (by first | exact .inl hc72 | exact .inr (.inl hc72) | exact .inr (.inr (.inl hc72)) | exact .inr (.inr (.inr hc72))), hxx]; rfl), hS.below⟩
   ·have hc72 := of_decide_eq_false hc; clear hc
    have n2 : ¬ s.k = 2 := hc72
    refine seqF (regF ?_)
    refine op_eql rfl rfl rfl ?_
    refine op_assign rfl rfl ?_
    refine endF (XF.thenN ?_)
    refine condF rfl (fun hc => ?_) (fun hc => ?_)
    ·have hc72 := of_decide_eq_true hc; clear hc
     refine skipF ?_
     refine XF.thenN ?_
     refine condF rfl (fun hc => ?_) (fun hc => absurd (of_decide_eq_false hc) (by exact fun h => h hc72))
     have hc := of_decide_eq_true hc
     refine seqF (regF ?_)
     refine op_field (o' := 3) gr_fa_50_3 rfl rfl rfl ?_
     refine op_load Try.isAgg3 rfl (cell_own (hS.at_ 0 rfl) rfl) rfl ?_
     refine op_move rfl rfl ?_
     refine op_call (vs := [_, _]) hS gr_goes_29 rfl (in_is s.x vl _) rfl ?_
     rintro e W5 ⟨rfl, hb⟩
     refine ⟨_, rfl, hb, fun hS' => ?_⟩
     clear hS; have hS := hS'; clear hS' hb
     refine op_move rfl rfl ?_
     refine op_cases (d := 81) rfl (fun hc => ?_) (fun hc => ?_)
     ·have hg81 := hc; clear hc
      have hxx : gr_inQ s.x vl = true := by simpa using hg81
      refine op_wantedF (d := 81) rfl rfl ?_
      refine op_field (o' := 4) gr_fa_50_4 rfl rfl rfl ?_
      refine op_wantedF (d := 81) rfl rfl ?_
      refine op_load Try.isAgg3 rfl (cell_own (hS.at_ 0 rfl) rfl) rfl ?_
      refine op_wantedF (d := 81) rfl rfl ?_
      refine op_eql rfl rfl rfl ?_
      refine op_pickT rfl rfl rfl ?_
      refine op_assign rfl rfl ?_
      refine endF (XF.thenN ?_)
      refine retF ?_
      refine XF.blkR ?_
      refine XF.thenR ?_
      refine XF.res (res1 Try.results28 rfl) ?_
      exact ⟨gr_rbool (by rw [hrk]; unfold refK; dsimp only; rw [if_neg n1, if_pos (by first | exact .inl hc72 | exact .inr (.inl hc72) | exact .inr (.inr (.inl hc72)) | exact .inr (.inr (.inr hc72))), hxx]; rfl), hS.below⟩
     ·have hg81 := hc; clear hc
      have hxx : gr_inQ s.x vl = false := by simpa using hg81
      refine op_notF (d := 81) rfl rfl rfl rfl ?_
      refine op_notF (d := 81) rfl rfl rfl rfl ?_
      refine op_notF (d := 81) rfl rfl rfl rfl ?_
      refine op_pickF rfl rfl rfl ?_
      refine op_assign rfl rfl ?_
      refine endF (XF.thenN ?_)
      refine retF ?_
      refine XF.blkR ?_
      refine XF.thenR ?_
      refine XF.res (res1 Try.results28 rfl) ?_
      exact ⟨gr_rbool (by rw [hrk]; unfold refK; dsimp only; rw [if_neg n1, if_pos (by first | exact .inl hc72 | exact .inr (.inl hc72) | exact .inr (.inr (.inl hc72)) | exact .inr (.inr (.inr hc72))), hxx]; rfl), hS.below⟩
    ·have hc72 := of_decide_eq_false hc; clear hc
     have n4 : ¬ s.k = 4 := hc72
     refine seqF (regF ?_)
     refine op_eql rfl rfl rfl ?_
     refine op_assign rfl rfl ?_
     refine endF (XF.thenN ?_)
     refine condF rfl (fun hc => ?_) (fun hc => ?_)
     ·have hc72 := of_decide_eq_true hc; clear hc
      refine skipF ?_
      refine XF.thenN ?_
      refine condF rfl (fun hc => ?_) (fun hc => absurd (of_decide_eq_false hc) (by exact fun h => h hc72))
      have hc := of_decide_eq_true hc
      refine seqF (regF ?_)
      refine op_field (o' := 3) gr_fa_50_3 rfl rfl rfl ?_
      refine op_load Try.isAgg3 rfl (cell_own (hS.at_ 0 rfl) rfl) rfl ?_
      refine op_move rfl rfl ?_
      refine op_call (vs := [_, _]) hS gr_goes_29 rfl (in_is s.x vl _) rfl ?_
      rintro e W6 ⟨rfl, hb⟩
      refine ⟨_, rfl, hb, fun hS' => ?_⟩
      clear hS; have hS := hS'; clear hS' hb
      refine op_move rfl rfl ?_
      refine op_cases (d := 81) rfl (fun hc => ?_) (fun hc => ?_)
      ·have hg81 := hc; clear hc
       have hxx : gr_inQ s.x vl = true := by simpa using hg81
       refine op_wantedF (d := 81) rfl rfl ?_
       refine op_field (o' := 4) gr_fa_50_4 rfl rfl rfl ?_
       refine op_wantedF (d := 81) rfl rfl ?_
       refine op_load Try.isAgg3 rfl (cell_own (hS.at_ 0 rfl) rfl) rfl ?_
       refine op_wantedF (d := 81) rfl rfl ?_
       refine op_eql rfl rfl rfl ?_
       refine op_pickT rfl rfl rfl ?_
       refine op_assign rfl rfl ?_
       refine endF (XF.thenN ?_)
       refine retF ?_
       refine XF.blkR ?_
       refine XF.thenR ?_
       refine XF.res (res1 Try.results28 rfl) ?_
       exact ⟨gr_rbool (by rw [hrk]; unfold refK; dsimp only; rw [if_neg n1, if_pos (by first | exact .inl hc72 | exact .inr (.inl hc72) | exact .inr (.inr (.inl hc72)) | exact .inr (.inr (.inr hc72))), hxx]; rfl), hS.below⟩
      ·have hg81 := hc; clear hc
       have hxx : gr_inQ s.x vl = false := by simpa using hg81
       refine op_notF (d := 81) rfl rfl rfl rfl ?_
       refine op_notF (d := 81) rfl rfl rfl rfl ?_
       refine op_notF (d := 81) rfl rfl rfl rfl ?_
       refine op_pickF rfl rfl rfl ?_
       refine op_assign rfl rfl ?_
       refine endF (XF.thenN ?_)
       refine retF ?_
       refine XF.blkR ?_
       refine XF.thenR ?_
       refine XF.res (res1 Try.results28 rfl) ?_
       exact ⟨gr_rbool (by rw [hrk]; unfold refK; dsimp only; rw [if_neg n1, if_pos (by first | exact .inl hc72 | exact .inr (.inl hc72) | exact .inr (.inr (.inl hc72)) | exact .inr (.inr (.inr hc72))), hxx]; rfl), hS.below⟩
     ·have hc72 := of_decide_eq_false hc; clear hc
      have n5 : ¬ s.k = 5 := hc72
      refine regF ?_
      refine op_eql rfl rfl rfl ?_
      refine op_assign rfl rfl ?_
      refine endF (XF.thenN ?_)
      refine condF rfl (fun hc => ?_) (fun hc => ?_)
      ·have hc72 := of_decide_eq_true hc; clear hc
       refine seqF (regF ?_)
       refine op_field (o' := 3) gr_fa_50_3 rfl rfl rfl ?_
       refine op_load Try.isAgg3 rfl (cell_own (hS.at_ 0 rfl) rfl) rfl ?_
       refine op_move rfl rfl ?_
       refine op_call (vs := [_, _]) hS gr_goes_29 rfl (in_is s.x vl _) rfl ?_
       rintro e W7 ⟨rfl, hb⟩
       refine ⟨_, rfl, hb, fun hS' => ?_⟩
       clear hS; have hS := hS'; clear hS' hb
       refine op_move rfl rfl ?_
       refine op_cases (d := 81) rfl (fun hc => ?_) (fun hc => ?_)
       ·have hg81 := hc; clear hc
        have hxx : gr_inQ s.x vl = true := by simpa using hg81
        refine op_wantedF (d := 81) rfl rfl ?_
        refine op_field (o' := 4) gr_fa_50_4 rfl rfl rfl ?_
        refine op_wantedF (d := 81) rfl rfl ?_
        refine op_load Try.isAgg3 rfl (cell_own (hS.at_ 0 rfl) rfl) rfl ?_
        refine op_wantedF (d := 81) rfl rfl ?_
        refine op_eql rfl rfl rfl ?_
        refine op_pickT rfl rfl rfl ?_
        refine op_assign rfl rfl ?_
        refine endF (XF.thenN ?_)
        refine retF ?_
        refine XF.blkR ?_
        refine XF.thenR ?_
        refine XF.res (res1 Try.results28 rfl) ?_
        exact ⟨gr_rbool (by rw [hrk]; unfold refK; dsimp only; rw [if_neg n1, if_pos (by first | exact .inl hc72 | exact .inr (.inl hc72) | exact .inr (.inr (.inl hc72)) | exact .inr (.inr (.inr hc72))), hxx]; rfl), hS.below⟩
       ·have hg81 := hc; clear hc
        have hxx : gr_inQ s.x vl = false := by simpa using hg81
        refine op_notF (d := 81) rfl rfl rfl rfl ?_
        refine op_notF (d := 81) rfl rfl rfl rfl ?_
        refine op_notF (d := 81) rfl rfl rfl rfl ?_
        refine op_pickF rfl rfl rfl ?_
        refine op_assign rfl rfl ?_
        refine endF (XF.thenN ?_)
        refine retF ?_
        refine XF.blkR ?_
        refine XF.thenR ?_
        refine XF.res (res1 Try.results28 rfl) ?_
        exact ⟨gr_rbool (by rw [hrk]; unfold refK; dsimp only; rw [if_neg n1, if_pos (by first | exact .inl hc72 | exact .inr (.inl hc72) | exact .inr (.inr (.inl hc72)) | exact .inr (.inr (.inr hc72))), hxx]; rfl), hS.below⟩
      ·have hc72 := of_decide_eq_false hc; clear hc
       have n6 : ¬ s.k = 6 := hc72
       refine seqF (regF ?_)
       refine op_eql rfl rfl rfl ?_
       refine op_assign rfl rfl ?_
       refine endF (XF.thenN ?_)
       refine condF rfl (fun hc => ?_) (fun hc => ?_)
       ·have hc86 := of_decide_eq_true hc; clear hc
        have h3 : s.k = 3 := hc86
        refine seqF (regF ?_)
        refine op_field (o' := 3) gr_fa_50_3 rfl rfl rfl ?_
        refine op_load Try.isAgg3 rfl (cell_own (hS.at_ 0 rfl) rfl) rfl ?_
        refine op_move rfl rfl ?_
        refine op_call (vs := [_, _]) hS gr_goes_29 rfl (in_is s.x vl _) rfl ?_
        rintro e W8 ⟨rfl, hb⟩
        refine ⟨_, rfl, hb, fun hS' => ?_⟩
        clear hS; have hS := hS'; clear hS' hb
        refine op_move rfl rfl ?_
        refine op_cases (d := 92) rfl (fun hc => ?_) (fun hc => ?_)
        ·have hg92 := hc; clear hc
         have hxx : gr_inQ s.x vl = true := by simpa using hg92
         refine op_wantedF (d := 92) rfl rfl ?_
         refine op_field (o' := 4) gr_fa_50_4 rfl rfl rfl ?_
         refine op_wantedF (d := 92) rfl rfl ?_
         refine op_load Try.isAgg3 rfl (cell_own (hS.at_ 0 rfl) rfl) rfl ?_
         refine op_wantedF (d := 92) rfl rfl ?_
         refine op_move rfl rfl ?_
         refine op_wantedF (d := 92) rfl rfl ?_
         refine op_call (vs := [_, _]) hS gr_goes_29 rfl (in_is s.y vl _) rfl ?_
         rintro e W9 ⟨rfl, hb⟩
         refine ⟨_, rfl, hb, fun hS' => ?_⟩
         clear hS; have hS := hS'; clear hS' hb
         refine op_pickT rfl rfl rfl ?_
         refine op_assign rfl rfl ?_
         refine endF (XF.thenN ?_)
         refine retF ?_
         refine XF.blkR ?_
         refine XF.thenR ?_
         refine XF.res (res1 Try.results28 rfl) ?_
         exact ⟨gr_rbool (by rw [hrk]; unfold refK; dsimp only; rw [if_neg n1, if_neg (by omega), if_pos h3, hxx]; rfl), hS.below⟩
        ·have hg92 := hc; clear hc
         have hxx : gr_inQ s.x vl = false := by simpa using hg92
         refine op_notF (d := 92) rfl rfl rfl rfl ?_
         refine op_notF (d := 92) rfl rfl rfl rfl ?_
         refine op_notF (d := 92) rfl rfl rfl rfl ?_
         refine op_notF (d := 92) rfl rfl rfl rfl ?_
         refine op_pickF rfl rfl rfl ?_
         refine op_assign rfl rfl ?_
         refine endF (XF.thenN ?_)
         refine retF ?_
         refine XF.blkR ?_
         refine XF.thenR ?_
         refine XF.res (res1 Try.results28 rfl) ?_
         exact ⟨gr_rbool (by rw [hrk]; unfold refK; dsimp only; rw [if_neg n1, if_neg (by omega), if_pos h3, hxx]; rfl), hS.below⟩
       ·have hc86 := of_decide_eq_false hc; clear hc
        have n3 : ¬ s.k = 3 := hc86
        refine seqF (regF ?_)
        refine op_eql rfl rfl rfl ?_
        refine op_assign rfl rfl ?_
        refine endF (XF.thenN ?_)
        refine condF rfl (fun hc => ?_) (fun hc => ?_)
        ·have hc98 := of_decide_eq_true hc; clear hc
         have h8 : s.k = 8 := hc98
         refine seqF ?_
         rcases (siteR_cases htl s) with hx0 | ⟨hx0, hy0⟩ | ⟨hx0, hy0, hin⟩ | ⟨hx0, hy0, hin, q, u, eq, hq, hu, hfr | hfr⟩
         ·skip
          refine regB (m := 41) gr_followsM hS (by kernel_rfl) (by kernel_rfl) rfl ?_
          refine bl_cons 1 rfl (isV _) (stab_isV _) (rgV (li := [(3, _)]) rfl (w_free rfl) ⟨g_fr (by kernel_rfl) rfl, trivial⟩ (fun w hw => rn_field (o' := 3) gr_fa_50_3 rfl rfl) (at_top rfl)) ?_
          refine bl_cons 2 rfl (isV _) (stab_isV _) (rgV (li := [(100, _)]) rfl (w_free rfl) ⟨g_dep 0 (by kernel_rfl) (at_dep rfl rfl rfl), trivial⟩ (fun w hw => rn_load Try.isAgg3 rfl ((below_agree hw 0).cell (Nat.zero_le _) (cell_own (hS.at_ 0 rfl) rfl))) (at_top rfl)) ?_
          refine bl_cons 3 rfl (isV (.bool false)) (stab_isV _) (rgVe (li := [(101, _)]) rfl (w_free rfl) ⟨g_dep 1 (by kernel_rfl) (at_dep rfl rfl rfl), trivial⟩ (fun w hw => rn_eql rfl rfl) (by rw [decide_eq_false hx0]) (at_top rfl)) ?_
          refine bl_cons 4 rfl (isV _) (stab_isV _) (rgV (li := [(102, _)]) rfl (w_free rfl) ⟨g_dep 2 (by kernel_rfl) (at_dep rfl rfl rfl), trivial⟩ (fun w hw => rn_move rfl) (at_top rfl)) ?_
          refine bl_cons 5 rfl (isV undef) (stab_isV _) (rg_no rfl (w_no 103 rfl (by kernel_rfl) (by kernel_rfl) (at_dep rfl rfl rfl) rfl) (at_top rfl)) ?_
          refine bl_cons 6 rfl (isV undef) (stab_isV _) (rg_no rfl (w_no 103 rfl (by kernel_rfl) (by kernel_rfl) (at_dep rfl rfl rfl) rfl) (at_top rfl)) ?_
          refine bl_cons 7 rfl (isV undef) (stab_isV _) (rg_no rfl (w_no 103 rfl (by kernel_rfl) (by kernel_rfl) (at_dep rfl rfl rfl) rfl) (at_top rfl)) ?_
          refine bl_cons 8 rfl (isV _) (stab_isV _) (rgV (li := [(103, _)]) rfl (w_free rfl) ⟨g_dep 3 (by kernel_rfl) (at_dep rfl rfl rfl), trivial⟩ (fun w hw => rn_pickF rfl rfl) (at_top rfl)) ?_
          refine bl_cons 9 rfl (isV _) (stab_isV _) (rgV (li := [(107, _)]) rfl (w_free rfl) ⟨g_dep 7 (by kernel_rfl) (at_dep rfl rfl rfl), trivial⟩ (fun w hw => rn_move rfl) (at_top rfl)) ?_
          refine bl_cons 10 rfl (isV undef) (stab_isV _) (rg_no rfl (w_no 108 rfl (by kernel_rfl) (by kernel_rfl) (at_dep rfl rfl rfl) rfl) (at_top rfl)) ?_
          refine bl_cons 11 rfl (isV undef) (stab_isV _) (rg_no rfl (w_no 108 rfl (by kernel_rfl) (by kernel_rfl) (at_dep rfl rfl rfl) rfl) (at_top rfl)) ?_
          refine bl_cons 12 rfl (isV undef) (stab_isV _) (rg_no rfl (w_no 108 rfl (by kernel_rfl) (by kernel_rfl) (at_dep rfl rfl rfl) rfl) (at_top rfl)) ?_
          refine bl_cons 13 rfl (isV undef) (stab_isV _) (rg_no rfl (w_no 108 rfl (by kernel_rfl) (by kernel_rfl) (at_dep rfl rfl rfl) rfl) (at_top rfl)) ?_
          refine bl_cons 14 rfl (isV undef) (stab_isV _) (rg_no rfl (w_no 108 rfl (by kernel_rfl) (by kernel_rfl) (at_dep rfl rfl rfl) rfl) (at_top rfl)) ?_
          refine bl_cons 15 rfl (isV undef) (stab_isV _) (rg_no rfl (w_no 108 rfl (by kernel_rfl) (by kernel_rfl) (at_dep rfl rfl rfl) rfl) (at_top rfl)) ?_
          refine bl_cons 16 rfl (isV _) (stab_isV _) (rgV (li := [(108, _)]) rfl (w_free rfl) ⟨g_dep 8 (by kernel_rfl) (at_dep rfl rfl rfl), trivial⟩ (fun w hw => rn_pickF rfl rfl) (at_top rfl)) ?_
          refine bl_cons 17 rfl (isV _) (stab_isV _) (rgV (li := [(115, _)]) rfl (w_free rfl) ⟨g_dep 15 (by kernel_rfl) (at_dep rfl rfl rfl), trivial⟩ (fun w hw => rn_move rfl) (at_top rfl)) ?_
          refine bl_cons 18 rfl (isV undef) (stab_isV _) (rg_no rfl (w_no 116 rfl (by kernel_rfl) (by kernel_rfl) (at_dep rfl rfl rfl) rfl) (at_top rfl)) ?_
          refine bl_cons 19 rfl (isV undef) (stab_isV _) (rg_no rfl (w_no 116 rfl (by kernel_rfl) (by kernel_rfl) (at_dep rfl rfl rfl) rfl) (at_top rfl)) ?_
          refine bl_cons 20 rfl (isV undef) (stab_isV _) (rg_no rfl (w_no 116 rfl (by kernel_rfl) (by kernel_rfl) (at_dep rfl rfl rfl) rfl) (at_top rfl)) ?_
          refine bl_cons 21 rfl (isV undef) (stab_isV _) (rg_no rfl (w_no 116 rfl (by kernel_rfl) (by kernel_rfl) (at_dep rfl rfl rfl) rfl) (at_top rfl)) ?_
          refine bl_cons 22 rfl (isV undef) (stab_isV _) (rg_no rfl (w_no 116 rfl (by kernel_rfl) (by kernel_rfl) (at_dep rfl rfl rfl) rfl) (at_top rfl)) ?_
          refine bl_cons 23 rfl (isV undef) (stab_isV _) (rg_no rfl (w_no 116 rfl (by kernel_rfl) (by kernel_rfl) (at_dep rfl rfl rfl) rfl) (at_top rfl)) ?_
          refine bl_cons 24 rfl (isV undef) (stab_isV _) (rg_no rfl (w_no 116 rfl (by kernel_rfl) (by kernel_rfl) (at_dep rfl rfl rfl) rfl) (at_top rfl)) ?_
          refine bl_cons 25 rfl (isV undef) (stab_isV _) (rg_no rfl (w_no 116 rfl (by kernel_rfl) (by kernel_rfl) (at_dep rfl rfl rfl) rfl) (at_top rfl)) ?_
          refine bl_cons 26 rfl (isV undef) (stab_isV _) (rg_no rfl (w_no 116 rfl (by kernel_rfl) (by kernel_rfl) (at_dep rfl rfl rfl) rfl) (at_top rfl)) ?_
          refine bl_cons 27 rfl (isV undef) (stab_isV _) (rg_no rfl (w_no 116 rfl (by kernel_rfl) (by kernel_rfl) (at_dep rfl rfl rfl) rfl) (at_top rfl)) ?_
          refine bl_cons 28 rfl (isV _) (stab_isV _) (rgV (li := [(116, _)]) rfl (w_free rfl) ⟨g_dep 16 (by kernel_rfl) (at_dep rfl rfl rfl), trivial⟩ (fun w hw => rn_pickF rfl rfl) (at_top rfl)) ?_
          refine bl_cons 29 rfl (isV _) (stab_isV _) (rgV (li := [(127, _)]) rfl (w_free rfl) ⟨g_dep 27 (by kernel_rfl) (at_dep rfl rfl rfl), trivial⟩ (fun w hw => rn_move rfl) (at_top rfl)) ?_
          refine bl_cons 30 rfl (isV undef) (stab_isV _) (rg_no rfl (w_no 128 rfl (by kernel_rfl) (by kernel_rfl) (at_dep rfl rfl rfl) rfl) (at_top rfl)) ?_
          refine bl_cons 31 rfl (isV undef) (stab_isV _) (rg_no rfl (w_no 128 rfl (by kernel_rfl) (by kernel_rfl) (at_dep rfl rfl rfl) rfl) (at_top rfl)) ?_
          refine bl_cons 32 rfl (isV undef) (stab_isV _) (rg_no rfl (w_no 128 rfl (by kernel_rfl) (by kernel_rfl) (at_dep rfl rfl rfl) rfl) (at_top rfl)) ?_
          refine bl_cons 33 rfl (isV undef) (stab_isV _) (rg_no rfl (w_no 128 rfl (by kernel_rfl) (by kernel_rfl) (at_dep rfl rfl rfl) rfl) (at_top rfl)) ?_
          refine bl_cons 34 rfl (isV undef) (stab_isV _) (rg_no rfl (w_no 128 rfl (by kernel_rfl) (by kernel_rfl) (at_dep rfl rfl rfl) rfl) (at_top rfl)) ?_
          refine bl_cons 35 rfl (isV undef) (stab_isV _) (rg_no rfl (w_no 128 rfl (by kernel_rfl) (by kernel_rfl) (at_dep rfl rfl rfl) rfl) (at_top rfl)) ?_
          refine bl_cons 36 rfl (isV undef) (stab_isV _) (rg_no rfl (w_no 128 rfl (by kernel_rfl) (by kernel_rfl) (at_dep rfl rfl rfl) rfl) (at_top rfl)) ?_
          refine bl_cons 37 rfl (isV undef) (stab_isV _) (rg_no rfl (w_no 128 rfl (by kernel_rfl) (by kernel_rfl) (at_dep rfl rfl rfl) rfl) (at_top rfl)) ?_
          refine bl_cons 38 rfl (isV undef) (stab_isV _) (rg_no rfl (w_no 128 rfl (by kernel_rfl) (by kernel_rfl) (at_dep rfl rfl rfl) rfl) (at_top rfl)) ?_
          refine bl_cons 39 rfl (isV undef) (stab_isV _) (rg_no rfl (w_no 128 rfl (by kernel_rfl) (by kernel_rfl) (at_dep rfl rfl rfl) rfl) (at_top rfl)) ?_
          refine bl_cons 40 rfl (isV _) (stab_isV _) (rgV (li := [(128, _)]) rfl (w_free rfl) ⟨g_dep 28 (by kernel_rfl) (at_dep rfl rfl rfl), trivial⟩ (fun w hw => rn_pickF rfl rfl) (at_top rfl)) ?_
          refine bl_cons 41 rfl (isV _) (stab_isV _) (rgV (li := [(139, _)]) rfl (w_free rfl) ⟨g_dep 39 (by kernel_rfl) (at_dep rfl rfl rfl), trivial⟩ (fun w hw => rn_assign rfl) (at_top rfl)) ?_
          refine bl_nil ?_
          intro W10 hbR hS'
          clear hS; have hS := hS'; clear hS'
          refine fin_v ?_
          refine fin_v ?_
          refine fin_v ?_
          refine fin_v ?_
          refine fin_v ?_
          refine fin_v ?_
          refine fin_v ?_
          refine fin_v ?_
          refine fin_v ?_
          refine fin_v ?_
          refine fin_v ?_
          refine fin_v ?_
          refine fin_v ?_
          refine fin_v ?_
          refine fin_v ?_
          refine fin_v ?_
          refine fin_v ?_
          refine fin_v ?_
          refine fin_v ?_
          refine fin_v ?_
          refine fin_v ?_
          refine fin_v ?_
          refine fin_v ?_
          refine fin_v ?_
          refine fin_v ?_
          refine fin_v ?_
          refine fin_v ?_
          refine fin_v ?_
          refine fin_v ?_
          refine fin_v ?_
          refine fin_v ?_
          refine fin_v ?_
          refine fin_v ?_
          refine fin_v ?_
          refine fin_v ?_
          refine fin_v ?_
          refine fin_v ?_
          refine fin_v ?_
          refine fin_v ?_
          refine fin_v ?_
          refine fin_v ?_
          refine fin_nil ?_
          refine XF.thenN ?_
          refine retF ?_
          refine XF.blkR ?_
          refine XF.thenR ?_
          refine XF.res (res1 Try.results28 rfl) ?_
          exact ⟨gr_rbool (by rw [hrk]; unfold refK; dsimp only; rw [if_neg n1, if_neg (by omega), if_neg n3, if_pos h8, decide_eq_false hx0]; rfl), hS.below⟩
         ·skip
          refine regB (m := 41) gr_followsM hS (by kernel_rfl) (by kernel_rfl) rfl ?_
          refine bl_cons 1 rfl (isV _) (stab_isV _) (rgV (li := [(3, _)]) rfl (w_free rfl) ⟨g_fr (by kernel_rfl) rfl, trivial⟩ (fun w hw => rn_field (o' := 3) gr_fa_50_3 rfl rfl) (at_top rfl)) ?_
          refine bl_cons 2 rfl (isV _) (stab_isV _) (rgV (li := [(100, _)]) rfl (w_free rfl) ⟨g_dep 0 (by kernel_rfl) (at_dep rfl rfl rfl), trivial⟩ (fun w hw => rn_load Try.isAgg3 rfl ((below_agree hw 0).cell (Nat.zero_le _) (cell_own (hS.at_ 0 rfl) rfl))) (at_top rfl)) ?_
          refine bl_cons 3 rfl (isV (.bool true)) (stab_isV _) (rgVe (li := [(101, _)]) rfl (w_free rfl) ⟨g_dep 1 (by kernel_rfl) (at_dep rfl rfl rfl), trivial⟩ (fun w hw => rn_eql rfl rfl) (by rw [decide_eq_true hx0]) (at_top rfl)) ?_
          refine bl_cons 4 rfl (isV _) (stab_isV _) (rgV (li := [(102, _)]) rfl (w_free rfl) ⟨g_dep 2 (by kernel_rfl) (at_dep rfl rfl rfl), trivial⟩ (fun w hw => rn_move rfl) (at_top rfl)) ?_
          refine bl_cons 5 rfl (isV _) (stab_isV _) (rgV (li := [(3, _)]) rfl (w_yes 103 rfl (by kernel_rfl) (by kernel_rfl) (at_dep rfl rfl rfl)) ⟨g_fr (by kernel_rfl) rfl, trivial⟩ (fun w hw => rn_field (o' := 4) gr_fa_50_4 rfl rfl) (at_top rfl)) ?_
          refine bl_cons 6 rfl (isV _) (stab_isV _) (rgV (li := [(104, _)]) rfl (w_yes 103 rfl (by kernel_rfl) (by kernel_rfl) (at_dep rfl rfl rfl)) ⟨g_dep 4 (by kernel_rfl) (at_dep rfl rfl rfl), trivial⟩ (fun w hw => rn_load Try.isAgg3 rfl ((below_agree hw 0).cell (Nat.zero_le _) (cell_own (hS.at_ 0 rfl) rfl))) (at_top rfl)) ?_
          refine bl_cons 7 rfl (isV (.bool false)) (stab_isV _) (rgVe (li := [(105, _)]) rfl (w_yes 103 rfl (by kernel_rfl) (by kernel_rfl) (at_dep rfl rfl rfl)) ⟨g_dep 5 (by kernel_rfl) (at_dep rfl rfl rfl), trivial⟩ (fun w hw => rn_eql rfl rfl) (by rw [decide_eq_false hy0]) (at_top rfl)) ?_
          refine bl_cons 8 rfl (isV _) (stab_isV _) (rgV (li := [(103, _), (106, _)]) rfl (w_free rfl) ⟨g_dep 3 (by kernel_rfl) (at_dep rfl rfl rfl), g_dep 6 (by kernel_rfl) (at_dep rfl rfl rfl), trivial⟩ (fun w hw => rn_pickT rfl rfl) (at_top rfl)) ?_
          refine bl_cons 9 rfl (isV _) (stab_isV _) (rgV (li := [(107, _)]) rfl (w_free rfl) ⟨g_dep 7 (by kernel_rfl) (at_dep rfl rfl rfl), trivial⟩ (fun w hw => rn_move rfl) (at_top rfl)) ?_
          refine bl_cons 10 rfl (isV undef) (stab_isV _) (rg_no rfl (w_no 108 rfl (by kernel_rfl) (by kernel_rfl) (at_dep rfl rfl rfl) rfl) (at_top rfl)) ?_
          refine bl_cons 11 rfl (isV undef) (stab_isV _) (rg_no rfl (w_no 108 rfl (by kernel_rfl) (by kernel_rfl) (at_dep rfl rfl rfl) rfl) (at_top rfl)) ?_
          refine bl_cons 12 rfl (isV undef) (stab_isV _) (rg_no rfl (w_no 108 rfl (by kernel_rfl) (by kernel_rfl) (at_dep rfl rfl rfl) rfl) (at_top rfl)) ?_
          refine bl_cons 13 rfl (isV undef) (stab_isV _) (rg_no rfl (w_no 108 rfl (by kernel_rfl) (by kernel_rfl) (at_dep rfl rfl rfl) rfl) (at_top rfl)) ?_
          refine bl_cons 14 rfl (isV undef) (stab_isV _) (rg_no rfl (w_no 108 rfl (by kernel_rfl) (by kernel_rfl) (at_dep rfl rfl rfl) rfl) (at_top rfl)) ?_
          refine bl_cons 15 rfl (isV undef) (stab_isV _) (rg_no rfl (w_no 108 rfl (by kernel_rfl) (by kernel_rfl) (at_dep rfl rfl rfl) rfl) (at_top rfl)) ?_
          refine bl_cons 16 rfl (isV _) (stab_isV _) (rgV (li := [(108, _)]) rfl (w_free rfl) ⟨g_dep 8 (by kernel_rfl) (at_dep rfl rfl rfl), trivial⟩ (fun w hw => rn_pickF rfl rfl) (at_top rfl)) ?_
          refine bl_cons 17 rfl (isV _) (stab_isV _) (rgV (li := [(115, _)]) rfl (w_free rfl) ⟨g_dep 15 (by kernel_rfl) (at_dep rfl rfl rfl), trivial⟩ (fun w hw => rn_move rfl) (at_top rfl)) ?_
          refine bl_cons 18 rfl (isV undef) (stab_isV _) (rg_no rfl (w_no 116 rfl (by kernel_rfl) (by kernel_rfl) (at_dep rfl rfl rfl) rfl) (at_top rfl)) ?_
          refine bl_cons 19 rfl (isV undef) (stab_isV _) (rg_no rfl (w_no 116 rfl (by kernel_rfl) (by kernel_rfl) (at_dep rfl rfl rfl) rfl) (at_top rfl)) ?_
          refine bl_cons 20 rfl (isV undef) (stab_isV _) (rg_no rfl (w_no 116 rfl (by kernel_rfl) (by kernel_rfl) (at_dep rfl rfl rfl) rfl) (at_top rfl)) ?_
          refine bl_cons 21 rfl (isV undef) (stab_isV _) (rg_no rfl (w_no 116 rfl (by kernel_rfl) (by kernel_rfl) (at_dep rfl rfl rfl) rfl) (at_top rfl)) ?_
          refine bl_cons 22 rfl (isV undef) (stab_isV _) (rg_no rfl (w_no 116 rfl (by kernel_rfl) (by kernel_rfl) (at_dep rfl rfl rfl) rfl) (at_top rfl)) ?_
          refine bl_cons 23 rfl (isV undef) (stab_isV _) (rg_no rfl (w_no 116 rfl (by kernel_rfl) (by kernel_rfl) (at_dep rfl rfl rfl) rfl) (at_top rfl)) ?_
          refine bl_cons 24 rfl (isV undef) (stab_isV _) (rg_no rfl (w_no 116 rfl (by kernel_rfl) (by kernel_rfl) (at_dep rfl rfl rfl) rfl) (at_top rfl)) ?_
          refine bl_cons 25 rfl (isV undef) (stab_isV _) (rg_no rfl (w_no 116 rfl (by kernel_rfl) (by kernel_rfl) (at_dep rfl rfl rfl) rfl) (at_top rfl)) ?_
          refine bl_cons 26 rfl (isV undef) (stab_isV _) (rg_no rfl (w_no 116 rfl (by kernel_rfl) (by kernel_rfl) (at_dep rfl rfl rfl) rfl) (at_top rfl)) ?_
          refine bl_cons 27 rfl (isV undef) (stab_isV _) (rg_no rfl (w_no 116 rfl (by kernel_rfl) (by kernel_rfl) (at_dep rfl rfl rfl) rfl) (at_top rfl)) ?_
          refine bl_cons 28 rfl (isV _) (stab_isV _) (rgV (li := [(116, _)]) rfl (w_free rfl) ⟨g_dep 16 (by kernel_rfl) (at_dep rfl rfl rfl), trivial⟩ (fun w hw => rn_pickF rfl rfl) (at_top rfl)) ?_
          refine bl_cons 29 rfl (isV _) (stab_isV _) (rgV (li := [(127, _)]) rfl (w_free rfl) ⟨g_dep 27 (by kernel_rfl) (at_dep rfl rfl rfl), trivial⟩ (fun w hw => rn_move rfl) (at_top rfl)) ?_
          refine bl_cons 30 rfl (isV undef) (stab_isV _) (rg_no rfl (w_no 128 rfl (by kernel_rfl) (by kernel_rfl) (at_dep rfl rfl rfl) rfl) (at_top rfl)) ?_
          refine bl_cons 31 rfl (isV undef) (stab_isV _) (rg_no rfl (w_no 128 rfl (by kernel_rfl) (by kernel_rfl) (at_dep rfl rfl rfl) rfl) (at_top rfl)) ?_
          refine bl_cons 32 rfl (isV undef) (stab_isV _) (rg_no rfl (w_no 128 rfl (by kernel_rfl) (by kernel_rfl) (at_dep rfl rfl rfl) rfl) (at_top rfl)) ?_
          refine bl_cons 33 rfl (isV undef) (stab_isV _) (rg_no rfl (w_no 128 rfl (by kernel_rfl) (by kernel_rfl) (at_dep rfl rfl rfl) rfl) (at_top rfl)) ?_
          refine bl_cons 34 rfl (isV undef) (stab_isV _) (rg_no rfl (w_no 128 rfl (by kernel_rfl) (by kernel_rfl) (at_dep rfl rfl rfl) rfl) (at_top rfl)) ?_
          refine bl_cons 35 rfl (isV undef) (stab_isV _) (rg_no rfl (w_no 128 rfl (by kernel_rfl) (by kernel_rfl) (at_dep rfl rfl rfl) rfl) (at_top rfl)) ?_
          refine bl_cons 36 rfl (isV undef) (stab_isV _) (rg_no rfl (w_no 128 rfl (by kernel_rfl) (by kernel_rfl) (at_dep rfl rfl rfl) rfl) (at_top rfl)) ?_
          refine bl_cons 37 rfl (isV undef) (stab_isV _) (rg_no rfl (w_no 128 rfl (by kernel_rfl) (by kernel_rfl) (at_dep rfl rfl rfl) rfl) (at_top rfl)) ?_
          refine bl_cons 38 rfl (isV undef) (stab_isV _) (rg_no rfl (w_no 128 rfl (by kernel_rfl) (by kernel_rfl) (at_dep rfl rfl rfl) rfl) (at_top rfl)) ?_
          refine bl_cons 39 rfl (isV undef) (stab_isV _) (rg_no rfl (w_no 128 rfl (by kernel_rfl) (by kernel_rfl) (at_dep rfl rfl rfl) rfl) (at_top rfl)) ?_
          refine bl_cons 40 rfl (isV _) (stab_isV _) (rgV (li := [(128, _)]) rfl (w_free rfl) ⟨g_dep 28 (by kernel_rfl) (at_dep rfl rfl rfl), trivial⟩ (fun w hw => rn_pickF rfl rfl) (at_top rfl)) ?_
          refine bl_cons 41 rfl (isV _) (stab_isV _) (rgV (li := [(139, _)]) rfl (w_free rfl) ⟨g_dep 39 (by kernel_rfl) (at_dep rfl rfl rfl), trivial⟩ (fun w hw => rn_assign rfl) (at_top rfl)) ?_
          refine bl_nil ?_
          intro W11 hbR hS'
          clear hS; have hS := hS'; clear hS'
          refine fin_v ?_
          refine fin_v ?_
          refine fin_v ?_
          refine fin_v ?_
          refine fin_v ?_
          refine fin_v ?_
          refine fin_v ?_
          refine fin_v ?_
          refine fin_v ?_
          refine fin_v ?_
          refine fin_v ?_
          refine fin_v ?_
          refine fin_v ?_
          refine fin_v ?_
          refine fin_v ?_
          refine fin_v ?_
          refine fin_v ?_
          refine fin_v ?_
          refine fin_v ?_
          refine fin_v ?_
          refine fin_v ?_
          refine fin_v ?_
          refine fin_v ?_
          refine fin_v ?_
          refine fin_v ?_
          refine fin_v ?_
          refine fin_v ?_
          refine fin_v ?_
          refine fin_v ?_
          refine fin_v ?_
          refine fin_v ?_
          refine fin_v ?_
          refine fin_v ?_
          refine fin_v ?_
          refine fin_v ?_
          refine fin_v ?_
          refine fin_v ?_
          refine fin_v ?_
          refine fin_v ?_
          refine fin_v ?_
          refine fin_v ?_
          refine fin_nil ?_
          refine XF.thenN ?_
          refine retF ?_
          refine XF.blkR ?_
          refine XF.thenR ?_
          refine XF.res (res1 Try.results28 rfl) ?_
          exact ⟨gr_rbool (by rw [hrk]; unfold refK; dsimp only; rw [if_neg n1, if_neg (by omega), if_neg n3, if_pos h8, decide_eq_true hx0, decide_eq_false hy0]; rfl), hS.below⟩
         ·skip
          refine regB (m := 41) gr_followsM hS (by kernel_rfl) (by kernel_rfl) rfl ?_
          refine bl_cons 1 rfl (isV _) (stab_isV _) (rgV (li := [(3, _)]) rfl (w_free rfl) ⟨g_fr (by kernel_rfl) rfl, trivial⟩ (fun w hw => rn_field (o' := 3) gr_fa_50_3 rfl rfl) (at_top rfl)) ?_
          refine bl_cons 2 rfl (isV _) (stab_isV _) (rgV (li := [(100, _)]) rfl (w_free rfl) ⟨g_dep 0 (by kernel_rfl) (at_dep rfl rfl rfl), trivial⟩ (fun w hw => rn_load Try.isAgg3 rfl ((below_agree hw 0).cell (Nat.zero_le _) (cell_own (hS.at_ 0 rfl) rfl))) (at_top rfl)) ?_
          refine bl_cons 3 rfl (isV (.bool true)) (stab_isV _) (rgVe (li := [(101, _)]) rfl (w_free rfl) ⟨g_dep 1 (by kernel_rfl) (at_dep rfl rfl rfl), trivial⟩ (fun w hw => rn_eql rfl rfl) (by rw [decide_eq_true hx0]) (at_top rfl)) ?_
          refine bl_cons 4 rfl (isV _) (stab_isV _) (rgV (li := [(102, _)]) rfl (w_free rfl) ⟨g_dep 2 (by kernel_rfl) (at_dep rfl rfl rfl), trivial⟩ (fun w hw => rn_move rfl) (at_top rfl)) ?_
          refine bl_cons 5 rfl (isV _) (stab_isV _) (rgV (li := [(3, _)]) rfl (w_yes 103 rfl (by kernel_rfl) (by kernel_rfl) (at_dep rfl rfl rfl)) ⟨g_fr (by kernel_rfl) rfl, trivial⟩ (fun w hw => rn_field (o' := 4) gr_fa_50_4 rfl rfl) (at_top rfl)) ?_
          refine bl_cons 6 rfl (isV _) (stab_isV _) (rgV (li := [(104, _)]) rfl (w_yes 103 rfl (by kernel_rfl) (by kernel_rfl) (at_dep rfl rfl rfl)) ⟨g_dep 4 (by kernel_rfl) (at_dep rfl rfl rfl), trivial⟩ (fun w hw => rn_load Try.isAgg3 rfl ((below_agree hw 0).cell (Nat.zero_le _) (cell_own (hS.at_ 0 rfl) rfl))) (at_top rfl)) ?_
          refine bl_cons 7 rfl (isV (.bool true)) (stab_isV _) (rgVe (li := [(105, _)]) rfl (w_yes 103 rfl (by kernel_rfl) (by kernel_rfl) (at_dep rfl rfl rfl)) ⟨g_dep 5 (by kernel_rfl) (at_dep rfl rfl rfl), trivial⟩ (fun w hw => rn_eql rfl rfl) (by rw [decide_eq_true hy0]) (at_top rfl)) ?_
          refine bl_cons 8 rfl (isV _) (stab_isV _) (rgV (li := [(103, _), (106, _)]) rfl (w_free rfl) ⟨g_dep 3 (by kernel_rfl) (at_dep rfl rfl rfl), g_dep 6 (by kernel_rfl) (at_dep rfl rfl rfl), trivial⟩ (fun w hw => rn_pickT rfl rfl) (at_top rfl)) ?_
          refine bl_cons 9 rfl (isV _) (stab_isV _) (rgV (li := [(107, _)]) rfl (w_free rfl) ⟨g_dep 7 (by kernel_rfl) (at_dep rfl rfl rfl), trivial⟩ (fun w hw => rn_move rfl) (at_top rfl)) ?_
          refine bl_cons 10 rfl (isV _) (stab_isV _) (rgV (li := [(3, _)]) rfl (w_yes 108 rfl (by kernel_rfl) (by kernel_rfl) (at_dep rfl rfl rfl)) ⟨g_fr (by kernel_rfl) rfl, trivial⟩ (fun w hw => rn_field (o' := 6) gr_fa_50_6 rfl rfl) (at_top rfl)) ?_
          refine bl_cons 11 rfl (isV _) (stab_isV _) (rgV (li := [(109, _)]) rfl (w_yes 108 rfl (by kernel_rfl) (by kernel_rfl) (at_dep rfl rfl rfl)) ⟨g_dep 9 (by kernel_rfl) (at_dep rfl rfl rfl), trivial⟩ (fun w hw => rn_load Try.isAgg3 rfl ((below_agree hw 0).cell (Nat.zero_le _) (cell_own (hS.at_ 0 rfl) rfl))) (at_top rfl)) ?_
          refine bl_cons 12 rfl (isV _) (stab_isV _) (rgV (li := [(2, _)]) rfl (w_yes 108 rfl (by kernel_rfl) (by kernel_rfl) (at_dep rfl rfl rfl)) ⟨g_fr (by kernel_rfl) rfl, trivial⟩ (fun w hw => rn_field (o' := 7) gr_fa_29_7 rfl rfl) (at_top rfl)) ?_
          refine bl_cons 13 rfl (isV _) (stab_isV _) (rgV (li := [(111, _)]) rfl (w_yes 108 rfl (by kernel_rfl) (by kernel_rfl) (at_dep rfl rfl rfl)) ⟨g_dep 11 (by kernel_rfl) (at_dep rfl rfl rfl), trivial⟩ (fun w hw => rn_load Try.isAgg25 rfl ((below_agree hw 0).cell (Nat.zero_le _) (cell_own (hS.at_ 1 rfl) rfl))) (at_top rfl)) ?_
          refine bl_cons 14 rfl (isV _) (stab_isV _) (rgV (li := [(112, _)]) rfl (w_yes 108 rfl (by kernel_rfl) (by kernel_rfl) (at_dep rfl rfl rfl)) ⟨g_dep 12 (by kernel_rfl) (at_dep rfl rfl rfl), trivial⟩ (fun w hw => rn_len Try.underlying25 rfl) (at_top rfl)) ?_
          refine bl_cons 15 rfl (isV (.bool false)) (stab_isV _) (rg_call [isV _, isV _] rfl gr_goes_29 (w_yes 108 rfl (by kernel_rfl) (by kernel_rfl) (at_dep rfl rfl rfl)) ⟨p_tmp (g_dep 10 (by kernel_rfl) (at_dep rfl rfl rfl)), p_tmp (g_dep 13 (by kernel_rfl) (at_dep rfl rfl rfl)), trivial⟩ (fun vs w' hb hh => by have e := holds_isV (us := [_, _]) hh; subst e; exact (in_is s.s _ _).mono fun e w2 h => ⟨_, by rw [h.1, hin], rfl, h.2⟩) (at_top rfl)) ?_
          refine bl_cons 16 rfl (isV _) (stab_isV _) (rgV (li := [(108, _), (114, _)]) rfl (w_free rfl) ⟨g_dep 8 (by kernel_rfl) (at_dep rfl rfl rfl), g_dep 14 (by kernel_rfl) (at_dep rfl rfl rfl), trivial⟩ (fun w hw => rn_pickT rfl rfl) (at_top rfl)) ?_
          refine bl_cons 17 rfl (isV _) (stab_isV _) (rgV (li := [(115, _)]) rfl (w_free rfl) ⟨g_dep 15 (by kernel_rfl) (at_dep rfl rfl rfl), trivial⟩ (fun w hw => rn_move rfl) (at_top rfl)) ?_
          refine bl_cons 18 rfl (isV undef) (stab_isV _) (rg_no rfl (w_no 116 rfl (by kernel_rfl) (by kernel_rfl) (at_dep rfl rfl rfl) rfl) (at_top rfl)) ?_
          refine bl_cons 19 rfl (isV undef) (stab_isV _) (rg_no rfl (w_no 116 rfl (by kernel_rfl) (by kernel_rfl) (at_dep rfl rfl rfl) rfl) (at_top rfl)) ?_
          refine bl_cons 20 rfl (isV undef) (stab_isV _) (rg_no rfl (w_no 116 rfl (by kernel_rfl) (by kernel_rfl) (at_dep rfl rfl rfl) rfl) (at_top rfl)) ?_
          refine bl_cons 21 rfl (isV undef) (stab_isV _) (rg_no rfl (w_no 116 rfl (by kernel_rfl) (by kernel_rfl) (at_dep rfl rfl rfl) rfl) (at_top rfl)) ?_
          refine bl_cons 22 rfl (isV undef) (stab_isV _) (rg_no rfl (w_no 116 rfl (by kernel_rfl) (by kernel_rfl) (at_dep rfl rfl rfl) rfl) (at_top rfl)) ?_
          refine bl_cons 23 rfl (isV undef) (stab_isV _) (rg_no rfl (w_no 116 rfl (by kernel_rfl) (by kernel_rfl) (at_dep rfl rfl rfl) rfl) (at_top rfl)) ?_
          refine bl_cons 24 rfl (isV undef) (stab_isV _) (rg_no rfl (w_no 116 rfl (by kernel_rfl) (by kernel_rfl) (at_dep rfl rfl rfl) rfl) (at_top rfl)) ?_
          refine bl_cons 25 rfl (isV undef) (stab_isV _) (rg_no rfl (w_no 116 rfl (by kernel_rfl) (by kernel_rfl) (at_dep rfl rfl rfl) rfl) (at_top rfl)) ?_
          refine bl_cons 26 rfl (isV undef) (stab_isV _) (rg_no rfl (w_no 116 rfl (by kernel_rfl) (by kernel_rfl) (at_dep rfl rfl rfl) rfl) (at_top rfl)) ?_
          refine bl_cons 27 rfl (isV undef) (stab_isV _) (rg_no rfl (w_no 116 rfl (by kernel_rfl) (by kernel_rfl) (at_dep rfl rfl rfl) rfl) (at_top rfl)) ?_
          refine bl_cons 28 rfl (isV _) (stab_isV _) (rgV (li := [(116, _)]) rfl (w_free rfl) ⟨g_dep 16 (by kernel_rfl) (at_dep rfl rfl rfl), trivial⟩ (fun w hw => rn_pickF rfl rfl) (at_top rfl)) ?_
          refine bl_cons 29 rfl (isV _) (stab_isV _) (rgV (li := [(127, _)]) rfl (w_free rfl) ⟨g_dep 27 (by kernel_rfl) (at_dep rfl rfl rfl), trivial⟩ (fun w hw => rn_move rfl) (at_top rfl)) ?_
          refine bl_cons 30 rfl (isV undef) (stab_isV _) (rg_no rfl (w_no 128 rfl (by kernel_rfl) (by kernel_rfl) (at_dep rfl rfl rfl) rfl) (at_top rfl)) ?_
          refine bl_cons 31 rfl (isV undef) (stab_isV _) (rg_no rfl (w_no 128 rfl (by kernel_rfl) (by kernel_rfl) (at_dep rfl rfl rfl) rfl) (at_top rfl)) ?_
          refine bl_cons 32 rfl (isV undef) (stab_isV _) (rg_no rfl (w_no 128 rfl (by kernel_rfl) (by kernel_rfl) (at_dep rfl rfl rfl) rfl) (at_top rfl)) ?_
          refine bl_cons 33 rfl (isV undef) (stab_isV _) (rg_no rfl (w_no 128 rfl (by kernel_rfl) (by kernel_rfl) (at_dep rfl rfl rfl) rfl) (at_top rfl)) ?_
          refine bl_cons 34 rfl (isV undef) (stab_isV _) (rg_no rfl (w_no 128 rfl (by kernel_rfl) (by kernel_rfl) (at_dep rfl rfl rfl) rfl) (at_top rfl)) ?_
          refine bl_cons 35 rfl (isV undef) (stab_isV _) (rg_no rfl (w_no 128 rfl (by kernel_rfl) (by kernel_rfl) (at_dep rfl rfl rfl) rfl) (at_top rfl)) ?_
          refine bl_cons 36 rfl (isV undef) (stab_isV _) (rg_no rfl (w_no 128 rfl (by kernel_rfl) (by kernel_rfl) (at_dep rfl rfl rfl) rfl) (at_top rfl)) ?_
          refine bl_cons 37 rfl (isV undef) (stab_isV _) (rg_no rfl (w_no 128 rfl (by kernel_rfl) (by kernel_rfl) (at_dep rfl rfl rfl) rfl) (at_top rfl)) ?_
          refine bl_cons 38 rfl (isV undef) (stab_isV _) (rg_no rfl (w_no 128 rfl (by kernel_rfl) (by kernel_rfl) (at_dep rfl rfl rfl) rfl) (at_top rfl)) ?_
          refine bl_cons 39 rfl (isV undef) (stab_isV _) (rg_no rfl (w_no 128 rfl (by kernel_rfl) (by kernel_rfl) (at_dep rfl rfl rfl) rfl) (at_top rfl)) ?_
          refine bl_cons 40 rfl (isV _) (stab_isV _) (rgV (li := [(128, _)]) rfl (w_free rfl) ⟨g_dep 28 (by kernel_rfl) (at_dep rfl rfl rfl), trivial⟩ (fun w hw => rn_pickF rfl rfl) (at_top rfl)) ?_
          refine bl_cons 41 rfl (isV _) (stab_isV _) (rgV (li := [(139, _)]) rfl (w_free rfl) ⟨g_dep 39 (by kernel_rfl) (at_dep rfl rfl rfl), trivial⟩ (fun w hw => rn_assign rfl) (at_top rfl)) ?_
          refine bl_nil ?_
          intro W12 hbR hS'
          clear hS; have hS := hS'; clear hS'
          refine fin_v ?_
          refine fin_v ?_
          refine fin_v ?_
          refine fin_v ?_
          refine fin_v ?_
          refine fin_v ?_
          refine fin_v ?_
          refine fin_v ?_
          refine fin_v ?_
          refine fin_v ?_
          refine fin_v ?_
          refine fin_v ?_
          refine fin_v ?_
          refine fin_v ?_
          refine fin_v ?_
          refine fin_v ?_
          refine fin_v ?_
          refine fin_v ?_
          refine fin_v ?_
          refine fin_v ?_
          refine fin_v ?_
          refine fin_v ?_
          refine fin_v ?_
          refine fin_v ?_
          refine fin_v ?_
          refine fin_v ?_
          refine fin_v ?_
          refine fin_v ?_
          refine fin_v ?_
          refine fin_v ?_
          refine fin_v ?_
          refine fin_v ?_
          refine fin_v ?_
          refine fin_v ?_
          refine fin_v ?_
          refine fin_v ?_
          refine fin_v ?_
          refine fin_v ?_
          refine fin_v ?_
          refine fin_v ?_
          refine fin_v ?_
          refine fin_nil ?_
          refine XF.thenN ?_
          refine retF ?_
          refine XF.blkR ?_
          refine XF.thenR ?_
          refine XF.res (res1 Try.results28 rfl) ?_
          exact ⟨gr_rbool (by rw [hrk]; unfold refK; dsimp only; rw [if_neg n1, if_neg (by omega), if_neg n3, if_pos h8, decide_eq_true hx0, decide_eq_true hy0, siteR_out htl hin]; rfl), hS.below⟩
         ·obtain ⟨tb, to_, u1, rfl, hu1, huc⟩ := ht.get (i := q) (by omega)
          obtain rfl : u = u1 := Option.some.inj (hu.symm.trans hu1)
          have k5 := CellsAt.agree hS.agree (Nat.zero_le _) huc
          have k6 := k5.2.2.1
          have k7 := k5.2.2.2.1
          refine regB (m := 41) gr_followsM hS (by kernel_rfl) (by kernel_rfl) rfl ?_
          refine bl_cons 1 rfl (isV _) (stab_isV _) (rgV (li := [(3, _)]) rfl (w_free rfl) ⟨g_fr (by kernel_rfl) rfl, trivial⟩ (fun w hw => rn_field (o' := 3) gr_fa_50_3 rfl rfl) (at_top rfl)) ?_
          refine bl_cons 2 rfl (isV _) (stab_isV _) (rgV (li := [(100, _)]) rfl (w_free rfl) ⟨g_dep 0 (by kernel_rfl) (at_dep rfl rfl rfl), trivial⟩ (fun w hw => rn_load Try.isAgg3 rfl ((below_agree hw 0).cell (Nat.zero_le _) (cell_own (hS.at_ 0 rfl) rfl))) (at_top rfl)) ?_
          refine bl_cons 3 rfl (isV (.bool true)) (stab_isV _) (rgVe (li := [(101, _)]) rfl (w_free rfl) ⟨g_dep 1 (by kernel_rfl) (at_dep rfl rfl rfl), trivial⟩ (fun w hw => rn_eql rfl rfl) (by rw [decide_eq_true hx0]) (at_top rfl)) ?_
          refine bl_cons 4 rfl (isV _) (stab_isV _) (rgV (li := [(102, _)]) rfl (w_free rfl) ⟨g_dep 2 (by kernel_rfl) (at_dep rfl rfl rfl), trivial⟩ (fun w hw => rn_move rfl) (at_top rfl)) ?_
          refine bl_cons 5 rfl (isV _) (stab_isV _) (rgV (li := [(3, _)]) rfl (w_yes 103 rfl (by kernel_rfl) (by kernel_rfl) (at_dep rfl rfl rfl)) ⟨g_fr (by kernel_rfl) rfl, trivial⟩ (fun w hw => rn_field (o' := 4) gr_fa_50_4 rfl rfl) (at_top rfl)) ?_
          refine bl_cons 6 rfl (isV _) (stab_isV _) (rgV (li := [(104, _)]) rfl (w_yes 103 rfl (by kernel_rfl) (by kernel_rfl) (at_dep rfl rfl rfl)) ⟨g_dep 4 (by kernel_rfl) (at_dep rfl rfl rfl), trivial⟩ (fun w hw => rn_load Try.isAgg3 rfl ((below_agree hw 0).cell (Nat.zero_le _) (cell_own (hS.at_ 0 rfl) rfl))) (at_top rfl)) ?_
          refine bl_cons 7 rfl (isV (.bool true)) (stab_isV _) (rgVe (li := [(105, _)]) rfl (w_yes 103 rfl (by kernel_rfl) (by kernel_rfl) (at_dep rfl rfl rfl)) ⟨g_dep 5 (by kernel_rfl) (at_dep rfl rfl rfl), trivial⟩ (fun w hw => rn_eql rfl rfl) (by rw [decide_eq_true hy0]) (at_top rfl)) ?_
          refine bl_cons 8 rfl (isV _) (stab_isV _) (rgV (li := [(103, _), (106, _)]) rfl (w_free rfl) ⟨g_dep 3 (by kernel_rfl) (at_dep rfl rfl rfl), g_dep 6 (by kernel_rfl) (at_dep rfl rfl rfl), trivial⟩ (fun w hw => rn_pickT rfl rfl) (at_top rfl)) ?_
          refine bl_cons 9 rfl (isV _) (stab_isV _) (rgV (li := [(107, _)]) rfl (w_free rfl) ⟨g_dep 7 (by kernel_rfl) (at_dep rfl rfl rfl), trivial⟩ (fun w hw => rn_move rfl) (at_top rfl)) ?_
          refine bl_cons 10 rfl (isV _) (stab_isV _) (rgV (li := [(3, _)]) rfl (w_yes 108 rfl (by kernel_rfl) (by kernel_rfl) (at_dep rfl rfl rfl)) ⟨g_fr (by kernel_rfl) rfl, trivial⟩ (fun w hw => rn_field (o' := 6) gr_fa_50_6 rfl rfl) (at_top rfl)) ?_
          refine bl_cons 11 rfl (isV _) (stab_isV _) (rgV (li := [(109, _)]) rfl (w_yes 108 rfl (by kernel_rfl) (by kernel_rfl) (at_dep rfl rfl rfl)) ⟨g_dep 9 (by kernel_rfl) (at_dep rfl rfl rfl), trivial⟩ (fun w hw => rn_load Try.isAgg3 rfl ((below_agree hw 0).cell (Nat.zero_le _) (cell_own (hS.at_ 0 rfl) rfl))) (at_top rfl)) ?_
          refine bl_cons 12 rfl (isV _) (stab_isV _) (rgV (li := [(2, _)]) rfl (w_yes 108 rfl (by kernel_rfl) (by kernel_rfl) (at_dep rfl rfl rfl)) ⟨g_fr (by kernel_rfl) rfl, trivial⟩ (fun w hw => rn_field (o' := 7) gr_fa_29_7 rfl rfl) (at_top rfl)) ?_
          refine bl_cons 13 rfl (isV _) (stab_isV _) (rgV (li := [(111, _)]) rfl (w_yes 108 rfl (by kernel_rfl) (by kernel_rfl) (at_dep rfl rfl rfl)) ⟨g_dep 11 (by kernel_rfl) (at_dep rfl rfl rfl), trivial⟩ (fun w hw => rn_load Try.isAgg25 rfl ((below_agree hw 0).cell (Nat.zero_le _) (cell_own (hS.at_ 1 rfl) rfl))) (at_top rfl)) ?_
          refine bl_cons 14 rfl (isV _) (stab_isV _) (rgV (li := [(112, _)]) rfl (w_yes 108 rfl (by kernel_rfl) (by kernel_rfl) (at_dep rfl rfl rfl)) ⟨g_dep 12 (by kernel_rfl) (at_dep rfl rfl rfl), trivial⟩ (fun w hw => rn_len Try.underlying25 rfl) (at_top rfl)) ?_
          refine bl_cons 15 rfl (isV (.bool true)) (stab_isV _) (rg_call [isV _, isV _] rfl gr_goes_29 (w_yes 108 rfl (by kernel_rfl) (by kernel_rfl) (at_dep rfl rfl rfl)) ⟨p_tmp (g_dep 10 (by kernel_rfl) (at_dep rfl rfl rfl)), p_tmp (g_dep 13 (by kernel_rfl) (at_dep rfl rfl rfl)), trivial⟩ (fun vs w' hb hh => by have e := holds_isV (us := [_, _]) hh; subst e; exact (in_is s.s _ _).mono fun e w2 h => ⟨_, by rw [h.1, hin], rfl, h.2⟩) (at_top rfl)) ?_
          refine bl_cons 16 rfl (isV _) (stab_isV _) (rgV (li := [(108, _), (114, _)]) rfl (w_free rfl) ⟨g_dep 8 (by kernel_rfl) (at_dep rfl rfl rfl), g_dep 14 (by kernel_rfl) (at_dep rfl rfl rfl), trivial⟩ (fun w hw => rn_pickT rfl rfl) (at_top rfl)) ?_
          refine bl_cons 17 rfl (isV _) (stab_isV _) (rgV (li := [(115, _)]) rfl (w_free rfl) ⟨g_dep 15 (by kernel_rfl) (at_dep rfl rfl rfl), trivial⟩ (fun w hw => rn_move rfl) (at_top rfl)) ?_
          refine bl_cons 18 rfl (isV _) (stab_isV _) (rgV (li := [(2, _)]) rfl (w_yes 116 rfl (by kernel_rfl) (by kernel_rfl) (at_dep rfl rfl rfl)) ⟨g_fr (by kernel_rfl) rfl, trivial⟩ (fun w hw => rn_field (o' := 7) gr_fa_29_7 rfl rfl) (at_top rfl)) ?_
          refine bl_cons 19 rfl (isV _) (stab_isV _) (rgV (li := [(117, _)]) rfl (w_yes 116 rfl (by kernel_rfl) (by kernel_rfl) (at_dep rfl rfl rfl)) ⟨g_dep 17 (by kernel_rfl) (at_dep rfl rfl rfl), trivial⟩ (fun w hw => rn_load Try.isAgg25 rfl ((below_agree hw 0).cell (Nat.zero_le _) (cell_own (hS.at_ 1 rfl) rfl))) (at_top rfl)) ?_
          refine bl_cons 20 rfl (isV _) (stab_isV _) (rgV (li := [(3, _)]) rfl (w_yes 116 rfl (by kernel_rfl) (by kernel_rfl) (at_dep rfl rfl rfl)) ⟨g_fr (by kernel_rfl) rfl, trivial⟩ (fun w hw => rn_field (o' := 6) gr_fa_50_6 rfl rfl) (at_top rfl)) ?_
          refine bl_cons 21 rfl (isV _) (stab_isV _) (rgV (li := [(119, _)]) rfl (w_yes 116 rfl (by kernel_rfl) (by kernel_rfl) (at_dep rfl rfl rfl)) ⟨g_dep 19 (by kernel_rfl) (at_dep rfl rfl rfl), trivial⟩ (fun w hw => rn_load Try.isAgg3 rfl ((below_agree hw 0).cell (Nat.zero_le _) (cell_own (hS.at_ 0 rfl) rfl))) (at_top rfl)) ?_
          refine bl_cons 22 rfl (isV _) (stab_isV _) (rgV (li := [(118, _), (120, _)]) rfl (w_yes 116 rfl (by kernel_rfl) (by kernel_rfl) (at_dep rfl rfl rfl)) ⟨g_dep 18 (by kernel_rfl) (at_dep rfl rfl rfl), g_dep 20 (by kernel_rfl) (at_dep rfl rfl rfl), trivial⟩ (fun w hw => rn_indexA (j := q) Try.underlying25 Try.sizeOf54 rfl rfl (by omega) (by omega) rfl) (at_top rfl)) ?_
          refine bl_cons 23 rfl (isV _) (stab_isV _) (rgV (li := [(121, _)]) rfl (w_yes 116 rfl (by kernel_rfl) (by kernel_rfl) (at_dep rfl rfl rfl)) ⟨g_dep 21 (by kernel_rfl) (at_dep rfl rfl rfl), trivial⟩ (fun w hw => rn_field gr_fa_54_2 rfl rfl) (at_top rfl)) ?_
          refine bl_cons 24 rfl (isV _) (stab_isV _) (rgV (li := [(122, _)]) rfl (w_yes 116 rfl (by kernel_rfl) (by kernel_rfl) (at_dep rfl rfl rfl)) ⟨g_dep 22 (by kernel_rfl) (at_dep rfl rfl rfl), trivial⟩ (fun w hw => rn_load Try.isAgg3 rfl ((below_agree hw 0).cell (Nat.zero_le _) (k6))) (at_top rfl)) ?_
          refine bl_cons 25 rfl (isV _) (stab_isV _) (rgV (li := [(3, _)]) rfl (w_yes 116 rfl (by kernel_rfl) (by kernel_rfl) (at_dep rfl rfl rfl)) ⟨g_fr (by kernel_rfl) rfl, trivial⟩ (fun w hw => rn_field (o' := 0) gr_fa_50_0 rfl rfl) (at_top rfl)) ?_
          refine bl_cons 26 rfl (isV _) (stab_isV _) (rgV (li := [(124, _)]) rfl (w_yes 116 rfl (by kernel_rfl) (by kernel_rfl) (at_dep rfl rfl rfl)) ⟨g_dep 24 (by kernel_rfl) (at_dep rfl rfl rfl), trivial⟩ (fun w hw => rn_load Try.isAgg3 rfl ((below_agree hw 0).cell (Nat.zero_le _) (cell_own (hS.at_ 0 rfl) rfl))) (at_top rfl)) ?_
          refine bl_cons 27 rfl (isV (.bool false)) (stab_isV _) (rgVe (li := [(123, _), (125, _)]) rfl (w_yes 116 rfl (by kernel_rfl) (by kernel_rfl) (at_dep rfl rfl rfl)) ⟨g_dep 23 (by kernel_rfl) (at_dep rfl rfl rfl), g_dep 25 (by kernel_rfl) (at_dep rfl rfl rfl), trivial⟩ (fun w hw => rn_eql rfl rfl) (by rw [decide_eq_false hfr]) (at_top rfl)) ?_
          refine bl_cons 28 rfl (isV _) (stab_isV _) (rgV (li := [(116, _), (126, _)]) rfl (w_free rfl) ⟨g_dep 16 (by kernel_rfl) (at_dep rfl rfl rfl), g_dep 26 (by kernel_rfl) (at_dep rfl rfl rfl), trivial⟩ (fun w hw => rn_pickT rfl rfl) (at_top rfl)) ?_
          refine bl_cons 29 rfl (isV _) (stab_isV _) (rgV (li := [(127, _)]) rfl (w_free rfl) ⟨g_dep 27 (by kernel_rfl) (at_dep rfl rfl rfl), trivial⟩ (fun w hw => rn_move rfl) (at_top rfl)) ?_
          refine bl_cons 30 rfl (isV undef) (stab_isV _) (rg_no rfl (w_no 128 rfl (by kernel_rfl) (by kernel_rfl) (at_dep rfl rfl rfl) rfl) (at_top rfl)) ?_
          refine bl_cons 31 rfl (isV undef) (stab_isV _) (rg_no rfl (w_no 128 rfl (by kernel_rfl) (by kernel_rfl) (at_dep rfl rfl rfl) rfl) (at_top rfl)) ?_
          refine bl_cons 32 rfl (isV undef) (stab_isV _) (rg_no rfl (w_no 128 rfl (by kernel_rfl) (by kernel_rfl) (at_dep rfl rfl rfl) rfl) (at_top rfl)) ?_
          refine bl_cons 33 rfl (isV undef) (stab_isV _) (rg_no rfl (w_no 128 rfl (by kernel_rfl) (by kernel_rfl) (at_dep rfl rfl rfl) rfl) (at_top rfl)) ?_
          refine bl_cons 34 rfl (isV undef) (stab_isV _) (rg_no rfl (w_no 128 rfl (by kernel_rfl) (by kernel_rfl) (at_dep rfl rfl rfl) rfl) (at_top rfl)) ?_
          refine bl_cons 35 rfl (isV undef) (stab_isV _) (rg_no rfl (w_no 128 rfl (by kernel_rfl) (by kernel_rfl) (at_dep rfl rfl rfl) rfl) (at_top rfl)) ?_
          refine bl_cons 36 rfl (isV undef) (stab_isV _) (rg_no rfl (w_no 128 rfl (by kernel_rfl) (by kernel_rfl) (at_dep rfl rfl rfl) rfl) (at_top rfl)) ?_
          refine bl_cons 37 rfl (isV undef) (stab_isV _) (rg_no rfl (w_no 128 rfl (by kernel_rfl) (by kernel_rfl) (at_dep rfl rfl rfl) rfl) (at_top rfl)) ?_
          refine bl_cons 38 rfl (isV undef) (stab_isV _) (rg_no rfl (w_no 128 rfl (by kernel_rfl) (by kernel_rfl) (at_dep rfl rfl rfl) rfl) (at_top rfl)) ?_
          refine bl_cons 39 rfl (isV undef) (stab_isV _) (rg_no rfl (w_no 128 rfl (by kernel_rfl) (by kernel_rfl) (at_dep rfl rfl rfl) rfl) (at_top rfl)) ?_
          refine bl_cons 40 rfl (isV _) (stab_isV _) (rgV (li := [(128, _)]) rfl (w_free rfl) ⟨g_dep 28 (by kernel_rfl) (at_dep rfl rfl rfl), trivial⟩ (fun w hw => rn_pickF rfl rfl) (at_top rfl)) ?_
          refine bl_cons 41 rfl (isV _) (stab_isV _) (rgV (li := [(139, _)]) rfl (w_free rfl) ⟨g_dep 39 (by kernel_rfl) (at_dep rfl rfl rfl), trivial⟩ (fun w hw => rn_assign rfl) (at_top rfl)) ?_
          refine bl_nil ?_
          intro W13 hbR hS'
          clear hS; have hS := hS'; clear hS'
          refine fin_v ?_
          refine fin_v ?_
          refine fin_v ?_
          refine fin_v ?_
          refine fin_v ?_
          refine fin_v ?_
          refine fin_v ?_
          refine fin_v ?_
          refine fin_v ?_
          refine fin_v ?_
          refine fin_v ?_
          refine fin_v ?_
          refine fin_v ?_
          refine fin_v ?_
          refine fin_v ?_
          refine fin_v ?_
          refine fin_v ?_
          refine fin_v ?_
          refine fin_v ?_
          refine fin_v ?_
          refine fin_v ?_
          refine fin_v ?_
          refine fin_v ?_
          refine fin_v ?_
          refine fin_v ?_
          refine fin_v ?_
          refine fin_v ?_
          refine fin_v ?_
          refine fin_v ?_
          refine fin_v ?_
          refine fin_v ?_
          refine fin_v ?_
          refine fin_v ?_
          refine fin_v ?_
          refine fin_v ?_
          refine fin_v ?_
          refine fin_v ?_
          refine fin_v ?_
          refine fin_v ?_
          refine fin_v ?_
          refine fin_v ?_
          refine fin_nil ?_
          refine XF.thenN ?_
          refine retF ?_
          refine XF.blkR ?_
          refine XF.thenR ?_
          refine XF.res (res1 Try.results28 rfl) ?_
          exact ⟨gr_rbool (by rw [hrk]; unfold refK; dsimp only; rw [if_neg n1, if_neg (by omega), if_neg n3, if_pos h8, decide_eq_true hx0, decide_eq_true hy0, siteR_at htl eq hq hu, decide_eq_false hfr]; rfl), hS.below⟩
         ·obtain ⟨tb, to_, u1, rfl, hu1, huc⟩ := ht.get (i := q) (by omega)
          obtain rfl : u = u1 := Option.some.inj (hu.symm.trans hu1)
          have k5 := CellsAt.agree hS.agree (Nat.zero_le _) huc
          have k6 := k5.2.2.1
          have k7 := k5.2.2.2.1
          refine regB (m := 41) gr_followsM hS (by kernel_rfl) (by kernel_rfl) rfl ?_
          refine bl_cons 1 rfl (isV _) (stab_isV _) (rgV (li := [(3, _)]) rfl (w_free rfl) ⟨g_fr (by kernel_rfl) rfl, trivial⟩ (fun w hw => rn_field (o' := 3) gr_fa_50_3 rfl rfl) (at_top rfl)) ?_
          refine bl_cons 2 rfl (isV _) (stab_isV _) (rgV (li := [(100, _)]) rfl (w_free rfl) ⟨g_dep 0 (by kernel_rfl) (at_dep rfl rfl rfl), trivial⟩ (fun w hw => rn_load Try.isAgg3 rfl ((below_agree hw 0).cell (Nat.zero_le _) (cell_own (hS.at_ 0 rfl) rfl))) (at_top rfl)) ?_
          refine bl_cons 3 rfl (isV (.bool true)) (stab_isV _) (rgVe (li := [(101, _)]) rfl (w_free rfl) ⟨g_dep 1 (by kernel_rfl) (at_dep rfl rfl rfl), trivial⟩ (fun w hw => rn_eql rfl rfl) (by rw [decide_eq_true hx0]) (at_top rfl)) ?_
          refine bl_cons 4 rfl (isV _) (stab_isV _) (rgV (li := [(102, _)]) rfl (w_free rfl) ⟨g_dep 2 (by kernel_rfl) (at_dep rfl rfl rfl), trivial⟩ (fun w hw => rn_move rfl) (at_top rfl)) ?_
          refine bl_cons 5 rfl (isV _) (stab_isV _) (rgV (li := [(3, _)]) rfl (w_yes 103 rfl (by kernel_rfl) (by kernel_rfl) (at_dep rfl rfl rfl)) ⟨g_fr (by kernel_rfl) rfl, trivial⟩ (fun w hw => rn_field (o' := 4) gr_fa_50_4 rfl rfl) (at_top rfl)) ?_
          refine bl_cons 6 rfl (isV _) (stab_isV _) (rgV (li := [(104, _)]) rfl (w_yes 103 rfl (by kernel_rfl) (by kernel_rfl) (at_dep rfl rfl rfl)) ⟨g_dep 4 (by kernel_rfl) (at_dep rfl rfl rfl), trivial⟩ (fun w hw => rn_load Try.isAgg3 rfl ((below_agree hw 0).cell (Nat.zero_le _) (cell_own (hS.at_ 0 rfl) rfl))) (at_top rfl)) ?_
          refine bl_cons 7 rfl (isV (.bool true)) (stab_isV _) (rgVe (li := [(105, _)]) rfl (w_yes 103 rfl (by kernel_rfl) (by kernel_rfl) (at_dep rfl rfl rfl)) ⟨g_dep 5 (by kernel_rfl) (at_dep rfl rfl rfl), trivial⟩ (fun w hw => rn_eql rfl rfl) (by rw [decide_eq_true hy0]) (at_top rfl)) ?_
          refine bl_cons 8 rfl (isV _) (stab_isV _) (rgV (li := [(103, _), (106, _)]) rfl (w_free rfl) ⟨g_dep 3 (by kernel_rfl) (at_dep rfl rfl rfl), g_dep 6 (by kernel_rfl) (at_dep rfl rfl rfl), trivial⟩ (fun w hw => rn_pickT rfl rfl) (at_top rfl)) ?_
          refine bl_cons 9 rfl (isV _) (stab_isV _) (rgV (li := [(107, _)]) rfl (w_free rfl) ⟨g_dep 7 (by kernel_rfl) (at_dep rfl rfl rfl), trivial⟩ (fun w hw => rn_move rfl) (at_top rfl)) ?_
          refine bl_cons 10 rfl (isV _) (stab_isV _) (rgV (li := [(3, _)]) rfl (w_yes 108 rfl (by kernel_rfl) (by kernel_rfl) (at_dep rfl rfl rfl)) ⟨g_fr (by kernel_rfl) rfl, trivial⟩ (fun w hw => rn_field (o' := 6) gr_fa_50_6 rfl rfl) (at_top rfl)) ?_
          refine bl_cons 11 rfl (isV _) (stab_isV _) (rgV (li := [(109, _)]) rfl (w_yes 108 rfl (by kernel_rfl) (by kernel_rfl) (at_dep rfl rfl rfl)) ⟨g_dep 9 (by kernel_rfl) (at_dep rfl rfl rfl), trivial⟩ (fun w hw => rn_load Try.isAgg3 rfl ((below_agree hw 0).cell (Nat.zero_le _) (cell_own (hS.at_ 0 rfl) rfl))) (at_top rfl)) ?_
          refine bl_cons 12 rfl (isV _) (stab_isV _) (rgV (li := [(2, _)]) rfl (w_yes 108 rfl (by kernel_rfl) (by kernel_rfl) (at_dep rfl rfl rfl)) ⟨g_fr (by kernel_rfl) rfl, trivial⟩ (fun w hw => rn_field (o' := 7) gr_fa_29_7 rfl rfl) (at_top rfl)) ?_
          refine bl_cons 13 rfl (isV _) (stab_isV _) (rgV (li := [(111, _)]) rfl (w_yes 108 rfl (by kernel_rfl) (by kernel_rfl) (at_dep rfl rfl rfl)) ⟨g_dep 11 (by kernel_rfl) (at_dep rfl rfl rfl), trivial⟩ (fun w hw => rn_load Try.isAgg25 rfl ((below_agree hw 0).cell (Nat.zero_le _) (cell_own (hS.at_ 1 rfl) rfl))) (at_top rfl)) ?_
          refine bl_cons 14 rfl (isV _) (stab_isV _) (rgV (li := [(112, _)]) rfl (w_yes 108 rfl (by kernel_rfl) (by kernel_rfl) (at_dep rfl rfl rfl)) ⟨g_dep 12 (by kernel_rfl) (at_dep rfl rfl rfl), trivial⟩ (fun w hw => rn_len Try.underlying25 rfl) (at_top rfl)) ?_
          refine bl_cons 15 rfl (isV (.bool true)) (stab_isV _) (rg_call [isV _, isV _] rfl gr_goes_29 (w_yes 108 rfl (by kernel_rfl) (by kernel_rfl) (at_dep rfl rfl rfl)) ⟨p_tmp (g_dep 10 (by kernel_rfl) (at_dep rfl rfl rfl)), p_tmp (g_dep 13 (by kernel_rfl) (at_dep rfl rfl rfl)), trivial⟩ (fun vs w' hb hh => by have e := holds_isV (us := [_, _]) hh; subst e; exact (in_is s.s _ _).mono fun e w2 h => ⟨_, by rw [h.1, hin], rfl, h.2⟩) (at_top rfl)) ?_
          refine bl_cons 16 rfl (isV _) (stab_isV _) (rgV (li := [(108, _), (114, _)]) rfl (w_free rfl) ⟨g_dep 8 (by kernel_rfl) (at_dep rfl rfl rfl), g_dep 14 (by kernel_rfl) (at_dep rfl rfl rfl), trivial⟩ (fun w hw => rn_pickT rfl rfl) (at_top rfl)) ?_
          refine bl_cons 17 rfl (isV _) (stab_isV _) (rgV (li := [(115, _)]) rfl (w_free rfl) ⟨g_dep 15 (by kernel_rfl) (at_dep rfl rfl rfl), trivial⟩ (fun w hw => rn_move rfl) (at_top rfl)) ?_
          refine bl_cons 18 rfl (isV _) (stab_isV _) (rgV (li := [(2, _)]) rfl (w_yes 116 rfl (by kernel_rfl) (by kernel_rfl) (at_dep rfl rfl rfl)) ⟨g_fr (by kernel_rfl) rfl, trivial⟩ (fun w hw => rn_field (o' := 7) gr_fa_29_7 rfl rfl) (at_top rfl)) ?_
          refine bl_cons 19 rfl (isV _) (stab_isV _) (rgV (li := [(117, _)]) rfl (w_yes 116 rfl (by kernel_rfl) (by kernel_rfl) (at_dep rfl rfl rfl)) ⟨g_dep 17 (by kernel_rfl) (at_dep rfl rfl rfl), trivial⟩ (fun w hw => rn_load Try.isAgg25 rfl ((below_agree hw 0).cell (Nat.zero_le _) (cell_own (hS.at_ 1 rfl) rfl))) (at_top rfl)) ?_
          refine bl_cons 20 rfl (isV _) (stab_isV _) (rgV (li := [(3, _)]) rfl (w_yes 116 rfl (by kernel_rfl) (by kernel_rfl) (at_dep rfl rfl rfl)) ⟨g_fr (by kernel_rfl) rfl, trivial⟩ (fun w hw => rn_field (o' := 6) gr_fa_50_6 rfl rfl) (at_top rfl)) ?_
          refine bl_cons 21 rfl (isV _) (stab_isV _) (rgV (li := [(119, _)]) rfl (w_yes 116 rfl (by kernel_rfl) (by kernel_rfl) (at_dep rfl rfl rfl)) ⟨g_dep 19 (by kernel_rfl) (at_dep rfl rfl rfl), trivial⟩ (fun w hw => rn_load Try.isAgg3 rfl ((below_agree hw 0).cell (Nat.zero_le _) (cell_own (hS.at_ 0 rfl) rfl))) (at_top rfl)) ?_
          refine bl_cons 22 rfl (isV _) (stab_isV _) (rgV (li := [(118, _), (120, _)]) rfl (w_yes 116 rfl (by kernel_rfl) (by kernel_rfl) (at_dep rfl rfl rfl)) ⟨g_dep 18 (by kernel_rfl) (at_dep rfl rfl rfl), g_dep 20 (by kernel_rfl) (at_dep rfl rfl rfl), trivial⟩ (fun w hw => rn_indexA (j := q) Try.underlying25 Try.sizeOf54 rfl rfl (by omega) (by omega) rfl) (at_top rfl)) ?_
          refine bl_cons 23 rfl (isV _) (stab_isV _) (rgV (li := [(121, _)]) rfl (w_yes 116 rfl (by kernel_rfl) (by kernel_rfl) (at_dep rfl rfl rfl)) ⟨g_dep 21 (by kernel_rfl) (at_dep rfl rfl rfl), trivial⟩ (fun w hw => rn_field gr_fa_54_2 rfl rfl) (at_top rfl)) ?_
          refine bl_cons 24 rfl (isV _) (stab_isV _) (rgV (li := [(122, _)]) rfl (w_yes 116 rfl (by kernel_rfl) (by kernel_rfl) (at_dep rfl rfl rfl)) ⟨g_dep 22 (by kernel_rfl) (at_dep rfl rfl rfl), trivial⟩ (fun w hw => rn_load Try.isAgg3 rfl ((below_agree hw 0).cell (Nat.zero_le _) (k6))) (at_top rfl)) ?_
          refine bl_cons 25 rfl (isV _) (stab_isV _) (rgV (li := [(3, _)]) rfl (w_yes 116 rfl (by kernel_rfl) (by kernel_rfl) (at_dep rfl rfl rfl)) ⟨g_fr (by kernel_rfl) rfl, trivial⟩ (fun w hw => rn_field (o' := 0) gr_fa_50_0 rfl rfl) (at_top rfl)) ?_
          refine bl_cons 26 rfl (isV _) (stab_isV _) (rgV (li := [(124, _)]) rfl (w_yes 116 rfl (by kernel_rfl) (by kernel_rfl) (at_dep rfl rfl rfl)) ⟨g_dep 24 (by kernel_rfl) (at_dep rfl rfl rfl), trivial⟩ (fun w hw => rn_load Try.isAgg3 rfl ((below_agree hw 0).cell (Nat.zero_le _) (cell_own (hS.at_ 0 rfl) rfl))) (at_top rfl)) ?_
          refine bl_cons 27 rfl (isV (.bool true)) (stab_isV _) (rgVe (li := [(123, _), (125, _)]) rfl (w_yes 116 rfl (by kernel_rfl) (by kernel_rfl) (at_dep rfl rfl rfl)) ⟨g_dep 23 (by kernel_rfl) (at_dep rfl rfl rfl), g_dep 25 (by kernel_rfl) (at_dep rfl rfl rfl), trivial⟩ (fun w hw => rn_eql rfl rfl) (by rw [decide_eq_true hfr]) (at_top rfl)) ?_
          refine bl_cons 28 rfl (isV _) (stab_isV _) (rgV (li := [(116, _), (126, _)]) rfl (w_free rfl) ⟨g_dep 16 (by kernel_rfl) (at_dep rfl rfl rfl), g_dep 26 (by kernel_rfl) (at_dep rfl rfl rfl), trivial⟩ (fun w hw => rn_pickT rfl rfl) (at_top rfl)) ?_
          refine bl_cons 29 rfl (isV _) (stab_isV _) (rgV (li := [(127, _)]) rfl (w_free rfl) ⟨g_dep 27 (by kernel_rfl) (at_dep rfl rfl rfl), trivial⟩ (fun w hw => rn_move rfl) (at_top rfl)) ?_
          refine bl_cons 30 rfl (isV _) (stab_isV _) (rgV (li := [(2, _)]) rfl (w_yes 128 rfl (by kernel_rfl) (by kernel_rfl) (at_dep rfl rfl rfl)) ⟨g_fr (by kernel_rfl) rfl, trivial⟩ (fun w hw => rn_field (o' := 7) gr_fa_29_7 rfl rfl) (at_top rfl)) ?_
          refine bl_cons 31 rfl (isV _) (stab_isV _) (rgV (li := [(129, _)]) rfl (w_yes 128 rfl (by kernel_rfl) (by kernel_rfl) (at_dep rfl rfl rfl)) ⟨g_dep 29 (by kernel_rfl) (at_dep rfl rfl rfl), trivial⟩ (fun w hw => rn_load Try.isAgg25 rfl ((below_agree hw 0).cell (Nat.zero_le _) (cell_own (hS.at_ 1 rfl) rfl))) (at_top rfl)) ?_
          refine bl_cons 32 rfl (isV _) (stab_isV _) (rgV (li := [(3, _)]) rfl (w_yes 128 rfl (by kernel_rfl) (by kernel_rfl) (at_dep rfl rfl rfl)) ⟨g_fr (by kernel_rfl) rfl, trivial⟩ (fun w hw => rn_field (o' := 6) gr_fa_50_6 rfl rfl) (at_top rfl)) ?_
          refine bl_cons 33 rfl (isV _) (stab_isV _) (rgV (li := [(131, _)]) rfl (w_yes 128 rfl (by kernel_rfl) (by kernel_rfl) (at_dep rfl rfl rfl)) ⟨g_dep 31 (by kernel_rfl) (at_dep rfl rfl rfl), trivial⟩ (fun w hw => rn_load Try.isAgg3 rfl ((below_agree hw 0).cell (Nat.zero_le _) (cell_own (hS.at_ 0 rfl) rfl))) (at_top rfl)) ?_
          refine bl_cons 34 rfl (isV _) (stab_isV _) (rgV (li := [(130, _), (132, _)]) rfl (w_yes 128 rfl (by kernel_rfl) (by kernel_rfl) (at_dep rfl rfl rfl)) ⟨g_dep 30 (by kernel_rfl) (at_dep rfl rfl rfl), g_dep 32 (by kernel_rfl) (at_dep rfl rfl rfl), trivial⟩ (fun w hw => rn_indexA (j := q) Try.underlying25 Try.sizeOf54 rfl rfl (by omega) (by omega) rfl) (at_top rfl)) ?_
          refine bl_cons 35 rfl (isV _) (stab_isV _) (rgV (li := [(133, _)]) rfl (w_yes 128 rfl (by kernel_rfl) (by kernel_rfl) (at_dep rfl rfl rfl)) ⟨g_dep 33 (by kernel_rfl) (at_dep rfl rfl rfl), trivial⟩ (fun w hw => rn_field gr_fa_54_3 rfl rfl) (at_top rfl)) ?_
          refine bl_cons 36 rfl (isV _) (stab_isV _) (rgV (li := [(134, _)]) rfl (w_yes 128 rfl (by kernel_rfl) (by kernel_rfl) (at_dep rfl rfl rfl)) ⟨g_dep 34 (by kernel_rfl) (at_dep rfl rfl rfl), trivial⟩ (fun w hw => rn_load Try.isAgg3 rfl ((below_agree hw 0).cell (Nat.zero_le _) (k7))) (at_top rfl)) ?_
          refine bl_cons 37 rfl (isV _) (stab_isV _) (rgV (li := [(3, _)]) rfl (w_yes 128 rfl (by kernel_rfl) (by kernel_rfl) (at_dep rfl rfl rfl)) ⟨g_fr (by kernel_rfl) rfl, trivial⟩ (fun w hw => rn_field (o' := 1) gr_fa_50_1 rfl rfl) (at_top rfl)) ?_
          refine bl_cons 38 rfl (isV _) (stab_isV _) (rgV (li := [(136, _)]) rfl (w_yes 128 rfl (by kernel_rfl) (by kernel_rfl) (at_dep rfl rfl rfl)) ⟨g_dep 36 (by kernel_rfl) (at_dep rfl rfl rfl), trivial⟩ (fun w hw => rn_load Try.isAgg3 rfl ((below_agree hw 0).cell (Nat.zero_le _) (cell_own (hS.at_ 0 rfl) rfl))) (at_top rfl)) ?_
          refine bl_cons 39 rfl (isV _) (stab_isV _) (rgV (li := [(135, _), (137, _)]) rfl (w_yes 128 rfl (by kernel_rfl) (by kernel_rfl) (at_dep rfl rfl rfl)) ⟨g_dep 35 (by kernel_rfl) (at_dep rfl rfl rfl), g_dep 37 (by kernel_rfl) (at_dep rfl rfl rfl), trivial⟩ (fun w hw => rn_eql rfl rfl) (at_top rfl)) ?_
          refine bl_cons 40 rfl (isV _) (stab_isV _) (rgV (li := [(128, _), (138, _)]) rfl (w_free rfl) ⟨g_dep 28 (by kernel_rfl) (at_dep rfl rfl rfl), g_dep 38 (by kernel_rfl) (at_dep rfl rfl rfl), trivial⟩ (fun w hw => rn_pickT rfl rfl) (at_top rfl)) ?_
          refine bl_cons 41 rfl (isV _) (stab_isV _) (rgV (li := [(139, _)]) rfl (w_free rfl) ⟨g_dep 39 (by kernel_rfl) (at_dep rfl rfl rfl), trivial⟩ (fun w hw => rn_assign rfl) (at_top rfl)) ?_
          refine bl_nil ?_
          intro W14 hbR hS'
          clear hS; have hS := hS'; clear hS'
          refine fin_v ?_
          refine fin_v ?_
          refine fin_v ?_
          refine fin_v ?_
          refine fin_v ?_
          refine fin_v ?_
          refine fin_v ?_
          refine fin_v ?_
          refine fin_v ?_
          refine fin_v ?_
          refine fin_v ?_
          refine fin_v ?_
          refine fin_v ?_
          refine fin_v ?_
          refine fin_v ?_
          refine fin_v ?_
          refine fin_v ?_
          refine fin_v ?_
          refine fin_v ?_
          refine fin_v ?_
          refine fin_v ?_
          refine fin_v ?_
          refine fin_v ?_
          refine fin_v ?_
          refine fin_v ?_
          refine fin_v ?_
          refine fin_v ?_
          refine fin_v ?_
          refine fin_v ?_
          refine fin_v ?_
          refine fin_v ?_
          refine fin_v ?_
          refine fin_v ?_
          refine fin_v ?_
          refine fin_v ?_
          refine fin_v ?_
          refine fin_v ?_
          refine fin_v ?_
          refine fin_v ?_
          refine fin_v ?_
          refine fin_v ?_
          refine fin_nil ?_
          refine XF.thenN ?_
          refine retF ?_
          refine XF.blkR ?_
          refine XF.thenR ?_
          refine XF.res (res1 Try.results28 rfl) ?_
          exact ⟨gr_rbool (by rw [hrk]; unfold refK; dsimp only; rw [if_neg n1, if_neg (by omega), if_neg n3, if_pos h8, decide_eq_true hx0, decide_eq_true hy0, siteR_at htl eq hq hu, decide_eq_true hfr]; rfl), hS.below⟩
        ·have hc98 := of_decide_eq_false hc; clear hc
         have n8 : ¬ s.k = 8 := hc98
         refine skipF ?_
         refine XF.blkN ?_
         refine XF.thenN ?_
         refine seqF (regF ?_)
         refine op_assign rfl rfl ?_
         refine endF (XF.thenN ?_)
         refine retF ?_
         refine XF.res (res1 Try.results28 rfl) ?_
         exact ⟨gr_rbool (by rw [hrk]; unfold refK; dsimp only; rw [if_neg n1, if_neg (by omega), if_neg n3, if_neg n8]), hS.below⟩
 ·skip
  refine seqF ?_
  rcases (step_cases hol s) with hf | ⟨hf, hg⟩ | ⟨hf, hg, kf, kt, y1, y2, ef, et, hkf, hkt, hy1, hy2, hne | ⟨hee, hkk, hk2⟩ | ⟨hee, hkk, hz, hk8⟩ | ⟨hee, hkk, hk2, hz, hk8⟩ | ⟨hee, hkk, hz⟩ | ⟨hee, hkk, hz, hk8⟩ | ⟨hee, hkk, hk2, hz⟩⟩
  ·skip
   refine regB (m := 47) gr_followsM hS (by kernel_rfl) (by kernel_rfl) rfl ?_
   refine bl_cons 1 rfl (isV _) (stab_isV _) (rgV (li := [(3, _)]) rfl (w_free rfl) ⟨g_fr (by kernel_rfl) rfl, trivial⟩ (fun w hw => rn_field (o' := 0) gr_fa_50_0 rfl rfl) (at_top rfl)) ?_
   refine bl_cons 2 rfl (isV _) (stab_isV _) (rgV (li := [(13, _)]) rfl (w_free rfl) ⟨g_dep 0 (by kernel_rfl) (at_dep rfl rfl rfl), trivial⟩ (fun w hw => rn_load Try.isAgg3 rfl ((below_agree hw 0).cell (Nat.zero_le _) (cell_own (hS.at_ 0 rfl) rfl))) (at_top rfl)) ?_
   refine bl_cons 3 rfl (isV _) (stab_isV _) (rgV (li := [(5, _)]) rfl (w_free rfl) ⟨g_fr (by kernel_rfl) rfl, trivial⟩ (fun w hw => rn_move rfl) (at_top rfl)) ?_
   refine bl_cons 4 rfl (isV (.bool false)) (stab_isV _) (rg_call [isV _, isV _] rfl gr_goes_29 (w_free rfl) ⟨p_tmp (g_dep 1 (by kernel_rfl) (at_dep rfl rfl rfl)), p_tmp (g_dep 2 (by kernel_rfl) (at_dep rfl rfl rfl)), trivial⟩ (fun vs w' hb hh => by have e := holds_isV (us := [_, _]) hh; subst e; exact (in_is s.f _ _).mono fun e w2 h => ⟨_, by rw [h.1, hf], rfl, h.2⟩) (at_top rfl)) ?_
   refine bl_cons 5 rfl (isV _) (stab_isV _) (rgV (li := [(16, _)]) rfl (w_free rfl) ⟨g_dep 3 (by kernel_rfl) (at_dep rfl rfl rfl), trivial⟩ (fun w hw => rn_not rfl) (at_top rfl)) ?_
   refine bl_cons 6 rfl (isV _) (stab_isV _) (rgV (li := [(17, _)]) rfl (w_free rfl) ⟨g_dep 4 (by kernel_rfl) (at_dep rfl rfl rfl), trivial⟩ (fun w hw => rn_move rfl) (at_top rfl)) ?_
   refine bl_cons 7 rfl (isV undef) (stab_isV _) (rg_no rfl (w_no 18 rfl (by kernel_rfl) (by kernel_rfl) (at_dep rfl rfl rfl) rfl) (at_top rfl)) ?_
   refine bl_cons 8 rfl (isV undef) (stab_isV _) (rg_no rfl (w_no 18 rfl (by kernel_rfl) (by kernel_rfl) (at_dep rfl rfl rfl) rfl) (at_top rfl)) ?_
   refine bl_cons 9 rfl (isV undef) (stab_isV _) (rg_no rfl (w_no 18 rfl (by kernel_rfl) (by kernel_rfl) (at_dep rfl rfl rfl) rfl) (at_top rfl)) ?_
   refine bl_cons 10 rfl (isV undef) (stab_isV _) (rg_no rfl (w_no 18 rfl (by kernel_rfl) (by kernel_rfl) (at_dep rfl rfl rfl) rfl) (at_top rfl)) ?_
   refine bl_cons 11 rfl (isV undef) (stab_isV _) (rg_no rfl (w_no 18 rfl (by kernel_rfl) (by kernel_rfl) (at_dep rfl rfl rfl) rfl) (at_top rfl)) ?_
   refine bl_cons 12 rfl (isV _) (stab_isV _) (rgV (li := [(18, _)]) rfl (w_free rfl) ⟨g_dep 5 (by kernel_rfl) (at_dep rfl rfl rfl), trivial⟩ (fun w hw => rn_pickT rfl rfl) (at_top rfl)) ?_
   refine bl_cons 13 rfl (isV _) (stab_isV _) (rgV (li := [(24, _)]) rfl (w_free rfl) ⟨g_dep 11 (by kernel_rfl) (at_dep rfl rfl rfl), trivial⟩ (fun w hw => rn_move rfl) (at_top rfl)) ?_
   refine bl_cons 14 rfl (isV undef) (stab_isV _) (rg_no rfl (w_no 25 rfl (by kernel_rfl) (by kernel_rfl) (at_dep rfl rfl rfl) rfl) (at_top rfl)) ?_
   refine bl_cons 15 rfl (isV undef) (stab_isV _) (rg_no rfl (w_no 25 rfl (by kernel_rfl) (by kernel_rfl) (at_dep rfl rfl rfl) rfl) (at_top rfl)) ?_
   refine bl_cons 16 rfl (isV undef) (stab_isV _) (rg_no rfl (w_no 25 rfl (by kernel_rfl) (by kernel_rfl) (at_dep rfl rfl rfl) rfl) (at_top rfl)) ?_
   refine bl_cons 17 rfl (isV undef) (stab_isV _) (rg_no rfl (w_no 25 rfl (by kernel_rfl) (by kernel_rfl) (at_dep rfl rfl rfl) rfl) (at_top rfl)) ?_
   refine bl_cons 18 rfl (isV undef) (stab_isV _) (rg_no rfl (w_no 25 rfl (by kernel_rfl) (by kernel_rfl) (at_dep rfl rfl rfl) rfl) (at_top rfl)) ?_
   refine bl_cons 19 rfl (isV undef) (stab_isV _) (rg_no rfl (w_no 25 rfl (by kernel_rfl) (by kernel_rfl) (at_dep rfl rfl rfl) rfl) (at_top rfl)) ?_
   refine bl_cons 20 rfl (isV undef) (stab_isV _) (rg_no rfl (w_no 25 rfl (by kernel_rfl) (by kernel_rfl) (at_dep rfl rfl rfl) rfl) (at_top rfl)) ?_
   refine bl_cons 21 rfl (isV undef) (stab_isV _) (rg_no rfl (w_no 25 rfl (by kernel_rfl) (by kernel_rfl) (at_dep rfl rfl rfl) rfl) (at_top rfl)) ?_
   refine bl_cons 22 rfl (isV undef) (stab_isV _) (rg_no rfl (w_no 25 rfl (by kernel_rfl) (by kernel_rfl) (at_dep rfl rfl rfl) rfl) (at_top rfl)) ?_
   refine bl_cons 23 rfl (isV undef) (stab_isV _) (rg_no rfl (w_no 25 rfl (by kernel_rfl) (by kernel_rfl) (at_dep rfl rfl rfl) rfl) (at_top rfl)) ?_
   refine bl_cons 24 rfl (isV undef) (stab_isV _) (rg_no rfl (w_no 25 rfl (by kernel_rfl) (by kernel_rfl) (at_dep rfl rfl rfl) rfl) (at_top rfl)) ?_
   refine bl_cons 25 rfl (isV undef) (stab_isV _) (rg_no rfl (w_no 25 rfl (by kernel_rfl) (by kernel_rfl) (at_dep rfl rfl rfl) rfl) (at_top rfl)) ?_
   refine bl_cons 26 rfl (isV undef) (stab_isV _) (rg_no rfl (w_no 25 rfl (by kernel_rfl) (by kernel_rfl) (at_dep rfl rfl rfl) rfl) (at_top rfl)) ?_
   refine bl_cons 27 rfl (isV _) (stab_isV _) (rgV (li := [(25, _)]) rfl (w_free rfl) ⟨g_dep 12 (by kernel_rfl) (at_dep rfl rfl rfl), trivial⟩ (fun w hw => rn_pickT rfl rfl) (at_top rfl)) ?_
   refine bl_cons 28 rfl (isV _) (stab_isV _) (rgV (li := [(39, _)]) rfl (w_free rfl) ⟨g_dep 26 (by kernel_rfl) (at_dep rfl rfl rfl), trivial⟩ (fun w hw => rn_move rfl) (at_top rfl)) ?_
   refine bl_cons 29 rfl (isV undef) (stab_isV _) (rg_no rfl (w_no 40 rfl (by kernel_rfl) (by kernel_rfl) (at_dep rfl rfl rfl) rfl) (at_top rfl)) ?_
   refine bl_cons 30 rfl (isV undef) (stab_isV _) (rg_no rfl (w_no 40 rfl (by kernel_rfl) (by kernel_rfl) (at_dep rfl rfl rfl) rfl) (at_top rfl)) ?_
   refine bl_cons 31 rfl (isV undef) (stab_isV _) (rg_no rfl (w_no 40 rfl (by kernel_rfl) (by kernel_rfl) (at_dep rfl rfl rfl) rfl) (at_top rfl)) ?_
   refine bl_cons 32 rfl (isV undef) (stab_isV _) (rg_no rfl (w_no 40 rfl (by kernel_rfl) (by kernel_rfl) (at_dep rfl rfl rfl) rfl) (at_top rfl)) ?_
   refine bl_cons 33 rfl (isV undef) (stab_isV _) (rg_no rfl (w_un 44 rfl (by kernel_rfl) (by kernel_rfl) (at_dep rfl rfl rfl)) (at_top rfl)) ?_
   refine bl_cons 34 rfl (isV undef) (stab_isV _) (rg_no rfl (w_un 44 rfl (by kernel_rfl) (by kernel_rfl) (at_dep rfl rfl rfl)) (at_top rfl)) ?_
   refine bl_cons 35 rfl (isV undef) (stab_isV _) (rg_no rfl (w_un 44 rfl (by kernel_rfl) (by kernel_rfl) (at_dep rfl rfl rfl)) (at_top rfl)) ?_
   refine bl_cons 36 rfl (isV undef) (stab_isV _) (rg_no rfl (w_no 40 rfl (by kernel_rfl) (by kernel_rfl) (at_dep rfl rfl rfl) rfl) (at_top rfl)) ?_
   refine bl_cons 37 rfl (isV _) (stab_isV _) (rgV (li := [(40, _)]) rfl (w_free rfl) ⟨g_dep 27 (by kernel_rfl) (at_dep rfl rfl rfl), trivial⟩ (fun w hw => rn_pickT rfl rfl) (at_top rfl)) ?_
   refine bl_cons 38 rfl (isV _) (stab_isV _) (rgV (li := [(49, _)]) rfl (w_free rfl) ⟨g_dep 36 (by kernel_rfl) (at_dep rfl rfl rfl), trivial⟩ (fun w hw => rn_move rfl) (at_top rfl)) ?_
   refine bl_cons 39 rfl (isV undef) (stab_isV _) (rg_no rfl (w_no 50 rfl (by kernel_rfl) (by kernel_rfl) (at_dep rfl rfl rfl) rfl) (at_top rfl)) ?_
   refine bl_cons 40 rfl (isV undef) (stab_isV _) (rg_no rfl (w_no 50 rfl (by kernel_rfl) (by kernel_rfl) (at_dep rfl rfl rfl) rfl) (at_top rfl)) ?_
   refine bl_cons 41 rfl (isV undef) (stab_isV _) (rg_no rfl (w_no 50 rfl (by kernel_rfl) (by kernel_rfl) (at_dep rfl rfl rfl) rfl) (at_top rfl)) ?_
   refine bl_cons 42 rfl (isV undef) (stab_isV _) (rg_no rfl (w_no 50 rfl (by kernel_rfl) (by kernel_rfl) (at_dep rfl rfl rfl) rfl) (at_top rfl)) ?_
   refine bl_cons 43 rfl (isV undef) (stab_isV _) (rg_no rfl (w_un 54 rfl (by kernel_rfl) (by kernel_rfl) (at_dep rfl rfl rfl)) (at_top rfl)) ?_
   refine bl_cons 44 rfl (isV undef) (stab_isV _) (rg_no rfl (w_un 54 rfl (by kernel_rfl) (by kernel_rfl) (at_dep rfl rfl rfl)) (at_top rfl)) ?_
   refine bl_cons 45 rfl (isV undef) (stab_isV _) (rg_no rfl (w_un 54 rfl (by kernel_rfl) (by kernel_rfl) (at_dep rfl rfl rfl)) (at_top rfl)) ?_
   refine bl_cons 46 rfl (isV undef) (stab_isV _) (rg_no rfl (w_no 50 rfl (by kernel_rfl) (by kernel_rfl) (at_dep rfl rfl rfl) rfl) (at_top rfl)) ?_
   refine bl_cons 47 rfl (isV _) (stab_isV _) (rgV (li := [(50, _)]) rfl (w_free rfl) ⟨g_dep 37 (by kernel_rfl) (at_dep rfl rfl rfl), trivial⟩ (fun w hw => rn_pickT rfl rfl) (at_top rfl)) ?_
   refine bl_nil ?_
   intro W15 hbR hS'
   clear hS; have hS := hS'; clear hS'
   refine fin_v ?_
   refine fin_v ?_
   refine fin_v ?_
   refine fin_v ?_
   refine fin_v ?_
   refine fin_v ?_
   refine fin_v ?_
   refine fin_v ?_
   refine fin_v ?_
   refine fin_v ?_
   refine fin_v ?_
   refine fin_v ?_
   refine fin_v ?_
   refine fin_v ?_
   refine fin_v ?_
   refine fin_v ?_
   refine fin_v ?_
   refine fin_v ?_
   refine fin_v ?_
   refine fin_v ?_
   refine fin_v ?_
   refine fin_v ?_
   refine fin_v ?_
   refine fin_v ?_
   refine fin_v ?_
   refine fin_v ?_
   refine fin_v ?_
   refine fin_v ?_
   refine fin_v ?_
   refine fin_v ?_
   refine fin_v ?_
   refine fin_v ?_
   refine fin_v ?_
   refine fin_v ?_
   refine fin_v ?_
   refine fin_v ?_
   refine fin_v ?_
   refine fin_v ?_
   refine fin_v ?_
   refine fin_v ?_
   refine fin_v ?_
   refine fin_v ?_
   refine fin_v ?_
   refine fin_v ?_
   refine fin_v ?_
   refine fin_v ?_
   refine fin_v ?_
   refine fin_nil ?_
   refine XF.thenN ?_
   refine condT rfl ?_
   refine seqF (regF ?_)
   refine op_assign rfl rfl ?_
   refine endF (XF.thenN ?_)
   refine retF ?_
   refine XF.thenR ?_
   refine XF.res (res1 Try.results28 rfl) ?_
   exact ⟨gr_rbool (by unfold stepQ; dsimp only; rw [if_pos hf]), hS.below⟩
  ·skip
   refine regB (m := 47) gr_followsM hS (by kernel_rfl) (by kernel_rfl) rfl ?_
   refine bl_cons 1 rfl (isV _) (stab_isV _) (rgV (li := [(3, _)]) rfl (w_free rfl) ⟨g_fr (by kernel_rfl) rfl, trivial⟩ (fun w hw => rn_field (o' := 0) gr_fa_50_0 rfl rfl) (at_top rfl)) ?_
   refine bl_cons 2 rfl (isV _) (stab_isV _) (rgV (li := [(13, _)]) rfl (w_free rfl) ⟨g_dep 0 (by kernel_rfl) (at_dep rfl rfl rfl), trivial⟩ (fun w hw => rn_load Try.isAgg3 rfl ((below_agree hw 0).cell (Nat.zero_le _) (cell_own (hS.at_ 0 rfl) rfl))) (at_top rfl)) ?_
   refine bl_cons 3 rfl (isV _) (stab_isV _) (rgV (li := [(5, _)]) rfl (w_free rfl) ⟨g_fr (by kernel_rfl) rfl, trivial⟩ (fun w hw => rn_move rfl) (at_top rfl)) ?_
   refine bl_cons 4 rfl (isV (.bool true)) (stab_isV _) (rg_call [isV _, isV _] rfl gr_goes_29 (w_free rfl) ⟨p_tmp (g_dep 1 (by kernel_rfl) (at_dep rfl rfl rfl)), p_tmp (g_dep 2 (by kernel_rfl) (at_dep rfl rfl rfl)), trivial⟩ (fun vs w' hb hh => by have e := holds_isV (us := [_, _]) hh; subst e; exact (in_is s.f _ _).mono fun e w2 h => ⟨_, by rw [h.1, hf], rfl, h.2⟩) (at_top rfl)) ?_
   refine bl_cons 5 rfl (isV _) (stab_isV _) (rgV (li := [(16, _)]) rfl (w_free rfl) ⟨g_dep 3 (by kernel_rfl) (at_dep rfl rfl rfl), trivial⟩ (fun w hw => rn_not rfl) (at_top rfl)) ?_
   refine bl_cons 6 rfl (isV _) (stab_isV _) (rgV (li := [(17, _)]) rfl (w_free rfl) ⟨g_dep 4 (by kernel_rfl) (at_dep rfl rfl rfl), trivial⟩ (fun w hw => rn_move rfl) (at_top rfl)) ?_
   refine bl_cons 7 rfl (isV _) (stab_isV _) (rgV (li := [(3, _)]) rfl (w_yes 18 rfl (by kernel_rfl) (by kernel_rfl) (at_dep rfl rfl rfl)) ⟨g_fr (by kernel_rfl) rfl, trivial⟩ (fun w hw => rn_field (o' := 1) gr_fa_50_1 rfl rfl) (at_top rfl)) ?_
   refine bl_cons 8 rfl (isV _) (stab_isV _) (rgV (li := [(19, _)]) rfl (w_yes 18 rfl (by kernel_rfl) (by kernel_rfl) (at_dep rfl rfl rfl)) ⟨g_dep 6 (by kernel_rfl) (at_dep rfl rfl rfl), trivial⟩ (fun w hw => rn_load Try.isAgg3 rfl ((below_agree hw 0).cell (Nat.zero_le _) (cell_own (hS.at_ 0 rfl) rfl))) (at_top rfl)) ?_
   refine bl_cons 9 rfl (isV _) (stab_isV _) (rgV (li := [(5, _)]) rfl (w_yes 18 rfl (by kernel_rfl) (by kernel_rfl) (at_dep rfl rfl rfl)) ⟨g_fr (by kernel_rfl) rfl, trivial⟩ (fun w hw => rn_move rfl) (at_top rfl)) ?_
   refine bl_cons 10 rfl (isV (.bool false)) (stab_isV _) (rg_call [isV _, isV _] rfl gr_goes_29 (w_yes 18 rfl (by kernel_rfl) (by kernel_rfl) (at_dep rfl rfl rfl)) ⟨p_tmp (g_dep 7 (by kernel_rfl) (at_dep rfl rfl rfl)), p_tmp (g_dep 8 (by kernel_rfl) (at_dep rfl rfl rfl)), trivial⟩ (fun vs w' hb hh => by have e := holds_isV (us := [_, _]) hh; subst e; exact (in_is s.t _ _).mono fun e w2 h => ⟨_, by rw [h.1, hg], rfl, h.2⟩) (at_top rfl)) ?_
   refine bl_cons 11 rfl (isV _) (stab_isV _) (rgV (li := [(22, _)]) rfl (w_yes 18 rfl (by kernel_rfl) (by kernel_rfl) (at_dep rfl rfl rfl)) ⟨g_dep 9 (by kernel_rfl) (at_dep rfl rfl rfl), trivial⟩ (fun w hw => rn_not rfl) (at_top rfl)) ?_
   refine bl_cons 12 rfl (isV _) (stab_isV _) (rgV (li := [(18, _), (23, _)]) rfl (w_free rfl) ⟨g_dep 5 (by kernel_rfl) (at_dep rfl rfl rfl), g_dep 10 (by kernel_rfl) (at_dep rfl rfl rfl), trivial⟩ (fun w hw => rn_pickF rfl rfl) (at_top rfl)) ?_
   refine bl_cons 13 rfl (isV _) (stab_isV _) (rgV (li := [(24, _)]) rfl (w_free rfl) ⟨g_dep 11 (by kernel_rfl) (at_dep rfl rfl rfl), trivial⟩ (fun w hw => rn_move rfl) (at_top rfl)) ?_
   refine bl_cons 14 rfl (isV undef) (stab_isV _) (rg_no rfl (w_no 25 rfl (by kernel_rfl) (by kernel_rfl) (at_dep rfl rfl rfl) rfl) (at_top rfl)) ?_
   refine bl_cons 15 rfl (isV undef) (stab_isV _) (rg_no rfl (w_no 25 rfl (by kernel_rfl) (by kernel_rfl) (at_dep rfl rfl rfl) rfl) (at_top rfl)) ?_
   refine bl_cons 16 rfl (isV undef) (stab_isV _) (rg_no rfl (w_no 25 rfl (by kernel_rfl) (by kernel_rfl) (at_dep rfl rfl rfl) rfl) (at_top rfl)) ?_
   refine bl_cons 17 rfl (isV undef) (stab_isV _) (rg_no rfl (w_no 25 rfl (by kernel_rfl) (by kernel_rfl) (at_dep rfl rfl rfl) rfl) (at_top rfl)) ?_
   refine bl_cons 18 rfl (isV undef) (stab_isV _) (rg_no rfl (w_no 25 rfl (by kernel_rfl) (by kernel_rfl) (at_dep rfl rfl rfl) rfl) (at_top rfl)) ?_
   refine bl_cons 19 rfl (isV undef) (stab_isV _) (rg_no rfl (w_no 25 rfl (by kernel_rfl) (by kernel_rfl) (at_dep rfl rfl rfl) rfl) (at_top rfl)) ?_
   refine bl_cons 20 rfl (isV undef) (stab_isV _) (rg_no rfl (w_no 25 rfl (by kernel_rfl) (by kernel_rfl) (at_dep rfl rfl rfl) rfl) (at_top rfl)) ?_
   refine bl_cons 21 rfl (isV undef) (stab_isV _) (rg_no rfl (w_no 25 rfl (by kernel_rfl) (by kernel_rfl) (at_dep rfl rfl rfl) rfl) (at_top rfl)) ?_
   refine bl_cons 22 rfl (isV undef) (stab_isV _) (rg_no rfl (w_no 25 rfl (by kernel_rfl) (by kernel_rfl) (at_dep rfl rfl rfl) rfl) (at_top rfl)) ?_
   refine bl_cons 23 rfl (isV undef) (stab_isV _) (rg_no rfl (w_no 25 rfl (by kernel_rfl) (by kernel_rfl) (at_dep rfl rfl rfl) rfl) (at_top rfl)) ?_
   refine bl_cons 24 rfl (isV undef) (stab_isV _) (rg_no rfl (w_no 25 rfl (by kernel_rfl) (by kernel_rfl) (at_dep rfl rfl rfl) rfl) (at_top rfl)) ?_
   refine bl_cons 25 rfl (isV undef) (stab_isV _) (rg_no rfl (w_no 25 rfl (by kernel_rfl) (by kernel_rfl) (at_dep rfl rfl rfl) rfl) (at_top rfl)) ?_
   refine bl_cons 26 rfl (isV undef) (stab_isV _) (rg_no rfl (w_no 25 rfl (by kernel_rfl) (by kernel_rfl) (at_dep rfl rfl rfl) rfl) (at_top rfl)) ?_
   refine bl_cons 27 rfl (isV _) (stab_isV _) (rgV (li := [(25, _)]) rfl (w_free rfl) ⟨g_dep 12 (by kernel_rfl) (at_dep rfl rfl rfl), trivial⟩ (fun w hw => rn_pickT rfl rfl) (at_top rfl)) ?_
   refine bl_cons 28 rfl (isV _) (stab_isV _) (rgV (li := [(39, _)]) rfl (w_free rfl) ⟨g_dep 26 (by kernel_rfl) (at_dep rfl rfl rfl), trivial⟩ (fun w hw => rn_move rfl) (at_top rfl)) ?_
   refine bl_cons 29 rfl (isV undef) (stab_isV _) (rg_no rfl (w_no 40 rfl (by kernel_rfl) (by kernel_rfl) (at_dep rfl rfl rfl) rfl) (at_top rfl)) ?_
   refine bl_cons 30 rfl (isV undef) (stab_isV _) (rg_no rfl (w_no 40 rfl (by kernel_rfl) (by kernel_rfl) (at_dep rfl rfl rfl) rfl) (at_top rfl)) ?_
   refine bl_cons 31 rfl (isV undef) (stab_isV _) (rg_no rfl (w_no 40 rfl (by kernel_rfl) (by kernel_rfl) (at_dep rfl rfl rfl) rfl) (at_top rfl)) ?_
   refine bl_cons 32 rfl (isV undef) (stab_isV _) (rg_no rfl (w_no 40 rfl (by kernel_rfl) (by kernel_rfl) (at_dep rfl rfl rfl) rfl) (at_top rfl)) ?_
   refine bl_cons 33 rfl (isV undef) (stab_isV _) (rg_no rfl (w_un 44 rfl (by kernel_rfl) (by kernel_rfl) (at_dep rfl rfl rfl)) (at_top rfl)) ?_
   refine bl_cons 34 rfl (isV undef) (stab_isV _) (rg_no rfl (w_un 44 rfl (by kernel_rfl) (by kernel_rfl) (at_dep rfl rfl rfl)) (at_top rfl)) ?_
   refine bl_cons 35 rfl (isV undef) (stab_isV _) (rg_no rfl (w_un 44 rfl (by kernel_rfl) (by kernel_rfl) (at_dep rfl rfl rfl)) (at_top rfl)) ?_
   refine bl_cons 36 rfl (isV undef) (stab_isV _) (rg_no rfl (w_no 40 rfl (by kernel_rfl) (by kernel_rfl) (at_dep rfl rfl rfl) rfl) (at_top rfl)) ?_
   refine bl_cons 37 rfl (isV _) (stab_isV _) (rgV (li := [(40, _)]) rfl (w_free rfl) ⟨g_dep 27 (by kernel_rfl) (at_dep rfl rfl rfl), trivial⟩ (fun w hw => rn_pickT rfl rfl) (at_top rfl)) ?_
   refine bl_cons 38 rfl (isV _) (stab_isV _) (rgV (li := [(49, _)]) rfl (w_free rfl) ⟨g_dep 36 (by kernel_rfl) (at_dep rfl rfl rfl), trivial⟩ (fun w hw => rn_move rfl) (at_top rfl)) ?_
   refine bl_cons 39 rfl (isV undef) (stab_isV _) (rg_no rfl (w_no 50 rfl (by kernel_rfl) (by kernel_rfl) (at_dep rfl rfl rfl) rfl) (at_top rfl)) ?_
   refine bl_cons 40 rfl (isV undef) (stab_isV _) (rg_no rfl (w_no 50 rfl (by kernel_rfl) (by kernel_rfl) (at_dep rfl rfl rfl) rfl) (at_top rfl)) ?_
   refine bl_cons 41 rfl (isV undef) (stab_isV _) (rg_no rfl (w_no 50 rfl (by kernel_rfl) (by kernel_rfl) (at_dep rfl rfl rfl) rfl) (at_top rfl)) ?_
   refine bl_cons 42 rfl (isV undef) (stab_isV _) (rg_no rfl (w_no 50 rfl (by kernel_rfl) (by kernel_rfl) (at_dep rfl rfl rfl) rfl) (at_top rfl)) ?_
   refine bl_cons 43 rfl (isV undef) (stab_isV _) (rg_no rfl (w_un 54 rfl (by kernel_rfl) (by kernel_rfl) (at_dep rfl rfl rfl)) (at_top rfl)) ?_
   refine bl_cons 44 rfl (isV undef) (stab_isV _) (rg_no rfl (w_un 54 rfl (by kernel_rfl) (by kernel_rfl) (at_dep rfl rfl rfl)) (at_top rfl)) ?_
   refine bl_cons 45 rfl (isV undef) (stab_isV _) (rg_no rfl (w_un 54 rfl (by kernel_rfl) (by kernel_rfl) (at_dep rfl rfl rfl)) (at_top rfl)) ?_
   refine bl_cons 46 rfl (isV undef) (stab_isV _) (rg_no rfl (w_no 50 rfl (by kernel_rfl) (by kernel_rfl) (at_dep rfl rfl rfl) rfl) (at_top rfl)) ?_
   refine bl_cons 47 rfl (isV _) (stab_isV _) (rgV (li := [(50, _)]) rfl (w_free rfl) ⟨g_dep 37 (by kernel_rfl) (at_dep rfl rfl rfl), trivial⟩ (fun w hw => rn_pickT rfl rfl) (at_top rfl)) ?_
   refine bl_nil ?_
   intro W16 hbR hS'
   clear hS; have hS := hS'; clear hS'
   refine fin_v ?_
   refine fin_v ?_
   refine fin_v ?_
   refine fin_v ?_
   refine fin_v ?_
   refine fin_v ?_
   refine fin_v ?_
   refine fin_v ?_
   refine fin_v ?_
   refine fin_v ?_
   refine fin_v ?_
   refine fin_v ?_
   refine fin_v ?_
   refine fin_v ?_
   refine fin_v ?_
   refine fin_v ?_
   refine fin_v ?_
   refine fin_v ?_
   refine fin_v ?_
   refine fin_v ?_
   refine fin_v ?_
   refine fin_v ?_
   refine fin_v ?_
   refine fin_v ?_
   refine fin_v ?_
   refine fin_v ?_
   refine fin_v ?_
   refine fin_v ?_
   refine fin_v ?_
   refine fin_v ?_
   refine fin_v ?_
   refine fin_v ?_
   refine fin_v ?_
   refine fin_v ?_
   refine fin_v ?_
   refine fin_v ?_
   refine fin_v ?_
   refine fin_v ?_
   refine fin_v ?_
   refine fin_v ?_
   refine fin_v ?_
   refine fin_v ?_
   refine fin_v ?_
   refine fin_v ?_
   refine fin_v ?_
   refine fin_v ?_
   refine fin_v ?_
   refine fin_nil ?_
   refine XF.thenN ?_
   refine condT rfl ?_
   refine seqF (regF ?_)
   refine op_assign rfl rfl ?_
   refine endF (XF.thenN ?_)
   refine retF ?_
   refine XF.thenR ?_
   refine XF.res (res1 Try.results28 rfl) ?_
   exact ⟨gr_rbool (by unfold stepQ; dsimp only; rw [if_neg (by rw [hf]; simp), if_pos hg]), hS.below⟩
  ·have hoe := ofEq_at hy1 hy2
   rw [← ef, ← et] at hoe
   obtain ⟨ob, oo, z1, rfl, hz1, hzc1⟩ := ho.get (i := kf) (by omega)
   obtain ⟨ob2, oo2, z2, e2, hz2, hzc2⟩ := ho.get (i := kt) (by omega)
   cases e2
   obtain rfl : y1 = z1 := Option.some.inj (hy1.symm.trans hz1)
   obtain rfl : y2 = z2 := Option.some.inj (hy2.symm.trans hz2)
   have k3 := (CellsAt.agree hS.agree (Nat.zero_le _) hzc1).1
   have k4 := (CellsAt.agree hS.agree (Nat.zero_le _) hzc2).1
   refine regB (m := 47) gr_followsM hS (by kernel_rfl) (by kernel_rfl) rfl ?_
   refine bl_cons 1 rfl (isV _) (stab_isV _) (rgV (li := [(3, _)]) rfl (w_free rfl) ⟨g_fr (by kernel_rfl) rfl, trivial⟩ (fun w hw => rn_field (o' := 0) gr_fa_50_0 rfl rfl) (at_top rfl)) ?_
   refine bl_cons 2 rfl (isV _) (stab_isV _) (rgV (li := [(13, _)]) rfl (w_free rfl) ⟨g_dep 0 (by kernel_rfl) (at_dep rfl rfl rfl), trivial⟩ (fun w hw => rn_load Try.isAgg3 rfl ((below_agree hw 0).cell (Nat.zero_le _) (cell_own (hS.at_ 0 rfl) rfl))) (at_top rfl)) ?_
   refine bl_cons 3 rfl (isV _) (stab_isV _) (rgV (li := [(5, _)]) rfl (w_free rfl) ⟨g_fr (by kernel_rfl) rfl, trivial⟩ (fun w hw => rn_move rfl) (at_top rfl)) ?_
   refine bl_cons 4 rfl (isV (.bool true)) (stab_isV _) (rg_call [isV _, isV _] rfl gr_goes_29 (w_free rfl) ⟨p_tmp (g_dep 1 (by kernel_rfl) (at_dep rfl rfl rfl)), p_tmp (g_dep 2 (by kernel_rfl) (at_dep rfl rfl rfl)), trivial⟩ (fun vs w' hb hh => by have e := holds_isV (us := [_, _]) hh; subst e; exact (in_is s.f _ _).mono fun e w2 h => ⟨_, by rw [h.1, hf], rfl, h.2⟩) (at_top rfl)) ?_
   refine bl_cons 5 rfl (isV _) (stab_isV _) (rgV (li := [(16, _)]) rfl (w_free rfl) ⟨g_dep 3 (by kernel_rfl) (at_dep rfl rfl rfl), trivial⟩ (fun w hw => rn_not rfl) (at_top rfl)) ?_
   refine bl_cons 6 rfl (isV _) (stab_isV _) (rgV (li := [(17, _)]) rfl (w_free rfl) ⟨g_dep 4 (by kernel_rfl) (at_dep rfl rfl rfl), trivial⟩ (fun w hw => rn_move rfl) (at_top rfl)) ?_
   refine bl_cons 7 rfl (isV _) (stab_isV _) (rgV (li := [(3, _)]) rfl (w_yes 18 rfl (by kernel_rfl) (by kernel_rfl) (at_dep rfl rfl rfl)) ⟨g_fr (by kernel_rfl) rfl, trivial⟩ (fun w hw => rn_field (o' := 1) gr_fa_50_1 rfl rfl) (at_top rfl)) ?_
   refine bl_cons 8 rfl (isV _) (stab_isV _) (rgV (li := [(19, _)]) rfl (w_yes 18 rfl (by kernel_rfl) (by kernel_rfl) (at_dep rfl rfl rfl)) ⟨g_dep 6 (by kernel_rfl) (at_dep rfl rfl rfl), trivial⟩ (fun w hw => rn_load Try.isAgg3 rfl ((below_agree hw 0).cell (Nat.zero_le _) (cell_own (hS.at_ 0 rfl) rfl))) (at_top rfl)) ?_
   refine bl_cons 9 rfl (isV _) (stab_isV _) (rgV (li := [(5, _)]) rfl (w_yes 18 rfl (by kernel_rfl) (by kernel_rfl) (at_dep rfl rfl rfl)) ⟨g_fr (by kernel_rfl) rfl, trivial⟩ (fun w hw => rn_move rfl) (at_top rfl)) ?_
   refine bl_cons 10 rfl (isV (.bool true)) (stab_isV _) (rg_call [isV _, isV _] rfl gr_goes_29 (w_yes 18 rfl (by kernel_rfl) (by kernel_rfl) (at_dep rfl rfl rfl)) ⟨p_tmp (g_dep 7 (by kernel_rfl) (at_dep rfl rfl rfl)), p_tmp (g_dep 8 (by kernel_rfl) (at_dep rfl rfl rfl)), trivial⟩ (fun vs w' hb hh => by have e := holds_isV (us := [_, _]) hh; subst e; exact (in_is s.t _ _).mono fun e w2 h => ⟨_, by rw [h.1, hg], rfl, h.2⟩) (at_top rfl)) ?_
   refine bl_cons 11 rfl (isV _) (stab_isV _) (rgV (li := [(22, _)]) rfl (w_yes 18 rfl (by kernel_rfl) (by kernel_rfl) (at_dep rfl rfl rfl)) ⟨g_dep 9 (by kernel_rfl) (at_dep rfl rfl rfl), trivial⟩ (fun w hw => rn_not rfl) (at_top rfl)) ?_
   refine bl_cons 12 rfl (isV _) (stab_isV _) (rgV (li := [(18, _), (23, _)]) rfl (w_free rfl) ⟨g_dep 5 (by kernel_rfl) (at_dep rfl rfl rfl), g_dep 10 (by kernel_rfl) (at_dep rfl rfl rfl), trivial⟩ (fun w hw => rn_pickF rfl rfl) (at_top rfl)) ?_
   refine bl_cons 13 rfl (isV _) (stab_isV _) (rgV (li := [(24, _)]) rfl (w_free rfl) ⟨g_dep 11 (by kernel_rfl) (at_dep rfl rfl rfl), trivial⟩ (fun w hw => rn_move rfl) (at_top rfl)) ?_
   refine bl_cons 14 rfl (isV _) (stab_isV _) (rgV (li := [(2, _)]) rfl (w_yes 25 rfl (by kernel_rfl) (by kernel_rfl) (at_dep rfl rfl rfl)) ⟨g_fr (by kernel_rfl) rfl, trivial⟩ (fun w hw => rn_field (o' := 5) gr_fa_29_5 rfl rfl) (at_top rfl)) ?_
   refine bl_cons 15 rfl (isV _) (stab_isV _) (rgV (li := [(26, _)]) rfl (w_yes 25 rfl (by kernel_rfl) (by kernel_rfl) (at_dep rfl rfl rfl)) ⟨g_dep 13 (by kernel_rfl) (at_dep rfl rfl rfl), trivial⟩ (fun w hw => rn_load Try.isAgg23 rfl ((below_agree hw 0).cell (Nat.zero_le _) (cell_own (hS.at_ 1 rfl) rfl))) (at_top rfl)) ?_
   refine bl_cons 16 rfl (isV _) (stab_isV _) (rgV (li := [(3, _)]) rfl (w_yes 25 rfl (by kernel_rfl) (by kernel_rfl) (at_dep rfl rfl rfl)) ⟨g_fr (by kernel_rfl) rfl, trivial⟩ (fun w hw => rn_field (o' := 0) gr_fa_50_0 rfl rfl) (at_top rfl)) ?_
   refine bl_cons 17 rfl (isV _) (stab_isV _) (rgV (li := [(28, _)]) rfl (w_yes 25 rfl (by kernel_rfl) (by kernel_rfl) (at_dep rfl rfl rfl)) ⟨g_dep 15 (by kernel_rfl) (at_dep rfl rfl rfl), trivial⟩ (fun w hw => rn_load Try.isAgg3 rfl ((below_agree hw 0).cell (Nat.zero_le _) (cell_own (hS.at_ 0 rfl) rfl))) (at_top rfl)) ?_
   refine bl_cons 18 rfl (isV _) (stab_isV _) (rgV (li := [(27, _), (29, _)]) rfl (w_yes 25 rfl (by kernel_rfl) (by kernel_rfl) (at_dep rfl rfl rfl)) ⟨g_dep 14 (by kernel_rfl) (at_dep rfl rfl rfl), g_dep 16 (by kernel_rfl) (at_dep rfl rfl rfl), trivial⟩ (fun w hw => rn_indexA (j := kf) Try.underlying23 Try.sizeOf3 rfl rfl (by omega) (by omega) rfl) (at_top rfl)) ?_
   refine bl_cons 19 rfl (isV _) (stab_isV _) (rgV (li := [(30, _)]) rfl (w_yes 25 rfl (by kernel_rfl) (by kernel_rfl) (at_dep rfl rfl rfl)) ⟨g_dep 17 (by kernel_rfl) (at_dep rfl rfl rfl), trivial⟩ (fun w hw => rn_load Try.isAgg3 rfl ((below_agree hw 0).cell (Nat.zero_le _) (k3))) (at_top rfl)) ?_
   refine bl_cons 20 rfl (isV _) (stab_isV _) (rgV (li := [(2, _)]) rfl (w_yes 25 rfl (by kernel_rfl) (by kernel_rfl) (at_dep rfl rfl rfl)) ⟨g_fr (by kernel_rfl) rfl, trivial⟩ (fun w hw => rn_field (o' := 5) gr_fa_29_5 rfl rfl) (at_top rfl)) ?_
   refine bl_cons 21 rfl (isV _) (stab_isV _) (rgV (li := [(32, _)]) rfl (w_yes 25 rfl (by kernel_rfl) (by kernel_rfl) (at_dep rfl rfl rfl)) ⟨g_dep 19 (by kernel_rfl) (at_dep rfl rfl rfl), trivial⟩ (fun w hw => rn_load Try.isAgg23 rfl ((below_agree hw 0).cell (Nat.zero_le _) (cell_own (hS.at_ 1 rfl) rfl))) (at_top rfl)) ?_
   refine bl_cons 22 rfl (isV _) (stab_isV _) (rgV (li := [(3, _)]) rfl (w_yes 25 rfl (by kernel_rfl) (by kernel_rfl) (at_dep rfl rfl rfl)) ⟨g_fr (by kernel_rfl) rfl, trivial⟩ (fun w hw => rn_field (o' := 1) gr_fa_50_1 rfl rfl) (at_top rfl)) ?_
   refine bl_cons 23 rfl (isV _) (stab_isV _) (rgV (li := [(34, _)]) rfl (w_yes 25 rfl (by kernel_rfl) (by kernel_rfl) (at_dep rfl rfl rfl)) ⟨g_dep 21 (by kernel_rfl) (at_dep rfl rfl rfl), trivial⟩ (fun w hw => rn_load Try.isAgg3 rfl ((below_agree hw 0).cell (Nat.zero_le _) (cell_own (hS.at_ 0 rfl) rfl))) (at_top rfl)) ?_
   refine bl_cons 24 rfl (isV _) (stab_isV _) (rgV (li := [(33, _), (35, _)]) rfl (w_yes 25 rfl (by kernel_rfl) (by kernel_rfl) (at_dep rfl rfl rfl)) ⟨g_dep 20 (by kernel_rfl) (at_dep rfl rfl rfl), g_dep 22 (by kernel_rfl) (at_dep rfl rfl rfl), trivial⟩ (fun w hw => rn_indexA (j := kt) Try.underlying23 Try.sizeOf3 rfl rfl (by omega) (by omega) rfl) (at_top rfl)) ?_
   refine bl_cons 25 rfl (isV _) (stab_isV _) (rgV (li := [(36, _)]) rfl (w_yes 25 rfl (by kernel_rfl) (by kernel_rfl) (at_dep rfl rfl rfl)) ⟨g_dep 23 (by kernel_rfl) (at_dep rfl rfl rfl), trivial⟩ (fun w hw => rn_load Try.isAgg3 rfl ((below_agree hw 0).cell (Nat.zero_le _) (k4))) (at_top rfl)) ?_
   refine bl_cons 26 rfl (isV (.bool true)) (stab_isV _) (rgVe (li := [(31, _), (37, _)]) rfl (w_yes 25 rfl (by kernel_rfl) (by kernel_rfl) (at_dep rfl rfl rfl)) ⟨g_dep 18 (by kernel_rfl) (at_dep rfl rfl rfl), g_dep 24 (by kernel_rfl) (at_dep rfl rfl rfl), trivial⟩ (fun w hw => rn_neq rfl rfl) (by rw [decide_eq_true hne]) (at_top rfl)) ?_
   refine bl_cons 27 rfl (isV _) (stab_isV _) (rgV (li := [(25, _), (38, _)]) rfl (w_free rfl) ⟨g_dep 12 (by kernel_rfl) (at_dep rfl rfl rfl), g_dep 25 (by kernel_rfl) (at_dep rfl rfl rfl), trivial⟩ (fun w hw => rn_pickF rfl rfl) (at_top rfl)) ?_
   refine bl_cons 28 rfl (isV _) (stab_isV _) (rgV (li := [(39, _)]) rfl (w_free rfl) ⟨g_dep 26 (by kernel_rfl) (at_dep rfl rfl rfl), trivial⟩ (fun w hw => rn_move rfl) (at_top rfl)) ?_
   refine bl_cons 29 rfl (isV undef) (stab_isV _) (rg_no rfl (w_no 40 rfl (by kernel_rfl) (by kernel_rfl) (at_dep rfl rfl rfl) rfl) (at_top rfl)) ?_
   refine bl_cons 30 rfl (isV undef) (stab_isV _) (rg_no rfl (w_no 40 rfl (by kernel_rfl) (by kernel_rfl) (at_dep rfl rfl rfl) rfl) (at_top rfl)) ?_
   refine bl_cons 31 rfl (isV undef) (stab_isV _) (rg_no rfl (w_no 40 rfl (by kernel_rfl) (by kernel_rfl) (at_dep rfl rfl rfl) rfl) (at_top rfl)) ?_
   refine bl_cons 32 rfl (isV undef) (stab_isV _) (rg_no rfl (w_no 40 rfl (by kernel_rfl) (by kernel_rfl) (at_dep rfl rfl rfl) rfl) (at_top rfl)) ?_
   refine bl_cons 33 rfl (isV undef) (stab_isV _) (rg_no rfl (w_un 44 rfl (by kernel_rfl) (by kernel_rfl) (at_dep rfl rfl rfl)) (at_top rfl)) ?_
   refine bl_cons 34 rfl (isV undef) (stab_isV _) (rg_no rfl (w_un 44 rfl (by kernel_rfl) (by kernel_rfl) (at_dep rfl rfl rfl)) (at_top rfl)) ?_
   refine bl_cons 35 rfl (isV undef) (stab_isV _) (rg_no rfl (w_un 44 rfl (by kernel_rfl) (by kernel_rfl) (at_dep rfl rfl rfl)) (at_top rfl)) ?_
   refine bl_cons 36 rfl (isV undef) (stab_isV _) (rg_no rfl (w_no 40 rfl (by kernel_rfl) (by kernel_rfl) (at_dep rfl rfl rfl) rfl) (at_top rfl)) ?_
   refine bl_cons 37 rfl (isV _) (stab_isV _) (rgV (li := [(40, _)]) rfl (w_free rfl) ⟨g_dep 27 (by kernel_rfl) (at_dep rfl rfl rfl), trivial⟩ (fun w hw => rn_pickT rfl rfl) (at_top rfl)) ?_
   refine bl_cons 38 rfl (isV _) (stab_isV _) (rgV (li := [(49, _)]) rfl (w_free rfl) ⟨g_dep 36 (by kernel_rfl) (at_dep rfl rfl rfl), trivial⟩ (fun w hw => rn_move rfl) (at_top rfl)) ?_
   refine bl_cons 39 rfl (isV undef) (stab_isV _) (rg_no rfl (w_no 50 rfl (by kernel_rfl) (by kernel_rfl) (at_dep rfl rfl rfl) rfl) (at_top rfl)) ?_
   refine bl_cons 40 rfl (isV undef) (stab_isV _) (rg_no rfl (w_no 50 rfl (by kernel_rfl) (by kernel_rfl) (at_dep rfl rfl rfl) rfl) (at_top rfl)) ?_
   refine bl_cons 41 rfl (isV undef) (stab_isV _) (rg_no rfl (w_no 50 rfl (by kernel_rfl) (by kernel_rfl) (at_dep rfl rfl rfl) rfl) (at_top rfl)) ?_
   refine bl_cons 42 rfl (isV undef) (stab_isV _) (rg_no rfl (w_no 50 rfl (by kernel_rfl) (by kernel_rfl) (at_dep rfl rfl rfl) rfl) (at_top rfl)) ?_
   refine bl_cons 43 rfl (isV undef) (stab_isV _) (rg_no rfl (w_un 54 rfl (by kernel_rfl) (by kernel_rfl) (at_dep rfl rfl rfl)) (at_top rfl)) ?_
   refine bl_cons 44 rfl (isV undef) (stab_isV _) (rg_no rfl (w_un 54 rfl (by kernel_rfl) (by kernel_rfl) (at_dep rfl rfl rfl)) (at_top rfl)) ?_
   refine bl_cons 45 rfl (isV undef) (stab_isV _) (rg_no rfl (w_un 54 rfl (by kernel_rfl) (by kernel_rfl) (at_dep rfl rfl rfl)) (at_top rfl)) ?_
   refine bl_cons 46 rfl (isV undef) (stab_isV _) (rg_no rfl (w_no 50 rfl (by kernel_rfl) (by kernel_rfl) (at_dep rfl rfl rfl) rfl) (at_top rfl)) ?_
   refine bl_cons 47 rfl (isV _) (stab_isV _) (rgV (li := [(50, _)]) rfl (w_free rfl) ⟨g_dep 37 (by kernel_rfl) (at_dep rfl rfl rfl), trivial⟩ (fun w hw => rn_pickT rfl rfl) (at_top rfl)) ?_
   refine bl_nil ?_
   intro W17 hbR hS'
   clear hS; have hS := hS'; clear hS'
   refine fin_v ?_
   refine fin_v ?_
   refine fin_v ?_
   refine fin_v ?_
   refine fin_v ?_
   refine fin_v ?_
   refine fin_v ?_
   refine fin_v ?_
   refine fin_v ?_
   refine fin_v ?_
   refine fin_v ?_
   refine fin_v ?_
   refine fin_v ?_
   refine fin_v ?_
   refine fin_v ?_
   refine fin_v ?_
   refine fin_v ?_
   refine fin_v ?_
   refine fin_v ?_
   refine fin_v ?_
   refine fin_v ?_
   refine fin_v ?_
   refine fin_v ?_
   refine fin_v ?_
   refine fin_v ?_
   refine fin_v ?_
   refine fin_v ?_
   refine fin_v ?_
   refine fin_v ?_
   refine fin_v ?_
   refine fin_v ?_
   refine fin_v ?_
   refine fin_v ?_
   refine fin_v ?_
   refine fin_v ?_
   refine fin_v ?_
   refine fin_v ?_
   refine fin_v ?_
   refine fin_v ?_
   refine fin_v ?_
   refine fin_v ?_
   refine fin_v ?_
   refine fin_v ?_
   refine fin_v ?_
   refine fin_v ?_
   refine fin_v ?_
   refine fin_v ?_
   refine fin_nil ?_
   refine XF.thenN ?_
   refine condT rfl ?_
   refine seqF (regF ?_)
   refine op_assign rfl rfl ?_
   refine endF (XF.thenN ?_)
   refine retF ?_
   refine XF.thenR ?_
   refine XF.res (res1 Try.results28 rfl) ?_
   exact ⟨gr_rbool (by unfold stepQ; dsimp only; rw [if_neg (by rw [hf]; simp), if_neg (by rw [hg]; simp), if_pos (by rw [hoe]; exact decide_eq_false hne)]), hS.below⟩
  ·have hoe := ofEq_at hy1 hy2
   rw [← ef, ← et] at hoe
   obtain ⟨ob, oo, z1, rfl, hz1, hzc1⟩ := ho.get (i := kf) (by omega)
   obtain ⟨ob2, oo2, z2, e2, hz2, hzc2⟩ := ho.get (i := kt) (by omega)
   cases e2
   obtain rfl : y1 = z1 := Option.some.inj (hy1.symm.trans hz1)
   obtain rfl : y2 = z2 := Option.some.inj (hy2.symm.trans hz2)
   have k3 := (CellsAt.agree hS.agree (Nat.zero_le _) hzc1).1
   have k4 := (CellsAt.agree hS.agree (Nat.zero_le _) hzc2).1
   refine regB (m := 47) gr_followsM hS (by kernel_rfl) (by kernel_rfl) rfl ?_
   refine bl_cons 1 rfl (isV _) (stab_isV _) (rgV (li := [(3, _)]) rfl (w_free rfl) ⟨g_fr (by kernel_rfl) rfl, trivial⟩ (fun w hw => rn_field (o' := 0) gr_fa_50_0 rfl rfl) (at_top rfl)) ?_
   refine bl_cons 2 rfl (isV _) (stab_isV _) (rgV (li := [(13, _)]) rfl (w_free rfl) ⟨g_dep 0 (by kernel_rfl) (at_dep rfl rfl rfl), trivial⟩ (fun w hw => rn_load Try.isAgg3 rfl ((below_agree hw 0).cell (Nat.zero_le _) (cell_own (hS.at_ 0 rfl) rfl))) (at_top rfl)) ?_
   refine bl_cons 3 rfl (isV _) (stab_isV _) (rgV (li := [(5, _)]) rfl (w_free rfl) ⟨g_fr (by kernel_rfl) rfl, trivial⟩ (fun w hw => rn_move rfl) (at_top rfl)) ?_
   refine bl_cons 4 rfl (isV (.bool true)) (stab_isV _) (rg_call [isV _, isV _] rfl gr_goes_29 (w_free rfl) ⟨p_tmp (g_dep 1 (by kernel_rfl) (at_dep rfl rfl rfl)), p_tmp (g_dep 2 (by kernel_rfl) (at_dep rfl rfl rfl)), trivial⟩ (fun vs w' hb hh => by have e := holds_isV (us := [_, _]) hh; subst e; exact (in_is s.f _ _).mono fun e w2 h => ⟨_, by rw [h.1, hf], rfl, h.2⟩) (at_top rfl)) ?_
   refine bl_cons 5 rfl (isV _) (stab_isV _) (rgV (li := [(16, _)]) rfl (w_free rfl) ⟨g_dep 3 (by kernel_rfl) (at_dep rfl rfl rfl), trivial⟩ (fun w hw => rn_not rfl) (at_top rfl)) ?_
   refine bl_cons 6 rfl (isV _) (stab_isV _) (rgV (li := [(17, _)]) rfl (w_free rfl) ⟨g_dep 4 (by kernel_rfl) (at_dep rfl rfl rfl), trivial⟩ (fun w hw => rn_move rfl) (at_top rfl)) ?_
   refine bl_cons 7 rfl (isV _) (stab_isV _) (rgV (li := [(3, _)]) rfl (w_yes 18 rfl (by kernel_rfl) (by kernel_rfl) (at_dep rfl rfl rfl)) ⟨g_fr (by kernel_rfl) rfl, trivial⟩ (fun w hw => rn_field (o' := 1) gr_fa_50_1 rfl rfl) (at_top rfl)) ?_
   refine bl_cons 8 rfl (isV _) (stab_isV _) (rgV (li := [(19, _)]) rfl (w_yes 18 rfl (by kernel_rfl) (by kernel_rfl) (at_dep rfl rfl rfl)) ⟨g_dep 6 (by kernel_rfl) (at_dep rfl rfl rfl), trivial⟩ (fun w hw => rn_load Try.isAgg3 rfl ((below_agree hw 0).cell (Nat.zero_le _) (cell_own (hS.at_ 0 rfl) rfl))) (at_top rfl)) ?_
   refine bl_cons 9 rfl (isV _) (stab_isV _) (rgV (li := [(5, _)]) rfl (w_yes 18 rfl (by kernel_rfl) (by kernel_rfl) (at_dep rfl rfl rfl)) ⟨g_fr (by kernel_rfl) rfl, trivial⟩ (fun w hw => rn_move rfl) (at_top rfl)) ?_
   refine bl_cons 10 rfl (isV (.bool true)) (stab_isV _) (rg_call [isV _, isV _] rfl gr_goes_29 (w_yes 18 rfl (by kernel_rfl) (by kernel_rfl) (at_dep rfl rfl rfl)) ⟨p_tmp (g_dep 7 (by kernel_rfl) (at_dep rfl rfl rfl)), p_tmp (g_dep 8 (by kernel_rfl) (at_dep rfl rfl rfl)), trivial⟩ (fun vs w' hb hh => by have e := holds_isV (us := [_, _]) hh; subst e; exact (in_is s.t _ _).mono fun e w2 h => ⟨_, by rw [h.1, hg], rfl, h.2⟩) (at_top rfl)) ?_
   refine bl_cons 11 rfl (isV _) (stab_isV _) (rgV (li := [(22, _)]) rfl (w_yes 18 rfl (by kernel_rfl) (by kernel_rfl) (at_dep rfl rfl rfl)) ⟨g_dep 9 (by kernel_rfl) (at_dep rfl rfl rfl), trivial⟩ (fun w hw => rn_not rfl) (at_top rfl)) ?_
   refine bl_cons 12 rfl (isV _) (stab_isV _) (rgV (li := [(18, _), (23, _)]) rfl (w_free rfl) ⟨g_dep 5 (by kernel_rfl) (at_dep rfl rfl rfl), g_dep 10 (by kernel_rfl) (at_dep rfl rfl rfl), trivial⟩ (fun w hw => rn_pickF rfl rfl) (at_top rfl)) ?_
   refine bl_cons 13 rfl (isV _) (stab_isV _) (rgV (li := [(24, _)]) rfl (w_free rfl) ⟨g_dep 11 (by kernel_rfl) (at_dep rfl rfl rfl), trivial⟩ (fun w hw => rn_move rfl) (at_top rfl)) ?_
   refine bl_cons 14 rfl (isV _) (stab_isV _) (rgV (li := [(2, _)]) rfl (w_yes 25 rfl (by kernel_rfl) (by kernel_rfl) (at_dep rfl rfl rfl)) ⟨g_fr (by kernel_rfl) rfl, trivial⟩ (fun w hw => rn_field (o' := 5) gr_fa_29_5 rfl rfl) (at_top rfl)) ?_
   refine bl_cons 15 rfl (isV _) (stab_isV _) (rgV (li := [(26, _)]) rfl (w_yes 25 rfl (by kernel_rfl) (by kernel_rfl) (at_dep rfl rfl rfl)) ⟨g_dep 13 (by kernel_rfl) (at_dep rfl rfl rfl), trivial⟩ (fun w hw => rn_load Try.isAgg23 rfl ((below_agree hw 0).cell (Nat.zero_le _) (cell_own (hS.at_ 1 rfl) rfl))) (at_top rfl)) ?_
   refine bl_cons 16 rfl (isV _) (stab_isV _) (rgV (li := [(3, _)]) rfl (w_yes 25 rfl (by kernel_rfl) (by kernel_rfl) (at_dep rfl rfl rfl)) ⟨g_fr (by kernel_rfl) rfl, trivial⟩ (fun w hw => rn_field (o' := 0) gr_fa_50_0 rfl rfl) (at_top rfl)) ?_
   refine bl_cons 17 rfl (isV _) (stab_isV _) (rgV (li := [(28, _)]) rfl (w_yes 25 rfl (by kernel_rfl) (by kernel_rfl) (at_dep rfl rfl rfl)) ⟨g_dep 15 (by kernel_rfl) (at_dep rfl rfl rfl), trivial⟩ (fun w hw => rn_load Try.isAgg3 rfl ((below_agree hw 0).cell (Nat.zero_le _) (cell_own (hS.at_ 0 rfl) rfl))) (at_top rfl)) ?_
   refine bl_cons 18 rfl (isV _) (stab_isV _) (rgV (li := [(27, _), (29, _)]) rfl (w_yes 25 rfl (by kernel_rfl) (by kernel_rfl) (at_dep rfl rfl rfl)) ⟨g_dep 14 (by kernel_rfl) (at_dep rfl rfl rfl), g_dep 16 (by kernel_rfl) (at_dep rfl rfl rfl), trivial⟩ (fun w hw => rn_indexA (j := kf) Try.underlying23 Try.sizeOf3 rfl rfl (by omega) (by omega) rfl) (at_top rfl)) ?_
   refine bl_cons 19 rfl (isV _) (stab_isV _) (rgV (li := [(30, _)]) rfl (w_yes 25 rfl (by kernel_rfl) (by kernel_rfl) (at_dep rfl rfl rfl)) ⟨g_dep 17 (by kernel_rfl) (at_dep rfl rfl rfl), trivial⟩ (fun w hw => rn_load Try.isAgg3 rfl ((below_agree hw 0).cell (Nat.zero_le _) (k3))) (at_top rfl)) ?_
   refine bl_cons 20 rfl (isV _) (stab_isV _) (rgV (li := [(2, _)]) rfl (w_yes 25 rfl (by kernel_rfl) (by kernel_rfl) (at_dep rfl rfl rfl)) ⟨g_fr (by kernel_rfl) rfl, trivial⟩ (fun w hw => rn_field (o' := 5) gr_fa_29_5 rfl rfl) (at_top rfl)) ?_
   refine bl_cons 21 rfl (isV _) (stab_isV _) (rgV (li := [(32, _)]) rfl (w_yes 25 rfl (by kernel_rfl) (by kernel_rfl) (at_dep rfl rfl rfl)) ⟨g_dep 19 (by kernel_rfl) (at_dep rfl rfl rfl), trivial⟩ (fun w hw => rn_load Try.isAgg23 rfl ((below_agree hw 0).cell (Nat.zero_le _) (cell_own (hS.at_ 1 rfl) rfl))) (at_top rfl)) ?_
   refine bl_cons 22 rfl (isV _) (stab_isV _) (rgV (li := [(3, _)]) rfl (w_yes 25 rfl (by kernel_rfl) (by kernel_rfl) (at_dep rfl rfl rfl)) ⟨g_fr (by kernel_rfl) rfl, trivial⟩ (fun w hw => rn_field (o' := 1) gr_fa_50_1 rfl rfl) (at_top rfl)) ?_
   refine bl_cons 23 rfl (isV _) (stab_isV _) (rgV (li := [(34, _)]) rfl (w_yes 25 rfl (by kernel_rfl) (by kernel_rfl) (at_dep rfl rfl rfl)) ⟨g_dep 21 (by kernel_rfl) (at_dep rfl rfl rfl), trivial⟩ (fun w hw => rn_load Try.isAgg3 rfl ((below_agree hw 0).cell (Nat.zero_le _) (cell_own (hS.at_ 0 rfl) rfl))) (at_top rfl)) ?_
   refine bl_cons 24 rfl (isV _) (stab_isV _) (rgV (li := [(33, _), (35, _)]) rfl (w_yes 25 rfl (by kernel_rfl) (by kernel_rfl) (at_dep rfl rfl rfl)) ⟨g_dep 20 (by kernel_rfl) (at_dep rfl rfl rfl), g_dep 22 (by kernel_rfl) (at_dep rfl rfl rfl), trivial⟩ (fun w hw => rn_indexA (j := kt) Try.underlying23 Try.sizeOf3 rfl rfl (by omega) (by omega) rfl) (at_top rfl)) ?_
   refine bl_cons 25 rfl (isV _) (stab_isV _) (rgV (li := [(36, _)]) rfl (w_yes 25 rfl (by kernel_rfl) (by kernel_rfl) (at_dep rfl rfl rfl)) ⟨g_dep 23 (by kernel_rfl) (at_dep rfl rfl rfl), trivial⟩ (fun w hw => rn_load Try.isAgg3 rfl ((below_agree hw 0).cell (Nat.zero_le _) (k4))) (at_top rfl)) ?_
   refine bl_cons 26 rfl (isV (.bool false)) (stab_isV _) (rgVe (li := [(31, _), (37, _)]) rfl (w_yes 25 rfl (by kernel_rfl) (by kernel_rfl) (at_dep rfl rfl rfl)) ⟨g_dep 18 (by kernel_rfl) (at_dep rfl rfl rfl), g_dep 24 (by kernel_rfl) (at_dep rfl rfl rfl), trivial⟩ (fun w hw => rn_neq rfl rfl) (by rw [decide_eq_false (not_not_intro hee)]) (at_top rfl)) ?_
   refine bl_cons 27 rfl (isV _) (stab_isV _) (rgV (li := [(25, _), (38, _)]) rfl (w_free rfl) ⟨g_dep 12 (by kernel_rfl) (at_dep rfl rfl rfl), g_dep 25 (by kernel_rfl) (at_dep rfl rfl rfl), trivial⟩ (fun w hw => rn_pickF rfl rfl) (at_top rfl)) ?_
   refine bl_cons 28 rfl (isV _) (stab_isV _) (rgV (li := [(39, _)]) rfl (w_free rfl) ⟨g_dep 26 (by kernel_rfl) (at_dep rfl rfl rfl), trivial⟩ (fun w hw => rn_move rfl) (at_top rfl)) ?_
   refine bl_cons 29 rfl (isV _) (stab_isV _) (rgV (li := [(3, _)]) rfl (w_yes 40 rfl (by kernel_rfl) (by kernel_rfl) (at_dep rfl rfl rfl)) ⟨g_fr (by kernel_rfl) rfl, trivial⟩ (fun w hw => rn_field (o' := 5) gr_fa_50_5 rfl rfl) (at_top rfl)) ?_
   refine bl_cons 30 rfl (isV _) (stab_isV _) (rgV (li := [(41, _)]) rfl (w_yes 40 rfl (by kernel_rfl) (by kernel_rfl) (at_dep rfl rfl rfl)) ⟨g_dep 28 (by kernel_rfl) (at_dep rfl rfl rfl), trivial⟩ (fun w hw => rn_load Try.isAgg2 rfl ((below_agree hw 0).cell (Nat.zero_le _) (cell_own (hS.at_ 0 rfl) rfl))) (at_top rfl)) ?_
   refine bl_cons 31 rfl (isV (.bool true)) (stab_isV _) (rgVe (li := [(42, _)]) rfl (w_yes 40 rfl (by kernel_rfl) (by kernel_rfl) (at_dep rfl rfl rfl)) ⟨g_dep 29 (by kernel_rfl) (at_dep rfl rfl rfl), trivial⟩ (fun w hw => rn_neq rfl rfl) (by rw [decide_eq_true hkk]) (at_top rfl)) ?_
   refine bl_cons 32 rfl (isV _) (stab_isV _) (rgV (li := [(43, _)]) rfl (w_yes 40 rfl (by kernel_rfl) (by kernel_rfl) (at_dep rfl rfl rfl)) ⟨g_dep 30 (by kernel_rfl) (at_dep rfl rfl rfl), trivial⟩ (fun w hw => rn_move rfl) (at_top rfl)) ?_
   refine bl_cons 33 rfl (isV _) (stab_isV _) (rgV (li := [(3, _)]) rfl (w_yes 44 rfl (by kernel_rfl) (by kernel_rfl) (at_dep rfl rfl rfl)) ⟨g_fr (by kernel_rfl) rfl, trivial⟩ (fun w hw => rn_field (o' := 2) gr_fa_50_2 rfl rfl) (at_top rfl)) ?_
   refine bl_cons 34 rfl (isV _) (stab_isV _) (rgV (li := [(45, _)]) rfl (w_yes 44 rfl (by kernel_rfl) (by kernel_rfl) (at_dep rfl rfl rfl)) ⟨g_dep 32 (by kernel_rfl) (at_dep rfl rfl rfl), trivial⟩ (fun w hw => rn_load Try.isAgg48 rfl ((below_agree hw 0).cell (Nat.zero_le _) (cell_own (hS.at_ 0 rfl) rfl))) (at_top rfl)) ?_
   refine bl_cons 35 rfl (isV (.bool true)) (stab_isV _) (rgVe (li := [(46, _)]) rfl (w_yes 44 rfl (by kernel_rfl) (by kernel_rfl) (at_dep rfl rfl rfl)) ⟨g_dep 33 (by kernel_rfl) (at_dep rfl rfl rfl), trivial⟩ (fun w hw => rn_neq rfl rfl) (by rw [decide_eq_true hk2]) (at_top rfl)) ?_
   refine bl_cons 36 rfl (isV _) (stab_isV _) (rgV (li := [(44, _), (47, _)]) rfl (w_yes 40 rfl (by kernel_rfl) (by kernel_rfl) (at_dep rfl rfl rfl)) ⟨g_dep 31 (by kernel_rfl) (at_dep rfl rfl rfl), g_dep 34 (by kernel_rfl) (at_dep rfl rfl rfl), trivial⟩ (fun w hw => rn_pickT rfl rfl) (at_top rfl)) ?_
   refine bl_cons 37 rfl (isV _) (stab_isV _) (rgV (li := [(40, _), (48, _)]) rfl (w_free rfl) ⟨g_dep 27 (by kernel_rfl) (at_dep rfl rfl rfl), g_dep 35 (by kernel_rfl) (at_dep rfl rfl rfl), trivial⟩ (fun w hw => rn_pickF rfl rfl) (at_top rfl)) ?_
   refine bl_cons 38 rfl (isV _) (stab_isV _) (rgV (li := [(49, _)]) rfl (w_free rfl) ⟨g_dep 36 (by kernel_rfl) (at_dep rfl rfl rfl), trivial⟩ (fun w hw => rn_move rfl) (at_top rfl)) ?_
   refine bl_cons 39 rfl (isV undef) (stab_isV _) (rg_no rfl (w_no 50 rfl (by kernel_rfl) (by kernel_rfl) (at_dep rfl rfl rfl) rfl) (at_top rfl)) ?_
   refine bl_cons 40 rfl (isV undef) (stab_isV _) (rg_no rfl (w_no 50 rfl (by kernel_rfl) (by kernel_rfl) (at_dep rfl rfl rfl) rfl) (at_top rfl)) ?_
   refine bl_cons 41 rfl (isV undef) (stab_isV _) (rg_no rfl (w_no 50 rfl (by kernel_rfl) (by kernel_rfl) (at_dep rfl rfl rfl) rfl) (at_top rfl)) ?_
   refine bl_cons 42 rfl (isV undef) (stab_isV _) (rg_no rfl (w_no 50 rfl (by kernel_rfl) (by kernel_rfl) (at_dep rfl rfl rfl) rfl) (at_top rfl)) ?_
   refine bl_cons 43 rfl (isV undef) (stab_isV _) (rg_no rfl (w_un 54 rfl (by kernel_rfl) (by kernel_rfl) (at_dep rfl rfl rfl)) (at_top rfl)) ?_
   refine bl_cons 44 rfl (isV undef) (stab_isV _) (rg_no rfl (w_un 54 rfl (by kernel_rfl) (by kernel_rfl) (at_dep rfl rfl rfl)) (at_top rfl)) ?_
   refine bl_cons 45 rfl (isV undef) (stab_isV _) (rg_no rfl (w_un 54 rfl (by kernel_rfl) (by kernel_rfl) (at_dep rfl rfl rfl)) (at_top rfl)) ?_
   refine bl_cons 46 rfl (isV undef) (stab_isV _) (rg_no rfl (w_no 50 rfl (by kernel_rfl) (by kernel_rfl) (at_dep rfl rfl rfl) rfl) (at_top rfl)) ?_
   refine bl_cons 47 rfl (isV _) (stab_isV _) (rgV (li := [(50, _)]) rfl (w_free rfl) ⟨g_dep 37 (by kernel_rfl) (at_dep rfl rfl rfl), trivial⟩ (fun w hw => rn_pickT rfl rfl) (at_top rfl)) ?_
   refine bl_nil ?_
   intro W18 hbR hS'
   clear hS; have hS := hS'; clear hS'
   refine fin_v ?_
   refine fin_v ?_
   refine fin_v ?_
   refine fin_v ?_
   refine fin_v ?_
   refine fin_v ?_
   refine fin_v ?_
   refine fin_v ?_
   refine fin_v ?_
   refine fin_v ?_
   refine fin_v ?_
   refine fin_v ?_
   refine fin_v ?_
   refine fin_v ?_
   refine fin_v ?_
   refine fin_v ?_
   refine fin_v ?_
   refine fin_v ?_
   refine fin_v ?_
   refine fin_v ?_
   refine fin_v ?_
   refine fin_v ?_
   refine fin_v ?_
   refine fin_v ?_
   refine fin_v ?_
   refine fin_v ?_
   refine fin_v ?_
   refine fin_v ?_
   refine fin_v ?_
   refine fin_v ?_
   refine fin_v ?_
   refine fin_v ?_
   refine fin_v ?_
   refine fin_v ?_
   refine fin_v ?_
   refine fin_v ?_
   refine fin_v ?_
   refine fin_v ?_
   refine fin_v ?_
   refine fin_v ?_
   refine fin_v ?_
   refine fin_v ?_
   refine fin_v ?_
   refine fin_v ?_
   refine fin_v ?_
   refine fin_v ?_
   refine fin_v ?_
   refine fin_nil ?_
   refine XF.thenN ?_
   refine condT rfl ?_
   refine seqF (regF ?_)
   refine op_assign rfl rfl ?_
   refine endF (XF.thenN ?_)
   refine retF ?_
   refine XF.thenR ?_
   refine XF.res (res1 Try.results28 rfl) ?_
   exact ⟨gr_rbool (by unfold stepQ; dsimp only; rw [if_neg (by rw [hf]; simp), if_neg (by rw [hg]; simp), if_neg (by rw [hoe, hee]; simp), if_pos ⟨hkk, hk2⟩]), hS.below⟩
  ·have hoe := ofEq_at hy1 hy2
   rw [← ef, ← et] at hoe
   obtain ⟨ob, oo, z1, rfl, hz1, hzc1⟩ := ho.get (i := kf) (by omega)
   obtain ⟨ob2, oo2, z2, e2, hz2, hzc2⟩ := ho.get (i := kt) (by omega)
   cases e2
   obtain rfl : y1 = z1 := Option.some.inj (hy1.symm.trans hz1)
   obtain rfl : y2 = z2 := Option.some.inj (hy2.symm.trans hz2)
   have k3 := (CellsAt.agree hS.agree (Nat.zero_le _) hzc1).1
   have k4 := (CellsAt.agree hS.agree (Nat.zero_le _) hzc2).1
   refine regB (m := 47) gr_followsM hS (by kernel_rfl) (by kernel_rfl) rfl ?_
   refine bl_cons 1 rfl (isV _) (stab_isV _) (rgV (li := [(3, _)]) rfl (w_free rfl) ⟨g_fr (by kernel_rfl) rfl, trivial⟩ (fun w hw => rn_field (o' := 0) gr_fa_50_0 rfl rfl) (at_top rfl)) ?_
   refine bl_cons 2 rfl (isV _) (stab_isV _) (rgV (li := [(13, _)]) rfl (w_free rfl) ⟨g_dep 0 (by kernel_rfl) (at_dep rfl rfl rfl), trivial⟩ (fun w hw => rn_load Try.isAgg3 rfl ((below_agree hw 0).cell (Nat.zero_le _) (cell_own (hS.at_ 0 rfl) rfl))) (at_top rfl)) ?_
   refine bl_cons 3 rfl (isV _) (stab_isV _) (rgV (li := [(5, _)]) rfl (w_free rfl) ⟨g_fr (by kernel_rfl) rfl, trivial⟩ (fun w hw => rn_move rfl) (at_top rfl)) ?_
   refine bl_cons 4 rfl (isV (.bool true)) (stab_isV _) (rg_call [isV _, isV _] rfl gr_goes_29 (w_free rfl) ⟨p_tmp (g_dep 1 (by kernel_rfl) (at_dep rfl rfl rfl)), p_tmp (g_dep 2 (by kernel_rfl) (at_dep rfl rfl rfl)), trivial⟩ (fun vs w' hb hh => by have e := holds_isV (us := [_, _]) hh; subst e; exact (in_is s.f _ _).mono fun e w2 h => ⟨_, by rw [h.1, hf], rfl, h.2⟩) (at_top rfl)) ?_
   refine bl_cons 5 rfl (isV _) (stab_isV _) (rgV (li := [(16, _)]) rfl (w_free rfl) ⟨g_dep 3 (by kernel_rfl) (at_dep rfl rfl rfl), trivial⟩ (fun w hw => rn_not rfl) (at_top rfl)) ?_
   refine bl_cons 6 rfl (isV _) (stab_isV _) (rgV (li := [(17, _)]) rfl (w_free rfl) ⟨g_dep 4 (by kernel_rfl) (at_dep rfl rfl rfl), trivial⟩ (fun w hw => rn_move rfl) (at_top rfl)) ?_
   refine bl_cons 7 rfl (isV _) (stab_isV _) (rgV (li := [(3, _)]) rfl (w_yes 18 rfl (by kernel_rfl) (by kernel_rfl) (at_dep rfl rfl rfl)) ⟨g_fr (by kernel_rfl) rfl, trivial⟩ (fun w hw => rn_field (o' := 1) gr_fa_50_1 rfl rfl) (at_top rfl)) ?_
   refine bl_cons 8 rfl (isV _) (stab_isV _) (rgV (li := [(19, _)]) rfl (w_yes 18 rfl (by kernel_rfl) (by kernel_rfl) (at_dep rfl rfl rfl)) ⟨g_dep 6 (by kernel_rfl) (at_dep rfl rfl rfl), trivial⟩ (fun w hw => rn_load Try.isAgg3 rfl ((below_agree hw 0).cell (Nat.zero_le _) (cell_own (hS.at_ 0 rfl) rfl))) (at_top rfl)) ?_
   refine bl_cons 9 rfl (isV _) (stab_isV _) (rgV (li := [(5, _)]) rfl (w_yes 18 rfl (by kernel_rfl) (by kernel_rfl) (at_dep rfl rfl rfl)) ⟨g_fr (by kernel_rfl) rfl, trivial⟩ (fun w hw => rn_move rfl) (at_top rfl)) ?_
   refine bl_cons 10 rfl (isV (.bool true)) (stab_isV _) (rg_call [isV _, isV _] rfl gr_goes_29 (w_yes 18 rfl (by kernel_rfl) (by kernel_rfl) (at_dep rfl rfl rfl)) ⟨p_tmp (g_dep 7 (by kernel_rfl) (at_dep rfl rfl rfl)), p_tmp (g_dep 8 (by kernel_rfl) (at_dep rfl rfl rfl)), trivial⟩ (fun vs w' hb hh => by have e := holds_isV (us := [_, _]) hh; subst e; exact (in_is s.t _ _).mono fun e w2 h => ⟨_, by rw [h.1, hg], rfl, h.2⟩) (at_top rfl)) ?_
   refine bl_cons 11 rfl (isV _) (stab_isV _) (rgV (li := [(22, _)]) rfl (w_yes 18 rfl (by kernel_rfl) (by kernel_rfl) (at_dep rfl rfl rfl)) ⟨g_dep 9 (by kernel_rfl) (at_dep rfl rfl rfl), trivial⟩ (fun w hw => rn_not rfl) (at_top rfl)) ?_
   refine bl_cons 12 rfl (isV _) (stab_isV _) (rgV (li := [(18, _), (23, _)]) rfl (w_free rfl) ⟨g_dep 5 (by kernel_rfl) (at_dep rfl rfl rfl), g_dep 10 (by kernel_rfl) (at_dep rfl rfl rfl), trivial⟩ (fun w hw => rn_pickF rfl rfl) (at_top rfl)) ?_
   refine bl_cons 13 rfl (isV _) (stab_isV _) (rgV (li := [(24, _)]) rfl (w_free rfl) ⟨g_dep 11 (by kernel_rfl) (at_dep rfl rfl rfl), trivial⟩ (fun w hw => rn_move rfl) (at_top rfl)) ?_
   refine bl_cons 14 rfl (isV _) (stab_isV _) (rgV (li := [(2, _)]) rfl (w_yes 25 rfl (by kernel_rfl) (by kernel_rfl) (at_dep rfl rfl rfl)) ⟨g_fr (by kernel_rfl) rfl, trivial⟩ (fun w hw => rn_field (o' := 5) gr_fa_29_5 rfl rfl) (at_top rfl)) ?_
   refine bl_cons 15 rfl (isV _) (stab_isV _) (rgV (li := [(26, _)]) rfl (w_yes 25 rfl (by kernel_rfl) (by kernel_rfl) (at_dep rfl rfl rfl)) ⟨g_dep 13 (by kernel_rfl) (at_dep rfl rfl rfl), trivial⟩ (fun w hw => rn_load Try.isAgg23 rfl ((below_agree hw 0).cell (Nat.zero_le _) (cell_own (hS.at_ 1 rfl) rfl))) (at_top rfl)) ?_
   refine bl_cons 16 rfl (isV _) (stab_isV _) (rgV (li := [(3, _)]) rfl (w_yes 25 rfl (by kernel_rfl) (by kernel_rfl) (at_dep rfl rfl rfl)) ⟨g_fr (by kernel_rfl) rfl, trivial⟩ (fun w hw => rn_field (o' := 0) gr_fa_50_0 rfl rfl) (at_top rfl)) ?_
   refine bl_cons 17 rfl (isV _) (stab_isV _) (rgV (li := [(28, _)]) rfl (w_yes 25 rfl (by kernel_rfl) (by kernel_rfl) (at_dep rfl rfl rfl)) ⟨g_dep 15 (by kernel_rfl) (at_dep rfl rfl rfl), trivial⟩ (fun w hw => rn_load Try.isAgg3 rfl ((below_agree hw 0).cell (Nat.zero_le _) (cell_own (hS.at_ 0 rfl) rfl))) (at_top rfl)) ?_
   refine bl_cons 18 rfl (isV _) (stab_isV _) (rgV (li := [(27, _), (29, _)]) rfl (w_yes 25 rfl (by kernel_rfl) (by kernel_rfl) (at_dep rfl rfl rfl)) ⟨g_dep 14 (by kernel_rfl) (at_dep rfl rfl rfl), g_dep 16 (by kernel_rfl) (at_dep rfl rfl rfl), trivial⟩ (fun w hw => rn_indexA (j := kf) Try.underlying23 Try.sizeOf3 rfl rfl (by omega) (by omega) rfl) (at_top rfl)) ?_
   refine bl_cons 19 rfl (isV _) (stab_isV _) (rgV (li := [(30, _)]) rfl (w_yes 25 rfl (by kernel_rfl) (by kernel_rfl) (at_dep rfl rfl rfl)) ⟨g_dep 17 (by kernel_rfl) (at_dep rfl rfl rfl), trivial⟩ (fun w hw => rn_load Try.isAgg3 rfl ((below_agree hw 0).cell (Nat.zero_le _) (k3))) (at_top rfl)) ?_
   refine bl_cons 20 rfl (isV _) (stab_isV _) (rgV (li := [(2, _)]) rfl (w_yes 25 rfl (by kernel_rfl) (by kernel_rfl) (at_dep rfl rfl rfl)) ⟨g_fr (by kernel_rfl) rfl, trivial⟩ (fun w hw => rn_field (o' := 5) gr_fa_29_5 rfl rfl) (at_top rfl)) ?_
   refine bl_cons 21 rfl (isV _) (stab_isV _) (rgV (li := [(32, _)]) rfl (w_yes 25 rfl (by kernel_rfl) (by kernel_rfl) (at_dep rfl rfl rfl)) ⟨g_dep 19 (by kernel_rfl) (at_dep rfl rfl rfl), trivial⟩ (fun w hw => rn_load Try.isAgg23 rfl ((below_agree hw 0).cell (Nat.zero_le _) (cell_own (hS.at_ 1 rfl) rfl))) (at_top rfl)) ?_
   refine bl_cons 22 rfl (isV _) (stab_isV _) (rgV (li := [(3, _)]) rfl (w_yes 25 rfl (by kernel_rfl) (by kernel_rfl) (at_dep rfl rfl rfl)) ⟨g_fr (by kernel_rfl) rfl, trivial⟩ (fun w hw => rn_field (o' := 1) gr_fa_50_1 rfl rfl) (at_top rfl)) ?_
   refine bl_cons 23 rfl (isV _) (stab_isV _) (rgV (li := [(34, _)]) rfl (w_yes 25 rfl (by kernel_rfl) (by kernel_rfl) (at_dep rfl rfl rfl)) ⟨g_dep 21 (by kernel_rfl) (at_dep rfl rfl rfl), trivial⟩ (fun w hw => rn_load Try.isAgg3 rfl ((below_agree hw 0).cell (Nat.zero_le _) (cell_own (hS.at_ 0 rfl) rfl))) (at_top rfl)) ?_
   refine bl_cons 24 rfl (isV _) (stab_isV _) (rgV (li := [(33, _), (35, _)]) rfl (w_yes 25 rfl (by kernel_rfl) (by kernel_rfl) (at_dep rfl rfl rfl)) ⟨g_dep 20 (by kernel_rfl) (at_dep rfl rfl rfl), g_dep 22 (by kernel_rfl) (at_dep rfl rfl rfl), trivial⟩ (fun w hw => rn_indexA (j := kt) Try.underlying23 Try.sizeOf3 rfl rfl (by omega) (by omega) rfl) (at_top rfl)) ?_
   refine bl_cons 25 rfl (isV _) (stab_isV _) (rgV (li := [(36, _)]) rfl (w_yes 25 rfl (by kernel_rfl) (by kernel_rfl) (at_dep rfl rfl rfl)) ⟨g_dep 23 (by kernel_rfl) (at_dep rfl rfl rfl), trivial⟩ (fun w hw => rn_load Try.isAgg3 rfl ((below_agree hw 0).cell (Nat.zero_le _) (k4))) (at_top rfl)) ?_
   refine bl_cons 26 rfl (isV (.bool false)) (stab_isV _) (rgVe (li := [(31, _), (37, _)]) rfl (w_yes 25 rfl (by kernel_rfl) (by kernel_rfl) (at_dep rfl rfl rfl)) ⟨g_dep 18 (by kernel_rfl) (at_dep rfl rfl rfl), g_dep 24 (by kernel_rfl) (at_dep rfl rfl rfl), trivial⟩ (fun w hw => rn_neq rfl rfl) (by rw [decide_eq_false (not_not_intro hee)]) (at_top rfl)) ?_
   refine bl_cons 27 rfl (isV _) (stab_isV _) (rgV (li := [(25, _), (38, _)]) rfl (w_free rfl) ⟨g_dep 12 (by kernel_rfl) (at_dep rfl rfl rfl), g_dep 25 (by kernel_rfl) (at_dep rfl rfl rfl), trivial⟩ (fun w hw => rn_pickF rfl rfl) (at_top rfl)) ?_
   refine bl_cons 28 rfl (isV _) (stab_isV _) (rgV (li := [(39, _)]) rfl (w_free rfl) ⟨g_dep 26 (by kernel_rfl) (at_dep rfl rfl rfl), trivial⟩ (fun w hw => rn_move rfl) (at_top rfl)) ?_
   refine bl_cons 29 rfl (isV _) (stab_isV _) (rgV (li := [(3, _)]) rfl (w_yes 40 rfl (by kernel_rfl) (by kernel_rfl) (at_dep rfl rfl rfl)) ⟨g_fr (by kernel_rfl) rfl, trivial⟩ (fun w hw => rn_field (o' := 5) gr_fa_50_5 rfl rfl) (at_top rfl)) ?_
   refine bl_cons 30 rfl (isV _) (stab_isV _) (rgV (li := [(41, _)]) rfl (w_yes 40 rfl (by kernel_rfl) (by kernel_rfl) (at_dep rfl rfl rfl)) ⟨g_dep 28 (by kernel_rfl) (at_dep rfl rfl rfl), trivial⟩ (fun w hw => rn_load Try.isAgg2 rfl ((below_agree hw 0).cell (Nat.zero_le _) (cell_own (hS.at_ 0 rfl) rfl))) (at_top rfl)) ?_
   refine bl_cons 31 rfl (isV (.bool false)) (stab_isV _) (rgVe (li := [(42, _)]) rfl (w_yes 40 rfl (by kernel_rfl) (by kernel_rfl) (at_dep rfl rfl rfl)) ⟨g_dep 29 (by kernel_rfl) (at_dep rfl rfl rfl), trivial⟩ (fun w hw => rn_neq rfl rfl) (by rw [decide_eq_false (not_not_intro hkk)]) (at_top rfl)) ?_
   refine bl_cons 32 rfl (isV _) (stab_isV _) (rgV (li := [(43, _)]) rfl (w_yes 40 rfl (by kernel_rfl) (by kernel_rfl) (at_dep rfl rfl rfl)) ⟨g_dep 30 (by kernel_rfl) (at_dep rfl rfl rfl), trivial⟩ (fun w hw => rn_move rfl) (at_top rfl)) ?_
   refine bl_cons 33 rfl (isV undef) (stab_isV _) (rg_no rfl (w_no 44 rfl (by kernel_rfl) (by kernel_rfl) (at_dep rfl rfl rfl) rfl) (at_top rfl)) ?_
   refine bl_cons 34 rfl (isV undef) (stab_isV _) (rg_no rfl (w_no 44 rfl (by kernel_rfl) (by kernel_rfl) (at_dep rfl rfl rfl) rfl) (at_top rfl)) ?_
   refine bl_cons 35 rfl (isV undef) (stab_isV _) (rg_no rfl (w_no 44 rfl (by kernel_rfl) (by kernel_rfl) (at_dep rfl rfl rfl) rfl) (at_top rfl)) ?_
   refine bl_cons 36 rfl (isV _) (stab_isV _) (rgV (li := [(44, _)]) rfl (w_yes 40 rfl (by kernel_rfl) (by kernel_rfl) (at_dep rfl rfl rfl)) ⟨g_dep 31 (by kernel_rfl) (at_dep rfl rfl rfl), trivial⟩ (fun w hw => rn_pickF rfl rfl) (at_top rfl)) ?_
   refine bl_cons 37 rfl (isV _) (stab_isV _) (rgV (li := [(40, _), (48, _)]) rfl (w_free rfl) ⟨g_dep 27 (by kernel_rfl) (at_dep rfl rfl rfl), g_dep 35 (by kernel_rfl) (at_dep rfl rfl rfl), trivial⟩ (fun w hw => rn_pickF rfl rfl) (at_top rfl)) ?_
   refine bl_cons 38 rfl (isV _) (stab_isV _) (rgV (li := [(49, _)]) rfl (w_free rfl) ⟨g_dep 36 (by kernel_rfl) (at_dep rfl rfl rfl), trivial⟩ (fun w hw => rn_move rfl) (at_top rfl)) ?_
   refine bl_cons 39 rfl (isV _) (stab_isV _) (rgV (li := [(3, _)]) rfl (w_yes 50 rfl (by kernel_rfl) (by kernel_rfl) (at_dep rfl rfl rfl)) ⟨g_fr (by kernel_rfl) rfl, trivial⟩ (fun w hw => rn_field (o' := 6) gr_fa_50_6 rfl rfl) (at_top rfl)) ?_
   refine bl_cons 40 rfl (isV _) (stab_isV _) (rgV (li := [(51, _)]) rfl (w_yes 50 rfl (by kernel_rfl) (by kernel_rfl) (at_dep rfl rfl rfl)) ⟨g_dep 38 (by kernel_rfl) (at_dep rfl rfl rfl), trivial⟩ (fun w hw => rn_load Try.isAgg3 rfl ((below_agree hw 0).cell (Nat.zero_le _) (cell_own (hS.at_ 0 rfl) rfl))) (at_top rfl)) ?_
   refine bl_cons 41 rfl (isV (.bool true)) (stab_isV _) (rgVe (li := [(52, _)]) rfl (w_yes 50 rfl (by kernel_rfl) (by kernel_rfl) (at_dep rfl rfl rfl)) ⟨g_dep 39 (by kernel_rfl) (at_dep rfl rfl rfl), trivial⟩ (fun w hw => rn_neq rfl rfl) (by rw [decide_eq_true hz]) (at_top rfl)) ?_
   refine bl_cons 42 rfl (isV _) (stab_isV _) (rgV (li := [(53, _)]) rfl (w_yes 50 rfl (by kernel_rfl) (by kernel_rfl) (at_dep rfl rfl rfl)) ⟨g_dep 40 (by kernel_rfl) (at_dep rfl rfl rfl), trivial⟩ (fun w hw => rn_move rfl) (at_top rfl)) ?_
   refine bl_cons 43 rfl (isV _) (stab_isV _) (rgV (li := [(3, _)]) rfl (w_yes 54 rfl (by kernel_rfl) (by kernel_rfl) (at_dep rfl rfl rfl)) ⟨g_fr (by kernel_rfl) rfl, trivial⟩ (fun w hw => rn_field (o' := 2) gr_fa_50_2 rfl rfl) (at_top rfl)) ?_
   refine bl_cons 44 rfl (isV _) (stab_isV _) (rgV (li := [(55, _)]) rfl (w_yes 54 rfl (by kernel_rfl) (by kernel_rfl) (at_dep rfl rfl rfl)) ⟨g_dep 42 (by kernel_rfl) (at_dep rfl rfl rfl), trivial⟩ (fun w hw => rn_load Try.isAgg48 rfl ((below_agree hw 0).cell (Nat.zero_le _) (cell_own (hS.at_ 0 rfl) rfl))) (at_top rfl)) ?_
   refine bl_cons 45 rfl (isV (.bool true)) (stab_isV _) (rgVe (li := [(56, _)]) rfl (w_yes 54 rfl (by kernel_rfl) (by kernel_rfl) (at_dep rfl rfl rfl)) ⟨g_dep 43 (by kernel_rfl) (at_dep rfl rfl rfl), trivial⟩ (fun w hw => rn_neq rfl rfl) (by rw [decide_eq_true hk8]) (at_top rfl)) ?_
   refine bl_cons 46 rfl (isV _) (stab_isV _) (rgV (li := [(54, _), (57, _)]) rfl (w_yes 50 rfl (by kernel_rfl) (by kernel_rfl) (at_dep rfl rfl rfl)) ⟨g_dep 41 (by kernel_rfl) (at_dep rfl rfl rfl), g_dep 44 (by kernel_rfl) (at_dep rfl rfl rfl), trivial⟩ (fun w hw => rn_pickT rfl rfl) (at_top rfl)) ?_
   refine bl_cons 47 rfl (isV _) (stab_isV _) (rgV (li := [(50, _), (58, _)]) rfl (w_free rfl) ⟨g_dep 37 (by kernel_rfl) (at_dep rfl rfl rfl), g_dep 45 (by kernel_rfl) (at_dep rfl rfl rfl), trivial⟩ (fun w hw => rn_pickF rfl rfl) (at_top rfl)) ?_
   refine bl_nil ?_
   intro W19 hbR hS'
   clear hS; have hS := hS'; clear hS'
   refine fin_v ?_
   refine fin_v ?_
   refine fin_v ?_
   refine fin_v ?_
   refine fin_v ?_
   refine fin_v ?_
   refine fin_v ?_
   refine fin_v ?_
   refine fin_v ?_
   refine fin_v ?_
   refine fin_v ?_
   refine fin_v ?_
   refine fin_v ?_
   refine fin_v ?_
   refine fin_v ?_
   refine fin_v ?_
   refine fin_v ?_
   refine fin_v ?_
   refine fin_v ?_
   refine fin_v ?_
   refine fin_v ?_
   refine fin_v ?_
   refine fin_v ?_
   refine fin_v ?_
   refine fin_v ?_
   refine fin_v ?_
   refine fin_v ?_
   refine fin_v ?_
   refine fin_v ?_
   refine fin_v ?_
   refine fin_v ?_
   refine fin_v ?_
   refine fin_v ?_
   refine fin_v ?_
   refine fin_v ?_
   refine fin_v ?_
   refine fin_v ?_
   refine fin_v ?_
   refine fin_v ?_
   refine fin_v ?_
   refine fin_v ?_
   refine fin_v ?_
   refine fin_v ?_
   refine fin_v ?_
   refine fin_v ?_
   refine fin_v ?_
   refine fin_v ?_
   refine fin_nil ?_
   refine XF.thenN ?_
   refine condT rfl ?_
   refine seqF (regF ?_)
   refine op_assign rfl rfl ?_
   refine endF (XF.thenN ?_)
   refine retF ?_
   refine XF.thenR ?_
   refine XF.res (res1 Try.results28 rfl) ?_
   exact ⟨gr_rbool (by unfold stepQ; dsimp only; rw [if_neg (by rw [hf]; simp), if_neg (by rw [hg]; simp), if_neg (by rw [hoe, hee]; simp), if_neg (fun h => h.1 hkk), if_pos ⟨hz, hk8⟩]), hS.below⟩
  ·have hoe := ofEq_at hy1 hy2
   rw [← ef, ← et] at hoe
   obtain ⟨ob, oo, z1, rfl, hz1, hzc1⟩ := ho.get (i := kf) (by omega)
   obtain ⟨ob2, oo2, z2, e2, hz2, hzc2⟩ := ho.get (i := kt) (by omega)
   cases e2
   obtain rfl : y1 = z1 := Option.some.inj (hy1.symm.trans hz1)
   obtain rfl : y2 = z2 := Option.some.inj (hy2.symm.trans hz2)
   have k3 := (CellsAt.agree hS.agree (Nat.zero_le _) hzc1).1
   have k4 := (CellsAt.agree hS.agree (Nat.zero_le _) hzc2).1
   refine regB (m := 47) gr_followsM hS (by kernel_rfl) (by kernel_rfl) rfl ?_
   refine bl_cons 1 rfl (isV _) (stab_isV _) (rgV (li := [(3, _)]) rfl (w_free rfl) ⟨g_fr (by kernel_rfl) rfl, trivial⟩ (fun w hw => rn_field (o' := 0) gr_fa_50_0 rfl rfl) (at_top rfl)) ?_
   refine bl_cons 2 rfl (isV _) (stab_isV _) (rgV (li := [(13, _)]) rfl (w_free rfl) ⟨g_dep 0 (by kernel_rfl) (at_dep rfl rfl rfl), trivial⟩ (fun w hw => rn_load Try.isAgg3 rfl ((below_agree hw 0).cell (Nat.zero_le _) (cell_own (hS.at_ 0 rfl) rfl))) (at_top rfl)) ?_
   refine bl_cons 3 rfl (isV _) (stab_isV _) (rgV (li := [(5, _)]) rfl (w_free rfl) ⟨g_fr (by kernel_rfl) rfl, trivial⟩ (fun w hw => rn_move rfl) (at_top rfl)) ?_
   refine bl_cons 4 rfl (isV (.bool true)) (stab_isV _) (rg_call [isV _, isV _] rfl gr_goes_29 (w_free rfl) ⟨p_tmp (g_dep 1 (by kernel_rfl) (at_dep rfl rfl rfl)), p_tmp (g_dep 2 (by kernel_rfl) (at_dep rfl rfl rfl)), trivial⟩ (fun vs w' hb hh => by have e := holds_isV (us := [_, _]) hh; subst e; exact (in_is s.f _ _).mono fun e w2 h => ⟨_, by rw [h.1, hf], rfl, h.2⟩) (at_top rfl)) ?_
   refine bl_cons 5 rfl (isV _) (stab_isV _) (rgV (li := [(16, _)]) rfl (w_free rfl) ⟨g_dep 3 (by kernel_rfl) (at_dep rfl rfl rfl), trivial⟩ (fun w hw => rn_not rfl) (at_top rfl)) ?_
   refine bl_cons 6 rfl (isV _) (stab_isV _) (rgV (li := [(17, _)]) rfl (w_free rfl) ⟨g_dep 4 (by kernel_rfl) (at_dep rfl rfl rfl), trivial⟩ (fun w hw => rn_move rfl) (at_top rfl)) ?_
   refine bl_cons 7 rfl (isV _) (stab_isV _) (rgV (li := [(3, _)]) rfl (w_yes 18 rfl (by kernel_rfl) (by kernel_rfl) (at_dep rfl rfl rfl)) ⟨g_fr (by kernel_rfl) rfl, trivial⟩ (fun w hw => rn_field (o' := 1) gr_fa_50_1 rfl rfl) (at_top rfl)) ?_
   refine bl_cons 8 rfl (isV _) (stab_isV _) (rgV (li := [(19, _)]) rfl (w_yes 18 rfl (by kernel_rfl) (by kernel_rfl) (at_dep rfl rfl rfl)) ⟨g_dep 6 (by kernel_rfl) (at_dep rfl rfl rfl), trivial⟩ (fun w hw => rn_load Try.isAgg3 rfl ((below_agree hw 0).cell (Nat.zero_le _) (cell_own (hS.at_ 0 rfl) rfl))) (at_top rfl)) ?_
   refine bl_cons 9 rfl (isV _) (stab_isV _) (rgV (li := [(5, _)]) rfl (w_yes 18 rfl (by kernel_rfl) (by kernel_rfl) (at_dep rfl rfl rfl)) ⟨g_fr (by kernel_rfl) rfl, trivial⟩ (fun w hw => rn_move rfl) (at_top rfl)) ?_
   refine bl_cons 10 rfl (isV (.bool true)) (stab_isV _) (rg_call [isV _, isV _] rfl gr_goes_29 (w_yes 18 rfl (by kernel_rfl) (by kernel_rfl) (at_dep rfl rfl rfl)) ⟨p_tmp (g_dep 7 (by kernel_rfl) (at_dep rfl rfl rfl)), p_tmp (g_dep 8 (by kernel_rfl) (at_dep rfl rfl rfl)), trivial⟩ (fun vs w' hb hh => by have e := holds_isV (us := [_, _]) hh; subst e; exact (in_is s.t _ _).mono fun e w2 h => ⟨_, by rw [h.1, hg], rfl, h.2⟩) (at_top rfl)) ?_
   refine bl_cons 11 rfl (isV _) (stab_isV _) (rgV (li := [(22, _)]) rfl (w_yes 18 rfl (by kernel_rfl) (by kernel_rfl) (at_dep rfl rfl rfl)) ⟨g_dep 9 (by kernel_rfl) (at_dep rfl rfl rfl), trivial⟩ (fun w hw => rn_not rfl) (at_top rfl)) ?_
   refine bl_cons 12 rfl (isV _) (stab_isV _) (rgV (li := [(18, _), (23, _)]) rfl (w_free rfl) ⟨g_dep 5 (by kernel_rfl) (at_dep rfl rfl rfl), g_dep 10 (by kernel_rfl) (at_dep rfl rfl rfl), trivial⟩ (fun w hw => rn_pickF rfl rfl) (at_top rfl)) ?_
   refine bl_cons 13 rfl (isV _) (stab_isV _) (rgV (li := [(24, _)]) rfl (w_free rfl) ⟨g_dep 11 (by kernel_rfl) (at_dep rfl rfl rfl), trivial⟩ (fun w hw => rn_move rfl) (at_top rfl)) ?_
   refine bl_cons 14 rfl (isV _) (stab_isV _) (rgV (li := [(2, _)]) rfl (w_yes 25 rfl (by kernel_rfl) (by kernel_rfl) (at_dep rfl rfl rfl)) ⟨g_fr (by kernel_rfl) rfl, trivial⟩ (fun w hw => rn_field (o' := 5) gr_fa_29_5 rfl rfl) (at_top rfl)) ?_
   refine bl_cons 15 rfl (isV _) (stab_isV _) (rgV (li := [(26, _)]) rfl (w_yes 25 rfl (by kernel_rfl) (by kernel_rfl) (at_dep rfl rfl rfl)) ⟨g_dep 13 (by kernel_rfl) (at_dep rfl rfl rfl), trivial⟩ (fun w hw => rn_load Try.isAgg23 rfl ((below_agree hw 0).cell (Nat.zero_le _) (cell_own (hS.at_ 1 rfl) rfl))) (at_top rfl)) ?_
   refine bl_cons 16 rfl (isV _) (stab_isV _) (rgV (li := [(3, _)]) rfl (w_yes 25 rfl (by kernel_rfl) (by kernel_rfl) (at_dep rfl rfl rfl)) ⟨g_fr (by kernel_rfl) rfl, trivial⟩ (fun w hw => rn_field (o' := 0) gr_fa_50_0 rfl rfl) (at_top rfl)) ?_
   refine bl_cons 17 rfl (isV _) (stab_isV _) (rgV (li := [(28, _)]) rfl (w_yes 25 rfl (by kernel_rfl) (by kernel_rfl) (at_dep rfl rfl rfl)) ⟨g_dep 15 (by kernel_rfl) (at_dep rfl rfl rfl), trivial⟩ (fun w hw => rn_load Try.isAgg3 rfl ((below_agree hw 0).cell (Nat.zero_le _) (cell_own (hS.at_ 0 rfl) rfl))) (at_top rfl)) ?_
   refine bl_cons 18 rfl (isV _) (stab_isV _) (rgV (li := [(27, _), (29, _)]) rfl (w_yes 25 rfl (by kernel_rfl) (by kernel_rfl) (at_dep rfl rfl rfl)) ⟨g_dep 14 (by kernel_rfl) (at_dep rfl rfl rfl), g_dep 16 (by kernel_rfl) (at_dep rfl rfl rfl), trivial⟩ (fun w hw => rn_indexA (j := kf) Try.underlying23 Try.sizeOf3 rfl rfl (by omega) (by omega) rfl) (at_top rfl)) ?_
   refine bl_cons 19 rfl (isV _) (stab_isV _) (rgV (li := [(30, _)]) rfl (w_yes 25 rfl (by kernel_rfl) (by kernel_rfl) (at_dep rfl rfl rfl)) ⟨g_dep 17 (by kernel_rfl) (at_dep rfl rfl rfl), trivial⟩ (fun w hw => rn_load Try.isAgg3 rfl ((below_agree hw 0).cell (Nat.zero_le _) (k3))) (at_top rfl)) ?_
   refine bl_cons 20 rfl (isV _) (stab_isV _) (rgV (li := [(2, _)]) rfl (w_yes 25 rfl (by kernel_rfl) (by kernel_rfl) (at_dep rfl rfl rfl)) ⟨g_fr (by kernel_rfl) rfl, trivial⟩ (fun w hw => rn_field (o' := 5) gr_fa_29_5 rfl rfl) (at_top rfl)) ?_
   refine bl_cons 21 rfl (isV _) (stab_isV _) (rgV (li := [(32, _)]) rfl (w_yes 25 rfl (by kernel_rfl) (by kernel_rfl) (at_dep rfl rfl rfl)) ⟨g_dep 19 (by kernel_rfl) (at_dep rfl rfl rfl), trivial⟩ (fun w hw => rn_load Try.isAgg23 rfl ((below_agree hw 0).cell (Nat.zero_le _) (cell_own (hS.at_ 1 rfl) rfl))) (at_top rfl)) ?_
   refine bl_cons 22 rfl (isV _) (stab_isV _) (rgV (li := [(3, _)]) rfl (w_yes 25 rfl (by kernel_rfl) (by kernel_rfl) (at_dep rfl rfl rfl)) ⟨g_fr (by kernel_rfl) rfl, trivial⟩ (fun w hw => rn_field (o' := 1) gr_fa_50_1 rfl rfl) (at_top rfl)) ?_
   refine bl_cons 23 rfl (isV _) (stab_isV _) (rgV (li := [(34, _)]) rfl (w_yes 25 rfl (by kernel_rfl) (by kernel_rfl) (at_dep rfl rfl rfl)) ⟨g_dep 21 (by kernel_rfl) (at_dep rfl rfl rfl), trivial⟩ (fun w hw => rn_load Try.isAgg3 rfl ((below_agree hw 0).cell (Nat.zero_le _) (cell_own (hS.at_ 0 rfl) rfl))) (at_top rfl)) ?_
   refine bl_cons 24 rfl (isV _) (stab_isV _) (rgV (li := [(33, _), (35, _)]) rfl (w_yes 25 rfl (by kernel_rfl) (by kernel_rfl) (at_dep rfl rfl rfl)) ⟨g_dep 20 (by kernel_rfl) (at_dep rfl rfl rfl), g_dep 22 (by kernel_rfl) (at_dep rfl rfl rfl), trivial⟩ (fun w hw => rn_indexA (j := kt) Try.underlying23 Try.sizeOf3 rfl rfl (by omega) (by omega) rfl) (at_top rfl)) ?_
   refine bl_cons 25 rfl (isV _) (stab_isV _) (rgV (li := [(36, _)]) rfl (w_yes 25 rfl (by kernel_rfl) (by kernel_rfl) (at_dep rfl rfl rfl)) ⟨g_dep 23 (by kernel_rfl) (at_dep rfl rfl rfl), trivial⟩ (fun w hw => rn_load Try.isAgg3 rfl ((below_agree hw 0).cell (Nat.zero_le _) (k4))) (at_top rfl)) ?_
   refine bl_cons 26 rfl (isV (.bool false)) (stab_isV _) (rgVe (li := [(31, _), (37, _)]) rfl (w_yes 25 rfl (by kernel_rfl) (by kernel_rfl) (at_dep rfl rfl rfl)) ⟨g_dep 18 (by kernel_rfl) (at_dep rfl rfl rfl), g_dep 24 (by kernel_rfl) (at_dep rfl rfl rfl), trivial⟩ (fun w hw => rn_neq rfl rfl) (by rw [decide_eq_false (not_not_intro hee)]) (at_top rfl)) ?_
   refine bl_cons 27 rfl (isV _) (stab_isV _) (rgV (li := [(25, _), (38, _)]) rfl (w_free rfl) ⟨g_dep 12 (by kernel_rfl) (at_dep rfl rfl rfl), g_dep 25 (by kernel_rfl) (at_dep rfl rfl rfl), trivial⟩ (fun w hw => rn_pickF rfl rfl) (at_top rfl)) ?_
   refine bl_cons 28 rfl (isV _) (stab_isV _) (rgV (li := [(39, _)]) rfl (w_free rfl) ⟨g_dep 26 (by kernel_rfl) (at_dep rfl rfl rfl), trivial⟩ (fun w hw => rn_move rfl) (at_top rfl)) ?_
   refine bl_cons 29 rfl (isV _) (stab_isV _) (rgV (li := [(3, _)]) rfl (w_yes 40 rfl (by kernel_rfl) (by kernel_rfl) (at_dep rfl rfl rfl)) ⟨g_fr (by kernel_rfl) rfl, trivial⟩ (fun w hw => rn_field (o' := 5) gr_fa_50_5 rfl rfl) (at_top rfl)) ?_
   refine bl_cons 30 rfl (isV _) (stab_isV _) (rgV (li := [(41, _)]) rfl (w_yes 40 rfl (by kernel_rfl) (by kernel_rfl) (at_dep rfl rfl rfl)) ⟨g_dep 28 (by kernel_rfl) (at_dep rfl rfl rfl), trivial⟩ (fun w hw => rn_load Try.isAgg2 rfl ((below_agree hw 0).cell (Nat.zero_le _) (cell_own (hS.at_ 0 rfl) rfl))) (at_top rfl)) ?_
   refine bl_cons 31 rfl (isV (.bool true)) (stab_isV _) (rgVe (li := [(42, _)]) rfl (w_yes 40 rfl (by kernel_rfl) (by kernel_rfl) (at_dep rfl rfl rfl)) ⟨g_dep 29 (by kernel_rfl) (at_dep rfl rfl rfl), trivial⟩ (fun w hw => rn_neq rfl rfl) (by rw [decide_eq_true hkk]) (at_top rfl)) ?_
   refine bl_cons 32 rfl (isV _) (stab_isV _) (rgV (li := [(43, _)]) rfl (w_yes 40 rfl (by kernel_rfl) (by kernel_rfl) (at_dep rfl rfl rfl)) ⟨g_dep 30 (by kernel_rfl) (at_dep rfl rfl rfl), trivial⟩ (fun w hw => rn_move rfl) (at_top rfl)) ?_
   refine bl_cons 33 rfl (isV _) (stab_isV _) (rgV (li := [(3, _)]) rfl (w_yes 44 rfl (by kernel_rfl) (by kernel_rfl) (at_dep rfl rfl rfl)) ⟨g_fr (by kernel_rfl) rfl, trivial⟩ (fun w hw => rn_field (o' := 2) gr_fa_50_2 rfl rfl) (at_top rfl)) ?_
   refine bl_cons 34 rfl (isV _) (stab_isV _) (rgV (li := [(45, _)]) rfl (w_yes 44 rfl (by kernel_rfl) (by kernel_rfl) (at_dep rfl rfl rfl)) ⟨g_dep 32 (by kernel_rfl) (at_dep rfl rfl rfl), trivial⟩ (fun w hw => rn_load Try.isAgg48 rfl ((below_agree hw 0).cell (Nat.zero_le _) (cell_own (hS.at_ 0 rfl) rfl))) (at_top rfl)) ?_
   refine bl_cons 35 rfl (isV (.bool false)) (stab_isV _) (rgVe (li := [(46, _)]) rfl (w_yes 44 rfl (by kernel_rfl) (by kernel_rfl) (at_dep rfl rfl rfl)) ⟨g_dep 33 (by kernel_rfl) (at_dep rfl rfl rfl), trivial⟩ (fun w hw => rn_neq rfl rfl) (by rw [decide_eq_false (not_not_intro hk2)]) (at_top rfl)) ?_
   refine bl_cons 36 rfl (isV _) (stab_isV _) (rgV (li := [(44, _), (47, _)]) rfl (w_yes 40 rfl (by kernel_rfl) (by kernel_rfl) (at_dep rfl rfl rfl)) ⟨g_dep 31 (by kernel_rfl) (at_dep rfl rfl rfl), g_dep 34 (by kernel_rfl) (at_dep rfl rfl rfl), trivial⟩ (fun w hw => rn_pickT rfl rfl) (at_top rfl)) ?_
   refine bl_cons 37 rfl (isV _) (stab_isV _) (rgV (li := [(40, _), (48, _)]) rfl (w_free rfl) ⟨g_dep 27 (by kernel_rfl) (at_dep rfl rfl rfl), g_dep 35 (by kernel_rfl) (at_dep rfl rfl rfl), trivial⟩ (fun w hw => rn_pickF rfl rfl) (at_top rfl)) ?_
   refine bl_cons 38 rfl (isV _) (stab_isV _) (rgV (li := [(49, _)]) rfl (w_free rfl) ⟨g_dep 36 (by kernel_rfl) (at_dep rfl rfl rfl), trivial⟩ (fun w hw => rn_move rfl) (at_top rfl)) ?_
   refine bl_cons 39 rfl (isV _) (stab_isV _) (rgV (li := [(3, _)]) rfl (w_yes 50 rfl (by kernel_rfl) (by kernel_rfl) (at_dep rfl rfl rfl)) ⟨g_fr (by kernel_rfl) rfl, trivial⟩ (fun w hw => rn_field (o' := 6) gr_fa_50_6 rfl rfl) (at_top rfl)) ?_
   refine bl_cons 40 rfl (isV _) (stab_isV _) (rgV (li := [(51, _)]) rfl (w_yes 50 rfl (by kernel_rfl) (by kernel_rfl) (at_dep rfl rfl rfl)) ⟨g_dep 38 (by kernel_rfl) (at_dep rfl rfl rfl), trivial⟩ (fun w hw => rn_load Try.isAgg3 rfl ((below_agree hw 0).cell (Nat.zero_le _) (cell_own (hS.at_ 0 rfl) rfl))) (at_top rfl)) ?_
   refine bl_cons 41 rfl (isV (.bool true)) (stab_isV _) (rgVe (li := [(52, _)]) rfl (w_yes 50 rfl (by kernel_rfl) (by kernel_rfl) (at_dep rfl rfl rfl)) ⟨g_dep 39 (by kernel_rfl) (at_dep rfl rfl rfl), trivial⟩ (fun w hw => rn_neq rfl rfl) (by rw [decide_eq_true hz]) (at_top rfl)) ?_
   refine bl_cons 42 rfl (isV _) (stab_isV _) (rgV (li := [(53, _)]) rfl (w_yes 50 rfl (by kernel_rfl) (by kernel_rfl) (at_dep rfl rfl rfl)) ⟨g_dep 40 (by kernel_rfl) (at_dep rfl rfl rfl), trivial⟩ (fun w hw => rn_move rfl) (at_top rfl)) ?_
   refine bl_cons 43 rfl (isV _) (stab_isV _) (rgV (li := [(3, _)]) rfl (w_yes 54 rfl (by kernel_rfl) (by kernel_rfl) (at_dep rfl rfl rfl)) ⟨g_fr (by kernel_rfl) rfl, trivial⟩ (fun w hw => rn_field (o' := 2) gr_fa_50_2 rfl rfl) (at_top rfl)) ?_
   refine bl_cons 44 rfl (isV _) (stab_isV _) (rgV (li := [(55, _)]) rfl (w_yes 54 rfl (by kernel_rfl) (by kernel_rfl) (at_dep rfl rfl rfl)) ⟨g_dep 42 (by kernel_rfl) (at_dep rfl rfl rfl), trivial⟩ (fun w hw => rn_load Try.isAgg48 rfl ((below_agree hw 0).cell (Nat.zero_le _) (cell_own (hS.at_ 0 rfl) rfl))) (at_top rfl)) ?_
   refine bl_cons 45 rfl (isV (.bool true)) (stab_isV _) (rgVe (li := [(56, _)]) rfl (w_yes 54 rfl (by kernel_rfl) (by kernel_rfl) (at_dep rfl rfl rfl)) ⟨g_dep 43 (by kernel_rfl) (at_dep rfl rfl rfl), trivial⟩ (fun w hw => rn_neq rfl rfl) (by rw [decide_eq_true hk8]) (at_top rfl)) ?_
   refine bl_cons 46 rfl (isV _) (stab_isV _) (rgV (li := [(54, _), (57, _)]) rfl (w_yes 50 rfl (by kernel_rfl) (by kernel_rfl) (at_dep rfl rfl rfl)) ⟨g_dep 41 (by kernel_rfl) (at_dep rfl rfl rfl), g_dep 44 (by kernel_rfl) (at_dep rfl rfl rfl), trivial⟩ (fun w hw => rn_pickT rfl rfl) (at_top rfl)) ?_
   refine bl_cons 47 rfl (isV _) (stab_isV _) (rgV (li := [(50, _), (58, _)]) rfl (w_free rfl) ⟨g_dep 37 (by kernel_rfl) (at_dep rfl rfl rfl), g_dep 45 (by kernel_rfl) (at_dep rfl rfl rfl), trivial⟩ (fun w hw => rn_pickF rfl rfl) (at_top rfl)) ?_
   refine bl_nil ?_
   intro W20 hbR hS'
   clear hS; have hS := hS'; clear hS'
   refine fin_v ?_
   refine fin_v ?_
   refine fin_v ?_
   refine fin_v ?_
   refine fin_v ?_
   refine fin_v ?_
   refine fin_v ?_
   refine fin_v ?_
   refine fin_v ?_
   refine fin_v ?_
   refine fin_v ?_
   refine fin_v ?_
   refine fin_v ?_
   refine fin_v ?_
   refine fin_v ?_
   refine fin_v ?_
   refine fin_v ?_
   refine fin_v ?_
   refine fin_v ?_
   refine fin_v ?_
   refine fin_v ?_
   refine fin_v ?_
   refine fin_v ?_
   refine fin_v ?_
   refine fin_v ?_
   refine fin_v ?_
   refine fin_v ?_
   refine fin_v ?_
   refine fin_v ?_
   refine fin_v ?_
   refine fin_v ?_
   refine fin_v ?_
   refine fin_v ?_
   refine fin_v ?_
   refine fin_v ?_
   refine fin_v ?_
   refine fin_v ?_
   refine fin_v ?_
   refine fin_v ?_
   refine fin_v ?_
   refine fin_v ?_
   refine fin_v ?_
   refine fin_v ?_
   refine fin_v ?_
   refine fin_v ?_
   refine fin_v ?_
   refine fin_v ?_
   refine fin_nil ?_
   refine XF.thenN ?_
   refine condT rfl ?_
   refine seqF (regF ?_)
   refine op_assign rfl rfl ?_
   refine endF (XF.thenN ?_)
   refine retF ?_
   refine XF.thenR ?_
   refine XF.res (res1 Try.results28 rfl) ?_
   exact ⟨gr_rbool (by unfold stepQ; dsimp only; rw [if_neg (by rw [hf]; simp), if_neg (by rw [hg]; simp), if_neg (by rw [hoe, hee]; simp), if_neg (fun h => h.2 hk2), if_pos ⟨hz, hk8⟩]), hS.below⟩
  ·have hoe := ofEq_at hy1 hy2
   rw [← ef, ← et] at hoe
   obtain ⟨ob, oo, z1, rfl, hz1, hzc1⟩ := ho.get (i := kf) (by omega)
   obtain ⟨ob2, oo2, z2, e2, hz2, hzc2⟩ := ho.get (i := kt) (by omega)
   cases e2
   obtain rfl : y1 = z1 := Option.some.inj (hy1.symm.trans hz1)
   obtain rfl : y2 = z2 := Option.some.inj (hy2.symm.trans hz2)
   have k3 := (CellsAt.agree hS.agree (Nat.zero_le _) hzc1).1
   have k4 := (CellsAt.agree hS.agree (Nat.zero_le _) hzc2).1
   refine regB (m := 47) gr_followsM hS (by kernel_rfl) (by kernel_rfl) rfl ?_
   refine bl_cons 1 rfl (isV _) (stab_isV _) (rgV (li := [(3, _)]) rfl (w_free rfl) ⟨g_fr (by kernel_rfl) rfl, trivial⟩ (fun w hw => rn_field (o' := 0) gr_fa_50_0 rfl rfl) (at_top rfl)) ?_
   refine bl_cons 2 rfl (isV _) (stab_isV _) (rgV (li := [(13, _)]) rfl (w_free rfl) ⟨g_dep 0 (by kernel_rfl) (at_dep rfl rfl rfl), trivial⟩ (fun w hw => rn_load Try.isAgg3 rfl ((below_agree hw 0).cell (Nat.zero_le _) (cell_own (hS.at_ 0 rfl) rfl))) (at_top rfl)) ?_
   refine bl_cons 3 rfl (isV _) (stab_isV _) (rgV (li := [(5, _)]) rfl (w_free rfl) ⟨g_fr (by kernel_rfl) rfl, trivial⟩ (fun w hw => rn_move rfl) (at_top rfl)) ?_
   refine bl_cons 4 rfl (isV (.bool true)) (stab_isV _) (rg_call [isV _, isV _] rfl gr_goes_29 (w_free rfl) ⟨p_tmp (g_dep 1 (by kernel_rfl) (at_dep rfl rfl rfl)), p_tmp (g_dep 2 (by kernel_rfl) (at_dep rfl rfl rfl)), trivial⟩ (fun vs w' hb hh => by have e := holds_isV (us := [_, _]) hh; subst e; exact (in_is s.f _ _).mono fun e w2 h => ⟨_, by rw [h.1, hf], rfl, h.2⟩) (at_top rfl)) ?_
   refine bl_cons 5 rfl (isV _) (stab_isV _) (rgV (li := [(16, _)]) rfl (w_free rfl) ⟨g_dep 3 (by kernel_rfl) (at_dep rfl rfl rfl), trivial⟩ (fun w hw => rn_not rfl) (at_top rfl)) ?_
   refine bl_cons 6 rfl (isV _) (stab_isV _) (rgV (li := [(17, _)]) rfl (w_free rfl) ⟨g_dep 4 (by kernel_rfl) (at_dep rfl rfl rfl), trivial⟩ (fun w hw => rn_move rfl) (at_top rfl)) ?_
   refine bl_cons 7 rfl (isV _) (stab_isV _) (rgV (li := [(3, _)]) rfl (w_yes 18 rfl (by kernel_rfl) (by kernel_rfl) (at_dep rfl rfl rfl)) ⟨g_fr (by kernel_rfl) rfl, trivial⟩ (fun w hw => rn_field (o' := 1) gr_fa_50_1 rfl rfl) (at_top rfl)) ?_
   refine bl_cons 8 rfl (isV _) (stab_isV _) (rgV (li := [(19, _)]) rfl (w_yes 18 rfl (by kernel_rfl) (by kernel_rfl) (at_dep rfl rfl rfl)) ⟨g_dep 6 (by kernel_rfl) (at_dep rfl rfl rfl), trivial⟩ (fun w hw => rn_load Try.isAgg3 rfl ((below_agree hw 0).cell (Nat.zero_le _) (cell_own (hS.at_ 0 rfl) rfl))) (at_top rfl)) ?_
   refine bl_cons 9 rfl (isV _) (stab_isV _) (rgV (li := [(5, _)]) rfl (w_yes 18 rfl (by kernel_rfl) (by kernel_rfl) (at_dep rfl rfl rfl)) ⟨g_fr (by kernel_rfl) rfl, trivial⟩ (fun w hw => rn_move rfl) (at_top rfl)) ?_
   refine bl_cons 10 rfl (isV (.bool true)) (stab_isV _) (rg_call [isV _, isV _] rfl gr_goes_29 (w_yes 18 rfl (by kernel_rfl) (by kernel_rfl) (at_dep rfl rfl rfl)) ⟨p_tmp (g_dep 7 (by kernel_rfl) (at_dep rfl rfl rfl)), p_tmp (g_dep 8 (by kernel_rfl) (at_dep rfl rfl rfl)), trivial⟩ (fun vs w' hb hh => by have e := holds_isV (us := [_, _]) hh; subst e; exact (in_is s.t _ _).mono fun e w2 h => ⟨_, by rw [h.1, hg], rfl, h.2⟩) (at_top rfl)) ?_
   refine bl_cons 11 rfl (isV _) (stab_isV _) (rgV (li := [(22, _)]) rfl (w_yes 18 rfl (by kernel_rfl) (by kernel_rfl) (at_dep rfl rfl rfl)) ⟨g_dep 9 (by kernel_rfl) (at_dep rfl rfl rfl), trivial⟩ (fun w hw => rn_not rfl) (at_top rfl)) ?_
   refine bl_cons 12 rfl (isV _) (stab_isV _) (rgV (li := [(18, _), (23, _)]) rfl (w_free rfl) ⟨g_dep 5 (by kernel_rfl) (at_dep rfl rfl rfl), g_dep 10 (by kernel_rfl) (at_dep rfl rfl rfl), trivial⟩ (fun w hw => rn_pickF rfl rfl) (at_top rfl)) ?_
   refine bl_cons 13 rfl (isV _) (stab_isV _) (rgV (li := [(24, _)]) rfl (w_free rfl) ⟨g_dep 11 (by kernel_rfl) (at_dep rfl rfl rfl), trivial⟩ (fun w hw => rn_move rfl) (at_top rfl)) ?_
   refine bl_cons 14 rfl (isV _) (stab_isV _) (rgV (li := [(2, _)]) rfl (w_yes 25 rfl (by kernel_rfl) (by kernel_rfl) (at_dep rfl rfl rfl)) ⟨g_fr (by kernel_rfl) rfl, trivial⟩ (fun w hw => rn_field (o' := 5) gr_fa_29_5 rfl rfl) (at_top rfl)) ?_
   refine bl_cons 15 rfl (isV _) (stab_isV _) (rgV (li := [(26, _)]) rfl (w_yes 25 rfl (by kernel_rfl) (by kernel_rfl) (at_dep rfl rfl rfl)) ⟨g_dep 13 (by kernel_rfl) (at_dep rfl rfl rfl), trivial⟩ (fun w hw => rn_load Try.isAgg23 rfl ((below_agree hw 0).cell (Nat.zero_le _) (cell_own (hS.at_ 1 rfl) rfl))) (at_top rfl)) ?_
   refine bl_cons 16 rfl (isV _) (stab_isV _) (rgV (li := [(3, _)]) rfl (w_yes 25 rfl (by kernel_rfl) (by kernel_rfl) (at_dep rfl rfl rfl)) ⟨g_fr (by kernel_rfl) rfl, trivial⟩ (fun w hw => rn_field (o' := 0) gr_fa_50_0 rfl rfl) (at_top rfl)) ?_
   refine bl_cons 17 rfl (isV _) (stab_isV _) (rgV (li := [(28, _)]) rfl (w_yes 25 rfl (by kernel_rfl) (by kernel_rfl) (at_dep rfl rfl rfl)) ⟨g_dep 15 (by kernel_rfl) (at_dep rfl rfl rfl), trivial⟩ (fun w hw => rn_load Try.isAgg3 rfl ((below_agree hw 0).cell (Nat.zero_le _) (cell_own (hS.at_ 0 rfl) rfl))) (at_top rfl)) ?_
   refine bl_cons 18 rfl (isV _) (stab_isV _) (rgV (li := [(27, _), (29, _)]) rfl (w_yes 25 rfl (by kernel_rfl) (by kernel_rfl) (at_dep rfl rfl rfl)) ⟨g_dep 14 (by kernel_rfl) (at_dep rfl rfl rfl), g_dep 16 (by kernel_rfl) (at_dep rfl rfl rfl), trivial⟩ (fun w hw => rn_indexA (j := kf) Try.underlying23 Try.sizeOf3 rfl rfl (by omega) (by omega) rfl) (at_top rfl)) ?_
   refine bl_cons 19 rfl (isV _) (stab_isV _) (rgV (li := [(30, _)]) rfl (w_yes 25 rfl (by kernel_rfl) (by kernel_rfl) (at_dep rfl rfl rfl)) ⟨g_dep 17 (by kernel_rfl) (at_dep rfl rfl rfl), trivial⟩ (fun w hw => rn_load Try.isAgg3 rfl ((below_agree hw 0).cell (Nat.zero_le _) (k3))) (at_top rfl)) ?_
   refine bl_cons 20 rfl (isV _) (stab_isV _) (rgV (li := [(2, _)]) rfl (w_yes 25 rfl (by kernel_rfl) (by kernel_rfl) (at_dep rfl rfl rfl)) ⟨g_fr (by kernel_rfl) rfl, trivial⟩ (fun w hw => rn_field (o' := 5) gr_fa_29_5 rfl rfl) (at_top rfl)) ?_
   refine bl_cons 21 rfl (isV _) (stab_isV _) (rgV (li := [(32, _)]) rfl (w_yes 25 rfl (by kernel_rfl) (by kernel_rfl) (at_dep rfl rfl rfl)) ⟨g_dep 19 (by kernel_rfl) (at_dep rfl rfl rfl), trivial⟩ (fun w hw => rn_load Try.isAgg23 rfl ((below_agree hw 0).cell (Nat.zero_le _) (cell_own (hS.at_ 1 rfl) rfl))) (at_top rfl)) ?_
   refine bl_cons 22 rfl (isV _) (stab_isV _) (rgV (li := [(3, _)]) rfl (w_yes 25 rfl (by kernel_rfl) (by kernel_rfl) (at_dep rfl rfl rfl)) ⟨g_fr (by kernel_rfl) rfl, trivial⟩ (fun w hw => rn_field (o' := 1) gr_fa_50_1 rfl rfl) (at_top rfl)) ?_
   refine bl_cons 23 rfl (isV _) (stab_isV _) (rgV (li := [(34, _)]) rfl (w_yes 25 rfl (by kernel_rfl) (by kernel_rfl) (at_dep rfl rfl rfl)) ⟨g_dep 21 (by kernel_rfl) (at_dep rfl rfl rfl), trivial⟩ (fun w hw => rn_load Try.isAgg3 rfl ((below_agree hw 0).cell (Nat.zero_le _) (cell_own (hS.at_ 0 rfl) rfl))) (at_top rfl)) ?_
   refine bl_cons 24 rfl (isV _) (stab_isV _) (rgV (li := [(33, _), (35, _)]) rfl (w_yes 25 rfl (by kernel_rfl) (by kernel_rfl) (at_dep rfl rfl rfl)) ⟨g_dep 20 (by kernel_rfl) (at_dep rfl rfl rfl), g_dep 22 (by kernel_rfl) (at_dep rfl rfl rfl), trivial⟩ (fun w hw => rn_indexA (j := kt) Try.underlying23 Try.sizeOf3 rfl rfl (by omega) (by omega) rfl) (at_top rfl)) ?_
   refine bl_cons 25 rfl (isV _) (stab_isV _) (rgV (li := [(36, _)]) rfl (w_yes 25 rfl (by kernel_rfl) (by kernel_rfl) (at_dep rfl rfl rfl)) ⟨g_dep 23 (by kernel_rfl) (at_dep rfl rfl rfl), trivial⟩ (fun w hw => rn_load Try.isAgg3 rfl ((below_agree hw 0).cell (Nat.zero_le _) (k4))) (at_top rfl)) ?_
   refine bl_cons 26 rfl (isV (.bool false)) (stab_isV _) (rgVe (li := [(31, _), (37, _)]) rfl (w_yes 25 rfl (by kernel_rfl) (by kernel_rfl) (at_dep rfl rfl rfl)) ⟨g_dep 18 (by kernel_rfl) (at_dep rfl rfl rfl), g_dep 24 (by kernel_rfl) (at_dep rfl rfl rfl), trivial⟩ (fun w hw => rn_neq rfl rfl) (by rw [decide_eq_false (not_not_intro hee)]) (at_top rfl)) ?_
   refine bl_cons 27 rfl (isV _) (stab_isV _) (rgV (li := [(25, _), (38, _)]) rfl (w_free rfl) ⟨g_dep 12 (by kernel_rfl) (at_dep rfl rfl rfl), g_dep 25 (by kernel_rfl) (at_dep rfl rfl rfl), trivial⟩ (fun w hw => rn_pickF rfl rfl) (at_top rfl)) ?_
   refine bl_cons 28 rfl (isV _) (stab_isV _) (rgV (li := [(39, _)]) rfl (w_free rfl) ⟨g_dep 26 (by kernel_rfl) (at_dep rfl rfl rfl), trivial⟩ (fun w hw => rn_move rfl) (at_top rfl)) ?_
   refine bl_cons 29 rfl (isV _) (stab_isV _) (rgV (li := [(3, _)]) rfl (w_yes 40 rfl (by kernel_rfl) (by kernel_rfl) (at_dep rfl rfl rfl)) ⟨g_fr (by kernel_rfl) rfl, trivial⟩ (fun w hw => rn_field (o' := 5) gr_fa_50_5 rfl rfl) (at_top rfl)) ?_
   refine bl_cons 30 rfl (isV _) (stab_isV _) (rgV (li := [(41, _)]) rfl (w_yes 40 rfl (by kernel_rfl) (by kernel_rfl) (at_dep rfl rfl rfl)) ⟨g_dep 28 (by kernel_rfl) (at_dep rfl rfl rfl), trivial⟩ (fun w hw => rn_load Try.isAgg2 rfl ((below_agree hw 0).cell (Nat.zero_le _) (cell_own (hS.at_ 0 rfl) rfl))) (at_top rfl)) ?_
   refine bl_cons 31 rfl (isV (.bool false)) (stab_isV _) (rgVe (li := [(42, _)]) rfl (w_yes 40 rfl (by kernel_rfl) (by kernel_rfl) (at_dep rfl rfl rfl)) ⟨g_dep 29 (by kernel_rfl) (at_dep rfl rfl rfl), trivial⟩ (fun w hw => rn_neq rfl rfl) (by rw [decide_eq_false (not_not_intro hkk)]) (at_top rfl)) ?_
   refine bl_cons 32 rfl (isV _) (stab_isV _) (rgV (li := [(43, _)]) rfl (w_yes 40 rfl (by kernel_rfl) (by kernel_rfl) (at_dep rfl rfl rfl)) ⟨g_dep 30 (by kernel_rfl) (at_dep rfl rfl rfl), trivial⟩ (fun w hw => rn_move rfl) (at_top rfl)) ?_
   refine bl_cons 33 rfl (isV undef) (stab_isV _) (rg_no rfl (w_no 44 rfl (by kernel_rfl) (by kernel_rfl) (at_dep rfl rfl rfl) rfl) (at_top rfl)) ?_
   refine bl_cons 34 rfl (isV undef) (stab_isV _) (rg_no rfl (w_no 44 rfl (by kernel_rfl) (by kernel_rfl) (at_dep rfl rfl rfl) rfl) (at_top rfl)) ?_
   refine bl_cons 35 rfl (isV undef) (stab_isV _) (rg_no rfl (w_no 44 rfl (by kernel_rfl) (by kernel_rfl) (at_dep rfl rfl rfl) rfl) (at_top rfl)) ?_
   refine bl_cons 36 rfl (isV _) (stab_isV _) (rgV (li := [(44, _)]) rfl (w_yes 40 rfl (by kernel_rfl) (by kernel_rfl) (at_dep rfl rfl rfl)) ⟨g_dep 31 (by kernel_rfl) (at_dep rfl rfl rfl), trivial⟩ (fun w hw => rn_pickF rfl rfl) (at_top rfl)) ?_
   refine bl_cons 37 rfl (isV _) (stab_isV _) (rgV (li := [(40, _), (48, _)]) rfl (w_free rfl) ⟨g_dep 27 (by kernel_rfl) (at_dep rfl rfl rfl), g_dep 35 (by kernel_rfl) (at_dep rfl rfl rfl), trivial⟩ (fun w hw => rn_pickF rfl rfl) (at_top rfl)) ?_
   refine bl_cons 38 rfl (isV _) (stab_isV _) (rgV (li := [(49, _)]) rfl (w_free rfl) ⟨g_dep 36 (by kernel_rfl) (at_dep rfl rfl rfl), trivial⟩ (fun w hw => rn_move rfl) (at_top rfl)) ?_
   refine bl_cons 39 rfl (isV _) (stab_isV _) (rgV (li := [(3, _)]) rfl (w_yes 50 rfl (by kernel_rfl) (by kernel_rfl) (at_dep rfl rfl rfl)) ⟨g_fr (by kernel_rfl) rfl, trivial⟩ (fun w hw => rn_field (o' := 6) gr_fa_50_6 rfl rfl) (at_top rfl)) ?_
   refine bl_cons 40 rfl (isV _) (stab_isV _) (rgV (li := [(51, _)]) rfl (w_yes 50 rfl (by kernel_rfl) (by kernel_rfl) (at_dep rfl rfl rfl)) ⟨g_dep 38 (by kernel_rfl) (at_dep rfl rfl rfl), trivial⟩ (fun w hw => rn_load Try.isAgg3 rfl ((below_agree hw 0).cell (Nat.zero_le _) (cell_own (hS.at_ 0 rfl) rfl))) (at_top rfl)) ?_
   refine bl_cons 41 rfl (isV (.bool false)) (stab_isV _) (rgVe (li := [(52, _)]) rfl (w_yes 50 rfl (by kernel_rfl) (by kernel_rfl) (at_dep rfl rfl rfl)) ⟨g_dep 39 (by kernel_rfl) (at_dep rfl rfl rfl), trivial⟩ (fun w hw => rn_neq rfl rfl) (by rw [decide_eq_false (not_not_intro hz)]) (at_top rfl)) ?_
   refine bl_cons 42 rfl (isV _) (stab_isV _) (rgV (li := [(53, _)]) rfl (w_yes 50 rfl (by kernel_rfl) (by kernel_rfl) (at_dep rfl rfl rfl)) ⟨g_dep 40 (by kernel_rfl) (at_dep rfl rfl rfl), trivial⟩ (fun w hw => rn_move rfl) (at_top rfl)) ?_
   refine bl_cons 43 rfl (isV undef) (stab_isV _) (rg_no rfl (w_no 54 rfl (by kernel_rfl) (by kernel_rfl) (at_dep rfl rfl rfl) rfl) (at_top rfl)) ?_
   refine bl_cons 44 rfl (isV undef) (stab_isV _) (rg_no rfl (w_no 54 rfl (by kernel_rfl) (by kernel_rfl) (at_dep rfl rfl rfl) rfl) (at_top rfl)) ?_
   refine bl_cons 45 rfl (isV undef) (stab_isV _) (rg_no rfl (w_no 54 rfl (by kernel_rfl) (by kernel_rfl) (at_dep rfl rfl rfl) rfl) (at_top rfl)) ?_
   refine bl_cons 46 rfl (isV _) (stab_isV _) (rgV (li := [(54, _)]) rfl (w_yes 50 rfl (by kernel_rfl) (by kernel_rfl) (at_dep rfl rfl rfl)) ⟨g_dep 41 (by kernel_rfl) (at_dep rfl rfl rfl), trivial⟩ (fun w hw => rn_pickF rfl rfl) (at_top rfl)) ?_
   refine bl_cons 47 rfl (isV _) (stab_isV _) (rgV (li := [(50, _), (58, _)]) rfl (w_free rfl) ⟨g_dep 37 (by kernel_rfl) (at_dep rfl rfl rfl), g_dep 45 (by kernel_rfl) (at_dep rfl rfl rfl), trivial⟩ (fun w hw => rn_pickF rfl rfl) (at_top rfl)) ?_
   refine bl_nil ?_
   intro W21 hbR hS'
   clear hS; have hS := hS'; clear hS'
   refine fin_v ?_
   refine fin_v ?_
   refine fin_v ?_
   refine fin_v ?_
   refine fin_v ?_
   refine fin_v ?_
   refine fin_v ?_
   refine fin_v ?_
   refine fin_v ?_
   refine fin_v ?_
   refine fin_v ?_
   refine fin_v ?_
   refine fin_v ?_
   refine fin_v ?_
   refine fin_v ?_
   refine fin_v ?_
   refine fin_v ?_
   refine fin_v ?_
   refine fin_v ?_
   refine fin_v ?_
   refine fin_v ?_
   refine fin_v ?_
   refine fin_v ?_
   refine fin_v ?_
   refine fin_v ?_
   refine fin_v ?_
   refine fin_v ?_
   refine fin_v ?_
   refine fin_v ?_
   refine fin_v ?_
   refine fin_v ?_
   refine fin_v ?_
   refine fin_v ?_
   refine fin_v ?_
   refine fin_v ?_
   refine fin_v ?_
   refine fin_v ?_
   refine fin_v ?_
   refine fin_v ?_
   refine fin_v ?_
   refine fin_v ?_
   refine fin_v ?_
   refine fin_v ?_
   refine fin_v ?_
   refine fin_v ?_
   refine fin_v ?_
   refine fin_v ?_
   refine fin_nil ?_
   refine XF.thenN ?_
   refine condN rfl ?_
   refine skipF ?_
   exact XF.join [(2, .pointer (some ⟨B1, 0, none⟩)), (3, .pointer (some ⟨B2, 0, none⟩)), (6, .int .i64 (vl : Int))] ⟨rfl, rfl, rfl, trivial⟩ ⟨rfl, by unfold stepQ; dsimp only; rw [if_neg (by rw [hf]; simp), if_neg (by rw [hg]; simp), if_neg (by rw [hoe, hee]; simp), if_neg (fun h => h.1 hkk), if_neg (fun h => h.1 hz)], hS.clear⟩
  ·have hoe := ofEq_at hy1 hy2
   rw [← ef, ← et] at hoe
   obtain ⟨ob, oo, z1, rfl, hz1, hzc1⟩ := ho.get (i := kf) (by omega)
   obtain ⟨ob2, oo2, z2, e2, hz2, hzc2⟩ := ho.get (i := kt) (by omega)
   cases e2
   obtain rfl : y1 = z1 := Option.some.inj (hy1.symm.trans hz1)
   obtain rfl : y2 = z2 := Option.some.inj (hy2.symm.trans hz2)
   have k3 := (CellsAt.agree hS.agree (Nat.zero_le _) hzc1).1
   have k4 := (CellsAt.agree hS.agree (Nat.zero_le _) hzc2).1
   refine regB (m := 47) gr_followsM hS (by kernel_rfl) (by kernel_rfl) rfl ?_
   refine bl_cons 1 rfl (isV _) (stab_isV _) (rgV (li := [(3, _)]) rfl (w_free rfl) ⟨g_fr (by kernel_rfl) rfl, trivial⟩ (fun w hw => rn_field (o' := 0) gr_fa_50_0 rfl rfl) (at_top rfl)) ?_
   refine bl_cons 2 rfl (isV _) (stab_isV _) (rgV (li := [(13, _)]) rfl (w_free rfl) ⟨g_dep 0 (by kernel_rfl) (at_dep rfl rfl rfl), trivial⟩ (fun w hw => rn_load Try.isAgg3 rfl ((below_agree hw 0).cell (Nat.zero_le _) (cell_own (hS.at_ 0 rfl) rfl))) (at_top rfl)) ?_
   refine bl_cons 3 rfl (isV _) (stab_isV _) (rgV (li := [(5, _)]) rfl (w_free rfl) ⟨g_fr (by kernel_rfl) rfl, trivial⟩ (fun w hw => rn_move rfl) (at_top rfl)) ?_
   refine bl_cons 4 rfl (isV (.bool true)) (stab_isV _) (rg_call [isV _, isV _] rfl gr_goes_29 (w_free rfl) ⟨p_tmp (g_dep 1 (by kernel_rfl) (at_dep rfl rfl rfl)), p_tmp (g_dep 2 (by kernel_rfl) (at_dep rfl rfl rfl)), trivial⟩ (fun vs w' hb hh => by have e := holds_isV (us := [_, _]) hh; subst e; exact (in_is s.f _ _).mono fun e w2 h => ⟨_, by rw [h.1, hf], rfl, h.2⟩) (at_top rfl)) ?_
   refine bl_cons 5 rfl (isV _) (stab_isV _) (rgV (li := [(16, _)]) rfl (w_free rfl) ⟨g_dep 3 (by kernel_rfl) (at_dep rfl rfl rfl), trivial⟩ (fun w hw => rn_not rfl) (at_top rfl)) ?_
   refine bl_cons 6 rfl (isV _) (stab_isV _) (rgV (li := [(17, _)]) rfl (w_free rfl) ⟨g_dep 4 (by kernel_rfl) (at_dep rfl rfl rfl), trivial⟩ (fun w hw => rn_move rfl) (at_top rfl)) ?_
   refine bl_cons 7 rfl (isV _) (stab_isV _) (rgV (li := [(3, _)]) rfl (w_yes 18 rfl (by kernel_rfl) (by kernel_rfl) (at_dep rfl rfl rfl)) ⟨g_fr (by kernel_rfl) rfl, trivial⟩ (fun w hw => rn_field (o' := 1) gr_fa_50_1 rfl rfl) (at_top rfl)) ?_
   refine bl_cons 8 rfl (isV _) (stab_isV _) (rgV (li := [(19, _)]) rfl (w_yes 18 rfl (by kernel_rfl) (by kernel_rfl) (at_dep rfl rfl rfl)) ⟨g_dep 6 (by kernel_rfl) (at_dep rfl rfl rfl), trivial⟩ (fun w hw => rn_load Try.isAgg3 rfl ((below_agree hw 0).cell (Nat.zero_le _) (cell_own (hS.at_ 0 rfl) rfl))) (at_top rfl)) ?_
   refine bl_cons 9 rfl (isV _) (stab_isV _) (rgV (li := [(5, _)]) rfl (w_yes 18 rfl (by kernel_rfl) (by kernel_rfl) (at_dep rfl rfl rfl)) ⟨g_fr (by kernel_rfl) rfl, trivial⟩ (fun w hw => rn_move rfl) (at_top rfl)) ?_
   refine bl_cons 10 rfl (isV (.bool true)) (stab_isV _) (rg_call [isV _, isV _] rfl gr_goes_29 (w_yes 18 rfl (by kernel_rfl) (by kernel_rfl) (at_dep rfl rfl rfl)) ⟨p_tmp (g_dep 7 (by kernel_rfl) (at_dep rfl rfl rfl)), p_tmp (g_dep 8 (by kernel_rfl) (at_dep rfl rfl rfl)), trivial⟩ (fun vs w' hb hh => by have e := holds_isV (us := [_, _]) hh; subst e; exact (in_is s.t _ _).mono fun e w2 h => ⟨_, by rw [h.1, hg], rfl, h.2⟩) (at_top rfl)) ?_
   refine bl_cons 11 rfl (isV _) (stab_isV _) (rgV (li := [(22, _)]) rfl (w_yes 18 rfl (by kernel_rfl) (by kernel_rfl) (at_dep rfl rfl rfl)) ⟨g_dep 9 (by kernel_rfl) (at_dep rfl rfl rfl), trivial⟩ (fun w hw => rn_not rfl) (at_top rfl)) ?_
   refine bl_cons 12 rfl (isV _) (stab_isV _) (rgV (li := [(18, _), (23, _)]) rfl (w_free rfl) ⟨g_dep 5 (by kernel_rfl) (at_dep rfl rfl rfl), g_dep 10 (by kernel_rfl) (at_dep rfl rfl rfl), trivial⟩ (fun w hw => rn_pickF rfl rfl) (at_top rfl)) ?_
   refine bl_cons 13 rfl (isV _) (stab_isV _) (rgV (li := [(24, _)]) rfl (w_free rfl) ⟨g_dep 11 (by kernel_rfl) (at_dep rfl rfl rfl), trivial⟩ (fun w hw => rn_move rfl) (at_top rfl)) ?_
   refine bl_cons 14 rfl (isV _) (stab_isV _) (rgV (li := [(2, _)]) rfl (w_yes 25 rfl (by kernel_rfl) (by kernel_rfl) (at_dep rfl rfl rfl)) ⟨g_fr (by kernel_rfl) rfl, trivial⟩ (fun w hw => rn_field (o' := 5) gr_fa_29_5 rfl rfl) (at_top rfl)) ?_
   refine bl_cons 15 rfl (isV _) (stab_isV _) (rgV (li := [(26, _)]) rfl (w_yes 25 rfl (by kernel_rfl) (by kernel_rfl) (at_dep rfl rfl rfl)) ⟨g_dep 13 (by kernel_rfl) (at_dep rfl rfl rfl), trivial⟩ (fun w hw => rn_load Try.isAgg23 rfl ((below_agree hw 0).cell (Nat.zero_le _) (cell_own (hS.at_ 1 rfl) rfl))) (at_top rfl)) ?_
   refine bl_cons 16 rfl (isV _) (stab_isV _) (rgV (li := [(3, _)]) rfl (w_yes 25 rfl (by kernel_rfl) (by kernel_rfl) (at_dep rfl rfl rfl)) ⟨g_fr (by kernel_rfl) rfl, trivial⟩ (fun w hw => rn_field (o' := 0) gr_fa_50_0 rfl rfl) (at_top rfl)) ?_
   refine bl_cons 17 rfl (isV _) (stab_isV _) (rgV (li := [(28, _)]) rfl (w_yes 25 rfl (by kernel_rfl) (by kernel_rfl) (at_dep rfl rfl rfl)) ⟨g_dep 15 (by kernel_rfl) (at_dep rfl rfl rfl), trivial⟩ (fun w hw => rn_load Try.isAgg3 rfl ((below_agree hw 0).cell (Nat.zero_le _) (cell_own (hS.at_ 0 rfl) rfl))) (at_top rfl)) ?_
   refine bl_cons 18 rfl (isV _) (stab_isV _) (rgV (li := [(27, _), (29, _)]) rfl (w_yes 25 rfl (by kernel_rfl) (by kernel_rfl) (at_dep rfl rfl rfl)) ⟨g_dep 14 (by kernel_rfl) (at_dep rfl rfl rfl), g_dep 16 (by kernel_rfl) (at_dep rfl rfl rfl), trivial⟩ (fun w hw => rn_indexA (j := kf) Try.underlying23 Try.sizeOf3 rfl rfl (by omega) (by omega) rfl) (at_top rfl)) ?_
   refine bl_cons 19 rfl (isV _) (stab_isV _) (rgV (li := [(30, _)]) rfl (w_yes 25 rfl (by kernel_rfl) (by kernel_rfl) (at_dep rfl rfl rfl)) ⟨g_dep 17 (by kernel_rfl) (at_dep rfl rfl rfl), trivial⟩ (fun w hw => rn_load Try.isAgg3 rfl ((below_agree hw 0).cell (Nat.zero_le _) (k3))) (at_top rfl)) ?_
   refine bl_cons 20 rfl (isV _) (stab_isV _) (rgV (li := [(2, _)]) rfl (w_yes 25 rfl (by kernel_rfl) (by kernel_rfl) (at_dep rfl rfl rfl)) ⟨g_fr (by kernel_rfl) rfl, trivial⟩ (fun w hw => rn_field (o' := 5) gr_fa_29_5 rfl rfl) (at_top rfl)) ?_
   refine bl_cons 21 rfl (isV _) (stab_isV _) (rgV (li := [(32, _)]) rfl (w_yes 25 rfl (by kernel_rfl) (by kernel_rfl) (at_dep rfl rfl rfl)) ⟨g_dep 19 (by kernel_rfl) (at_dep rfl rfl rfl), trivial⟩ (fun w hw => rn_load Try.isAgg23 rfl ((below_agree hw 0).cell (Nat.zero_le _) (cell_own (hS.at_ 1 rfl) rfl))) (at_top rfl)) ?_
   refine bl_cons 22 rfl (isV _) (stab_isV _) (rgV (li := [(3, _)]) rfl (w_yes 25 rfl (by kernel_rfl) (by kernel_rfl) (at_dep rfl rfl rfl)) ⟨g_fr (by kernel_rfl) rfl, trivial⟩ (fun w hw => rn_field (o' := 1) gr_fa_50_1 rfl rfl) (at_top rfl)) ?_
   refine bl_cons 23 rfl (isV _) (stab_isV _) (rgV (li := [(34, _)]) rfl (w_yes 25 rfl (by kernel_rfl) (by kernel_rfl) (at_dep rfl rfl rfl)) ⟨g_dep 21 (by kernel_rfl) (at_dep rfl rfl rfl), trivial⟩ (fun w hw => rn_load Try.isAgg3 rfl ((below_agree hw 0).cell (Nat.zero_le _) (cell_own (hS.at_ 0 rfl) rfl))) (at_top rfl)) ?_
   refine bl_cons 24 rfl (isV _) (stab_isV _) (rgV (li := [(33, _), (35, _)]) rfl (w_yes 25 rfl (by kernel_rfl) (by kernel_rfl) (at_dep rfl rfl rfl)) ⟨g_dep 20 (by kernel_rfl) (at_dep rfl rfl rfl), g_dep 22 (by kernel_rfl) (at_dep rfl rfl rfl), trivial⟩ (fun w hw => rn_indexA (j := kt) Try.underlying23 Try.sizeOf3 rfl rfl (by omega) (by omega) rfl) (at_top rfl)) ?_
   refine bl_cons 25 rfl (isV _) (stab_isV _) (rgV (li := [(36, _)]) rfl (w_yes 25 rfl (by kernel_rfl) (by kernel_rfl) (at_dep rfl rfl rfl)) ⟨g_dep 23 (by kernel_rfl) (at_dep rfl rfl rfl), trivial⟩ (fun w hw => rn_load Try.isAgg3 rfl ((below_agree hw 0).cell (Nat.zero_le _) (k4))) (at_top rfl)) ?_
   refine bl_cons 26 rfl (isV (.bool false)) (stab_isV _) (rgVe (li := [(31, _), (37, _)]) rfl (w_yes 25 rfl (by kernel_rfl) (by kernel_rfl) (at_dep rfl rfl rfl)) ⟨g_dep 18 (by kernel_rfl) (at_dep rfl rfl rfl), g_dep 24 (by kernel_rfl) (at_dep rfl rfl rfl), trivial⟩ (fun w hw => rn_neq rfl rfl) (by rw [decide_eq_false (not_not_intro hee)]) (at_top rfl)) ?_
   refine bl_cons 27 rfl (isV _) (stab_isV _) (rgV (li := [(25, _), (38, _)]) rfl (w_free rfl) ⟨g_dep 12 (by kernel_rfl) (at_dep rfl rfl rfl), g_dep 25 (by kernel_rfl) (at_dep rfl rfl rfl), trivial⟩ (fun w hw => rn_pickF rfl rfl) (at_top rfl)) ?_
   refine bl_cons 28 rfl (isV _) (stab_isV _) (rgV (li := [(39, _)]) rfl (w_free rfl) ⟨g_dep 26 (by kernel_rfl) (at_dep rfl rfl rfl), trivial⟩ (fun w hw => rn_move rfl) (at_top rfl)) ?_
   refine bl_cons 29 rfl (isV _) (stab_isV _) (rgV (li := [(3, _)]) rfl (w_yes 40 rfl (by kernel_rfl) (by kernel_rfl) (at_dep rfl rfl rfl)) ⟨g_fr (by kernel_rfl) rfl, trivial⟩ (fun w hw => rn_field (o' := 5) gr_fa_50_5 rfl rfl) (at_top rfl)) ?_
   refine bl_cons 30 rfl (isV _) (stab_isV _) (rgV (li := [(41, _)]) rfl (w_yes 40 rfl (by kernel_rfl) (by kernel_rfl) (at_dep rfl rfl rfl)) ⟨g_dep 28 (by kernel_rfl) (at_dep rfl rfl rfl), trivial⟩ (fun w hw => rn_load Try.isAgg2 rfl ((below_agree hw 0).cell (Nat.zero_le _) (cell_own (hS.at_ 0 rfl) rfl))) (at_top rfl)) ?_
   refine bl_cons 31 rfl (isV (.bool false)) (stab_isV _) (rgVe (li := [(42, _)]) rfl (w_yes 40 rfl (by kernel_rfl) (by kernel_rfl) (at_dep rfl rfl rfl)) ⟨g_dep 29 (by kernel_rfl) (at_dep rfl rfl rfl), trivial⟩ (fun w hw => rn_neq rfl rfl) (by rw [decide_eq_false (not_not_intro hkk)]) (at_top rfl)) ?_
   refine bl_cons 32 rfl (isV _) (stab_isV _) (rgV (li := [(43, _)]) rfl (w_yes 40 rfl (by kernel_rfl) (by kernel_rfl) (at_dep rfl rfl rfl)) ⟨g_dep 30 (by kernel_rfl) (at_dep rfl rfl rfl), trivial⟩ (fun w hw => rn_move rfl) (at_top rfl)) ?_
   refine bl_cons 33 rfl (isV undef) (stab_isV _) (rg_no rfl (w_no 44 rfl (by kernel_rfl) (by kernel_rfl) (at_dep rfl rfl rfl) rfl) (at_top rfl)) ?_
   refine bl_cons 34 rfl (isV undef) (stab_isV _) (rg_no rfl (w_no 44 rfl (by kernel_rfl) (by kernel_rfl) (at_dep rfl rfl rfl) rfl) (at_top rfl)) ?_
   refine bl_cons 35 rfl (isV undef) (stab_isV _) (rg_no rfl (w_no 44 rfl (by kernel_rfl) (by kernel_rfl) (at_dep rfl rfl rfl) rfl) (at_top rfl)) ?_
   refine bl_cons 36 rfl (isV _) (stab_isV _) (rgV (li := [(44, _)]) rfl (w_yes 40 rfl (by kernel_rfl) (by kernel_rfl) (at_dep rfl rfl rfl)) ⟨g_dep 31 (by kernel_rfl) (at_dep rfl rfl rfl), trivial⟩ (fun w hw => rn_pickF rfl rfl) (at_top rfl)) ?_
   refine bl_cons 37 rfl (isV _) (stab_isV _) (rgV (li := [(40, _), (48, _)]) rfl (w_free rfl) ⟨g_dep 27 (by kernel_rfl) (at_dep rfl rfl rfl), g_dep 35 (by kernel_rfl) (at_dep rfl rfl rfl), trivial⟩ (fun w hw => rn_pickF rfl rfl) (at_top rfl)) ?_
   refine bl_cons 38 rfl (isV _) (stab_isV _) (rgV (li := [(49, _)]) rfl (w_free rfl) ⟨g_dep 36 (by kernel_rfl) (at_dep rfl rfl rfl), trivial⟩ (fun w hw => rn_move rfl) (at_top rfl)) ?_
   refine bl_cons 39 rfl (isV _) (stab_isV _) (rgV (li := [(3, _)]) rfl (w_yes 50 rfl (by kernel_rfl) (by kernel_rfl) (at_dep rfl rfl rfl)) ⟨g_fr (by kernel_rfl) rfl, trivial⟩ (fun w hw => rn_field (o' := 6) gr_fa_50_6 rfl rfl) (at_top rfl)) ?_
   refine bl_cons 40 rfl (isV _) (stab_isV _) (rgV (li := [(51, _)]) rfl (w_yes 50 rfl (by kernel_rfl) (by kernel_rfl) (at_dep rfl rfl rfl)) ⟨g_dep 38 (by kernel_rfl) (at_dep rfl rfl rfl), trivial⟩ (fun w hw => rn_load Try.isAgg3 rfl ((below_agree hw 0).cell (Nat.zero_le _) (cell_own (hS.at_ 0 rfl) rfl))) (at_top rfl)) ?_
   refine bl_cons 41 rfl (isV (.bool true)) (stab_isV _) (rgVe (li := [(52, _)]) rfl (w_yes 50 rfl (by kernel_rfl) (by kernel_rfl) (at_dep rfl rfl rfl)) ⟨g_dep 39 (by kernel_rfl) (at_dep rfl rfl rfl), trivial⟩ (fun w hw => rn_neq rfl rfl) (by rw [decide_eq_true hz]) (at_top rfl)) ?_
   refine bl_cons 42 rfl (isV _) (stab_isV _) (rgV (li := [(53, _)]) rfl (w_yes 50 rfl (by kernel_rfl) (by kernel_rfl) (at_dep rfl rfl rfl)) ⟨g_dep 40 (by kernel_rfl) (at_dep rfl rfl rfl), trivial⟩ (fun w hw => rn_move rfl) (at_top rfl)) ?_
   refine bl_cons 43 rfl (isV _) (stab_isV _) (rgV (li := [(3, _)]) rfl (w_yes 54 rfl (by kernel_rfl) (by kernel_rfl) (at_dep rfl rfl rfl)) ⟨g_fr (by kernel_rfl) rfl, trivial⟩ (fun w hw => rn_field (o' := 2) gr_fa_50_2 rfl rfl) (at_top rfl)) ?_
   refine bl_cons 44 rfl (isV _) (stab_isV _) (rgV (li := [(55, _)]) rfl (w_yes 54 rfl (by kernel_rfl) (by kernel_rfl) (at_dep rfl rfl rfl)) ⟨g_dep 42 (by kernel_rfl) (at_dep rfl rfl rfl), trivial⟩ (fun w hw => rn_load Try.isAgg48 rfl ((below_agree hw 0).cell (Nat.zero_le _) (cell_own (hS.at_ 0 rfl) rfl))) (at_top rfl)) ?_
   refine bl_cons 45 rfl (isV (.bool false)) (stab_isV _) (rgVe (li := [(56, _)]) rfl (w_yes 54 rfl (by kernel_rfl) (by kernel_rfl) (at_dep rfl rfl rfl)) ⟨g_dep 43 (by kernel_rfl) (at_dep rfl rfl rfl), trivial⟩ (fun w hw => rn_neq rfl rfl) (by rw [decide_eq_false (not_not_intro hk8)]) (at_top rfl)) ?_
   refine bl_cons 46 rfl (isV _) (stab_isV _) (rgV (li := [(54, _), (57, _)]) rfl (w_yes 50 rfl (by kernel_rfl) (by kernel_rfl) (at_dep rfl rfl rfl)) ⟨g_dep 41 (by kernel_rfl) (at_dep rfl rfl rfl), g_dep 44 (by kernel_rfl) (at_dep rfl rfl rfl), trivial⟩ (fun w hw => rn_pickT rfl rfl) (at_top rfl)) ?_
   refine bl_cons 47 rfl (isV _) (stab_isV _) (rgV (li := [(50, _), (58, _)]) rfl (w_free rfl) ⟨g_dep 37 (by kernel_rfl) (at_dep rfl rfl rfl), g_dep 45 (by kernel_rfl) (at_dep rfl rfl rfl), trivial⟩ (fun w hw => rn_pickF rfl rfl) (at_top rfl)) ?_
   refine bl_nil ?_
   intro W22 hbR hS'
   clear hS; have hS := hS'; clear hS'
   refine fin_v ?_
   refine fin_v ?_
   refine fin_v ?_
   refine fin_v ?_
   refine fin_v ?_
   refine fin_v ?_
   refine fin_v ?_
   refine fin_v ?_
   refine fin_v ?_
   refine fin_v ?_
   refine fin_v ?_
   refine fin_v ?_
   refine fin_v ?_
   refine fin_v ?_
   refine fin_v ?_
   refine fin_v ?_
   refine fin_v ?_
   refine fin_v ?_
   refine fin_v ?_
   refine fin_v ?_
   refine fin_v ?_
   refine fin_v ?_
   refine fin_v ?_
   refine fin_v ?_
   refine fin_v ?_
   refine fin_v ?_
   refine fin_v ?_
   refine fin_v ?_
   refine fin_v ?_
   refine fin_v ?_
   refine fin_v ?_
   refine fin_v ?_
   refine fin_v ?_
   refine fin_v ?_
   refine fin_v ?_
   refine fin_v ?_
   refine fin_v ?_
   refine fin_v ?_
   refine fin_v ?_
   refine fin_v ?_
   refine fin_v ?_
   refine fin_v ?_
   refine fin_v ?_
   refine fin_v ?_
   refine fin_v ?_
   refine fin_v ?_
   refine fin_v ?_
   refine fin_nil ?_
   refine XF.thenN ?_
   refine condN rfl ?_
   refine skipF ?_
   exact XF.join [(2, .pointer (some ⟨B1, 0, none⟩)), (3, .pointer (some ⟨B2, 0, none⟩)), (6, .int .i64 (vl : Int))] ⟨rfl, rfl, rfl, trivial⟩ ⟨rfl, by unfold stepQ; dsimp only; rw [if_neg (by rw [hf]; simp), if_neg (by rw [hg]; simp), if_neg (by rw [hoe, hee]; simp), if_neg (fun h => h.1 hkk), if_neg (fun h => h.2 hk8)], hS.clear⟩
  ·have hoe := ofEq_at hy1 hy2
   rw [← ef, ← et] at hoe
   obtain ⟨ob, oo, z1, rfl, hz1, hzc1⟩ := ho.get (i := kf) (by omega)
   obtain ⟨ob2, oo2, z2, e2, hz2, hzc2⟩ := ho.get (i := kt) (by omega)
   cases e2
   obtain rfl : y1 = z1 := Option.some.inj (hy1.symm.trans hz1)
   obtain rfl : y2 = z2 := Option.some.inj (hy2.symm.trans hz2)
   have k3 := (CellsAt.agree hS.agree (Nat.zero_le _) hzc1).1
   have k4 := (CellsAt.agree hS.agree (Nat.zero_le _) hzc2).1
   refine regB (m := 47) gr_followsM hS (by kernel_rfl) (by kernel_rfl) rfl ?_
   refine bl_cons 1 rfl (isV _) (stab_isV _) (rgV (li := [(3, _)]) rfl (w_free rfl) ⟨g_fr (by kernel_rfl) rfl, trivial⟩ (fun w hw => rn_field (o' := 0) gr_fa_50_0 rfl rfl) (at_top rfl)) ?_
   refine bl_cons 2 rfl (isV _) (stab_isV _) (rgV (li := [(13, _)]) rfl (w_free rfl) ⟨g_dep 0 (by kernel_rfl) (at_dep rfl rfl rfl), trivial⟩ (fun w hw => rn_load Try.isAgg3 rfl ((below_agree hw 0).cell (Nat.zero_le _) (cell_own (hS.at_ 0 rfl) rfl))) (at_top rfl)) ?_
   refine bl_cons 3 rfl (isV _) (stab_isV _) (rgV (li := [(5, _)]) rfl (w_free rfl) ⟨g_fr (by kernel_rfl) rfl, trivial⟩ (fun w hw => rn_move rfl) (at_top rfl)) ?_
   refine bl_cons 4 rfl (isV (.bool true)) (stab_isV _) (rg_call [isV _, isV _] rfl gr_goes_29 (w_free rfl) ⟨p_tmp (g_dep 1 (by kernel_rfl) (at_dep rfl rfl rfl)), p_tmp (g_dep 2 (by kernel_rfl) (at_dep rfl rfl rfl)), trivial⟩ (fun vs w' hb hh => by have e := holds_isV (us := [_, _]) hh; subst e; exact (in_is s.f _ _).mono fun e w2 h => ⟨_, by rw [h.1, hf], rfl, h.2⟩) (at_top rfl)) ?_
   refine bl_cons 5 rfl (isV _) (stab_isV _) (rgV (li := [(16, _)]) rfl (w_free rfl) ⟨g_dep 3 (by kernel_rfl) (at_dep rfl rfl rfl), trivial⟩ (fun w hw => rn_not rfl) (at_top rfl)) ?_
   refine bl_cons 6 rfl (isV _) (stab_isV _) (rgV (li := [(17, _)]) rfl (w_free rfl) ⟨g_dep 4 (by kernel_rfl) (at_dep rfl rfl rfl), trivial⟩ (fun w hw => rn_move rfl) (at_top rfl)) ?_
   refine bl_cons 7 rfl (isV _) (stab_isV _) (rgV (li := [(3, _)]) rfl (w_yes 18 rfl (by kernel_rfl) (by kernel_rfl) (at_dep rfl rfl rfl)) ⟨g_fr (by kernel_rfl) rfl, trivial⟩ (fun w hw => rn_field (o' := 1) gr_fa_50_1 rfl rfl) (at_top rfl)) ?_
   refine bl_cons 8 rfl (isV _) (stab_isV _) (rgV (li := [(19, _)]) rfl (w_yes 18 rfl (by kernel_rfl) (by kernel_rfl) (at_dep rfl rfl rfl)) ⟨g_dep 6 (by kernel_rfl) (at_dep rfl rfl rfl), trivial⟩ (fun w hw => rn_load Try.isAgg3 rfl ((below_agree hw 0).cell (Nat.zero_le _) (cell_own (hS.at_ 0 rfl) rfl))) (at_top rfl)) ?_
   refine bl_cons 9 rfl (isV _) (stab_isV _) (rgV (li := [(5, _)]) rfl (w_yes 18 rfl (by kernel_rfl) (by kernel_rfl) (at_dep rfl rfl rfl)) ⟨g_fr (by kernel_rfl) rfl, trivial⟩ (fun w hw => rn_move rfl) (at_top rfl)) ?_
   refine bl_cons 10 rfl (isV (.bool true)) (stab_isV _) (rg_call [isV _, isV _] rfl gr_goes_29 (w_yes 18 rfl (by kernel_rfl) (by kernel_rfl) (at_dep rfl rfl rfl)) ⟨p_tmp (g_dep 7 (by kernel_rfl) (at_dep rfl rfl rfl)), p_tmp (g_dep 8 (by kernel_rfl) (at_dep rfl rfl rfl)), trivial⟩ (fun vs w' hb hh => by have e := holds_isV (us := [_, _]) hh; subst e; exact (in_is s.t _ _).mono fun e w2 h => ⟨_, by rw [h.1, hg], rfl, h.2⟩) (at_top rfl)) ?_
   refine bl_cons 11 rfl (isV _) (stab_isV _) (rgV (li := [(22, _)]) rfl (w_yes 18 rfl (by kernel_rfl) (by kernel_rfl) (at_dep rfl rfl rfl)) ⟨g_dep 9 (by kernel_rfl) (at_dep rfl rfl rfl), trivial⟩ (fun w hw => rn_not rfl) (at_top rfl)) ?_
   refine bl_cons 12 rfl (isV _) (stab_isV _) (rgV (li := [(18, _), (23, _)]) rfl (w_free rfl) ⟨g_dep 5 (by kernel_rfl) (at_dep rfl rfl rfl), g_dep 10 (by kernel_rfl) (at_dep rfl rfl rfl), trivial⟩ (fun w hw => rn_pickF rfl rfl) (at_top rfl)) ?_
   refine bl_cons 13 rfl (isV _) (stab_isV _) (rgV (li := [(24, _)]) rfl (w_free rfl) ⟨g_dep 11 (by kernel_rfl) (at_dep rfl rfl rfl), trivial⟩ (fun w hw => rn_move rfl) (at_top rfl)) ?_
   refine bl_cons 14 rfl (isV _) (stab_isV _) (rgV (li := [(2, _)]) rfl (w_yes 25 rfl (by kernel_rfl) (by kernel_rfl) (at_dep rfl rfl rfl)) ⟨g_fr (by kernel_rfl) rfl, trivial⟩ (fun w hw => rn_field (o' := 5) gr_fa_29_5 rfl rfl) (at_top rfl)) ?_
   refine bl_cons 15 rfl (isV _) (stab_isV _) (rgV (li := [(26, _)]) rfl (w_yes 25 rfl (by kernel_rfl) (by kernel_rfl) (at_dep rfl rfl rfl)) ⟨g_dep 13 (by kernel_rfl) (at_dep rfl rfl rfl), trivial⟩ (fun w hw => rn_load Try.isAgg23 rfl ((below_agree hw 0).cell (Nat.zero_le _) (cell_own (hS.at_ 1 rfl) rfl))) (at_top rfl)) ?_
   refine bl_cons 16 rfl (isV _) (stab_isV _) (rgV (li := [(3, _)]) rfl (w_yes 25 rfl (by kernel_rfl) (by kernel_rfl) (at_dep rfl rfl rfl)) ⟨g_fr (by kernel_rfl) rfl, trivial⟩ (fun w hw => rn_field (o' := 0) gr_fa_50_0 rfl rfl) (at_top rfl)) ?_
   refine bl_cons 17 rfl (isV _) (stab_isV _) (rgV (li := [(28, _)]) rfl (w_yes 25 rfl (by kernel_rfl) (by kernel_rfl) (at_dep rfl rfl rfl)) ⟨g_dep 15 (by kernel_rfl) (at_dep rfl rfl rfl), trivial⟩ (fun w hw => rn_load Try.isAgg3 rfl ((below_agree hw 0).cell (Nat.zero_le _) (cell_own (hS.at_ 0 rfl) rfl))) (at_top rfl)) ?_
   refine bl_cons 18 rfl (isV _) (stab_isV _) (rgV (li := [(27, _), (29, _)]) rfl (w_yes 25 rfl (by kernel_rfl) (by kernel_rfl) (at_dep rfl rfl rfl)) ⟨g_dep 14 (by kernel_rfl) (at_dep rfl rfl rfl), g_dep 16 (by kernel_rfl) (at_dep rfl rfl rfl), trivial⟩ (fun w hw => rn_indexA (j := kf) Try.underlying23 Try.sizeOf3 rfl rfl (by omega) (by omega) rfl) (at_top rfl)) ?_
   refine bl_cons 19 rfl (isV _) (stab_isV _) (rgV (li := [(30, _)]) rfl (w_yes 25 rfl (by kernel_rfl) (by kernel_rfl) (at_dep rfl rfl rfl)) ⟨g_dep 17 (by kernel_rfl) (at_dep rfl rfl rfl), trivial⟩ (fun w hw => rn_load Try.isAgg3 rfl ((below_agree hw 0).cell (Nat.zero_le _) (k3))) (at_top rfl)) ?_
   refine bl_cons 20 rfl (isV _) (stab_isV _) (rgV (li := [(2, _)]) rfl (w_yes 25 rfl (by kernel_rfl) (by kernel_rfl) (at_dep rfl rfl rfl)) ⟨g_fr (by kernel_rfl) rfl, trivial⟩ (fun w hw => rn_field (o' := 5) gr_fa_29_5 rfl rfl) (at_top rfl)) ?_
   refine bl_cons 21 rfl (isV _) (stab_isV _) (rgV (li := [(32, _)]) rfl (w_yes 25 rfl (by kernel_rfl) (by kernel_rfl) (at_dep rfl rfl rfl)) ⟨g_dep 19 (by kernel_rfl) (at_dep rfl rfl rfl), trivial⟩ (fun w hw => rn_load Try.isAgg23 rfl ((below_agree hw 0).cell (Nat.zero_le _) (cell_own (hS.at_ 1 rfl) rfl))) (at_top rfl)) ?_
   refine bl_cons 22 rfl (isV _) (stab_isV _) (rgV (li := [(3, _)]) rfl (w_yes 25 rfl (by kernel_rfl) (by kernel_rfl) (at_dep rfl rfl rfl)) ⟨g_fr (by kernel_rfl) rfl, trivial⟩ (fun w hw => rn_field (o' := 1) gr_fa_50_1 rfl rfl) (at_top rfl)) ?_
   refine bl_cons 23 rfl (isV _) (stab_isV _) (rgV (li := [(34, _)]) rfl (w_yes 25 rfl (by kernel_rfl) (by kernel_rfl) (at_dep rfl rfl rfl)) ⟨g_dep 21 (by kernel_rfl) (at_dep rfl rfl rfl), trivial⟩ (fun w hw => rn_load Try.isAgg3 rfl ((below_agree hw 0).cell (Nat.zero_le _) (cell_own (hS.at_ 0 rfl) rfl))) (at_top rfl)) ?_
   refine bl_cons 24 rfl (isV _) (stab_isV _) (rgV (li := [(33, _), (35, _)]) rfl (w_yes 25 rfl (by kernel_rfl) (by kernel_rfl) (at_dep rfl rfl rfl)) ⟨g_dep 20 (by kernel_rfl) (at_dep rfl rfl rfl), g_dep 22 (by kernel_rfl) (at_dep rfl rfl rfl), trivial⟩ (fun w hw => rn_indexA (j := kt) Try.underlying23 Try.sizeOf3 rfl rfl (by omega) (by omega) rfl) (at_top rfl)) ?_
   refine bl_cons 25 rfl (isV _) (stab_isV _) (rgV (li := [(36, _)]) rfl (w_yes 25 rfl (by kernel_rfl) (by kernel_rfl) (at_dep rfl rfl rfl)) ⟨g_dep 23 (by kernel_rfl) (at_dep rfl rfl rfl), trivial⟩ (fun w hw => rn_load Try.isAgg3 rfl ((below_agree hw 0).cell (Nat.zero_le _) (k4))) (at_top rfl)) ?_
   refine bl_cons 26 rfl (isV (.bool false)) (stab_isV _) (rgVe (li := [(31, _), (37, _)]) rfl (w_yes 25 rfl (by kernel_rfl) (by kernel_rfl) (at_dep rfl rfl rfl)) ⟨g_dep 18 (by kernel_rfl) (at_dep rfl rfl rfl), g_dep 24 (by kernel_rfl) (at_dep rfl rfl rfl), trivial⟩ (fun w hw => rn_neq rfl rfl) (by rw [decide_eq_false (not_not_intro hee)]) (at_top rfl)) ?_
   refine bl_cons 27 rfl (isV _) (stab_isV _) (rgV (li := [(25, _), (38, _)]) rfl (w_free rfl) ⟨g_dep 12 (by kernel_rfl) (at_dep rfl rfl rfl), g_dep 25 (by kernel_rfl) (at_dep rfl rfl rfl), trivial⟩ (fun w hw => rn_pickF rfl rfl) (at_top rfl)) ?_
   refine bl_cons 28 rfl (isV _) (stab_isV _) (rgV (li := [(39, _)]) rfl (w_free rfl) ⟨g_dep 26 (by kernel_rfl) (at_dep rfl rfl rfl), trivial⟩ (fun w hw => rn_move rfl) (at_top rfl)) ?_
   refine bl_cons 29 rfl (isV _) (stab_isV _) (rgV (li := [(3, _)]) rfl (w_yes 40 rfl (by kernel_rfl) (by kernel_rfl) (at_dep rfl rfl rfl)) ⟨g_fr (by kernel_rfl) rfl, trivial⟩ (fun w hw => rn_field (o' := 5) gr_fa_50_5 rfl rfl) (at_top rfl)) ?_
   refine bl_cons 30 rfl (isV _) (stab_isV _) (rgV (li := [(41, _)]) rfl (w_yes 40 rfl (by kernel_rfl) (by kernel_rfl) (at_dep rfl rfl rfl)) ⟨g_dep 28 (by kernel_rfl) (at_dep rfl rfl rfl), trivial⟩ (fun w hw => rn_load Try.isAgg2 rfl ((below_agree hw 0).cell (Nat.zero_le _) (cell_own (hS.at_ 0 rfl) rfl))) (at_top rfl)) ?_
   refine bl_cons 31 rfl (isV (.bool true)) (stab_isV _) (rgVe (li := [(42, _)]) rfl (w_yes 40 rfl (by kernel_rfl) (by kernel_rfl) (at_dep rfl rfl rfl)) ⟨g_dep 29 (by kernel_rfl) (at_dep rfl rfl rfl), trivial⟩ (fun w hw => rn_neq rfl rfl) (by rw [decide_eq_true hkk]) (at_top rfl)) ?_
   refine bl_cons 32 rfl (isV _) (stab_isV _) (rgV (li := [(43, _)]) rfl (w_yes 40 rfl (by kernel_rfl) (by kernel_rfl) (at_dep rfl rfl rfl)) ⟨g_dep 30 (by kernel_rfl) (at_dep rfl rfl rfl), trivial⟩ (fun w hw => rn_move rfl) (at_top rfl)) ?_
   refine bl_cons 33 rfl (isV _) (stab_isV _) (rgV (li := [(3, _)]) rfl (w_yes 44 rfl (by kernel_rfl) (by kernel_rfl) (at_dep rfl rfl rfl)) ⟨g_fr (by kernel_rfl) rfl, trivial⟩ (fun w hw => rn_field (o' := 2) gr_fa_50_2 rfl rfl) (at_top rfl)) ?_
   refine bl_cons 34 rfl (isV _) (stab_isV _) (rgV (li := [(45, _)]) rfl (w_yes 44 rfl (by kernel_rfl) (by kernel_rfl) (at_dep rfl rfl rfl)) ⟨g_dep 32 (by kernel_rfl) (at_dep rfl rfl rfl), trivial⟩ (fun w hw => rn_load Try.isAgg48 rfl ((below_agree hw 0).cell (Nat.zero_le _) (cell_own (hS.at_ 0 rfl) rfl))) (at_top rfl)) ?_
   refine bl_cons 35 rfl (isV (.bool false)) (stab_isV _) (rgVe (li := [(46, _)]) rfl (w_yes 44 rfl (by kernel_rfl) (by kernel_rfl) (at_dep rfl rfl rfl)) ⟨g_dep 33 (by kernel_rfl) (at_dep rfl rfl rfl), trivial⟩ (fun w hw => rn_neq rfl rfl) (by rw [decide_eq_false (not_not_intro hk2)]) (at_top rfl)) ?_
   refine bl_cons 36 rfl (isV _) (stab_isV _) (rgV (li := [(44, _), (47, _)]) rfl (w_yes 40 rfl (by kernel_rfl) (by kernel_rfl) (at_dep rfl rfl rfl)) ⟨g_dep 31 (by kernel_rfl) (at_dep rfl rfl rfl), g_dep 34 (by kernel_rfl) (at_dep rfl rfl rfl), trivial⟩ (fun w hw => rn_pickT rfl rfl) (at_top rfl)) ?_
   refine bl_cons 37 rfl (isV _) (stab_isV _) (rgV (li := [(40, _), (48, _)]) rfl (w_free rfl) ⟨g_dep 27 (by kernel_rfl) (at_dep rfl rfl rfl), g_dep 35 (by kernel_rfl) (at_dep rfl rfl rfl), trivial⟩ (fun w hw => rn_pickF rfl rfl) (at_top rfl)) ?_
   refine bl_cons 38 rfl (isV _) (stab_isV _) (rgV (li := [(49, _)]) rfl (w_free rfl) ⟨g_dep 36 (by kernel_rfl) (at_dep rfl rfl rfl), trivial⟩ (fun w hw => rn_move rfl) (at_top rfl)) ?_
   refine bl_cons 39 rfl (isV _) (stab_isV _) (rgV (li := [(3, _)]) rfl (w_yes 50 rfl (by kernel_rfl) (by kernel_rfl) (at_dep rfl rfl rfl)) ⟨g_fr (by kernel_rfl) rfl, trivial⟩ (fun w hw => rn_field (o' := 6) gr_fa_50_6 rfl rfl) (at_top rfl)) ?_
   refine bl_cons 40 rfl (isV _) (stab_isV _) (rgV (li := [(51, _)]) rfl (w_yes 50 rfl (by kernel_rfl) (by kernel_rfl) (at_dep rfl rfl rfl)) ⟨g_dep 38 (by kernel_rfl) (at_dep rfl rfl rfl), trivial⟩ (fun w hw => rn_load Try.isAgg3 rfl ((below_agree hw 0).cell (Nat.zero_le _) (cell_own (hS.at_ 0 rfl) rfl))) (at_top rfl)) ?_
   refine bl_cons 41 rfl (isV (.bool false)) (stab_isV _) (rgVe (li := [(52, _)]) rfl (w_yes 50 rfl (by kernel_rfl) (by kernel_rfl) (at_dep rfl rfl rfl)) ⟨g_dep 39 (by kernel_rfl) (at_dep rfl rfl rfl), trivial⟩ (fun w hw => rn_neq rfl rfl) (by rw [decide_eq_false (not_not_intro hz)]) (at_top rfl)) ?_
   refine bl_cons 42 rfl (isV _) (stab_isV _) (rgV (li := [(53, _)]) rfl (w_yes 50 rfl (by kernel_rfl) (by kernel_rfl) (at_dep rfl rfl rfl)) ⟨g_dep 40 (by kernel_rfl) (at_dep rfl rfl rfl), trivial⟩ (fun w hw => rn_move rfl) (at_top rfl)) ?_
   refine bl_cons 43 rfl (isV undef) (stab_isV _) (rg_no rfl (w_no 54 rfl (by kernel_rfl) (by kernel_rfl) (at_dep rfl rfl rfl) rfl) (at_top rfl)) ?_
   refine bl_cons 44 rfl (isV undef) (stab_isV _) (rg_no rfl (w_no 54 rfl (by kernel_rfl) (by kernel_rfl) (at_dep rfl rfl rfl) rfl) (at_top rfl)) ?_
   refine bl_cons 45 rfl (isV undef) (stab_isV _) (rg_no rfl (w_no 54 rfl (by kernel_rfl) (by kernel_rfl) (at_dep rfl rfl rfl) rfl) (at_top rfl)) ?_
   refine bl_cons 46 rfl (isV _) (stab_isV _) (rgV (li := [(54, _)]) rfl (w_yes 50 rfl (by kernel_rfl) (by kernel_rfl) (at_dep rfl rfl rfl)) ⟨g_dep 41 (by kernel_rfl) (at_dep rfl rfl rfl), trivial⟩ (fun w hw => rn_pickF rfl rfl) (at_top rfl)) ?_
   refine bl_cons 47 rfl (isV _) (stab_isV _) (rgV (li := [(50, _), (58, _)]) rfl (w_free rfl) ⟨g_dep 37 (by kernel_rfl) (at_dep rfl rfl rfl), g_dep 45 (by kernel_rfl) (at_dep rfl rfl rfl), trivial⟩ (fun w hw => rn_pickF rfl rfl) (at_top rfl)) ?_
   refine bl_nil ?_
   intro W23 hbR hS'
   clear hS; have hS := hS'; clear hS'
   refine fin_v ?_
   refine fin_v ?_
   refine fin_v ?_
   refine fin_v ?_
   refine fin_v ?_
   refine fin_v ?_
   refine fin_v ?_
   refine fin_v ?_
   refine fin_v ?_
   refine fin_v ?_
   refine fin_v ?_
   refine fin_v ?_
   refine fin_v ?_
   refine fin_v ?_
   refine fin_v ?_
   refine fin_v ?_
   refine fin_v ?_
   refine fin_v ?_
   refine fin_v ?_
   refine fin_v ?_
   refine fin_v ?_
   refine fin_v ?_
   refine fin_v ?_
   refine fin_v ?_
   refine fin_v ?_
   refine fin_v ?_
   refine fin_v ?_
   refine fin_v ?_
   refine fin_v ?_
   refine fin_v ?_
   refine fin_v ?_
   refine fin_v ?_
   refine fin_v ?_
   refine fin_v ?_
   refine fin_v ?_
   refine fin_v ?_
   refine fin_v ?_
   refine fin_v ?_
   refine fin_v ?_
   refine fin_v ?_
   refine fin_v ?_
   refine fin_v ?_
   refine fin_v ?_
   refine fin_v ?_
   refine fin_v ?_
   refine fin_v ?_
   refine fin_v ?_
   refine fin_nil ?_
   refine XF.thenN ?_
   refine condN rfl ?_
   refine skipF ?_
   exact XF.join [(2, .pointer (some ⟨B1, 0, none⟩)), (3, .pointer (some ⟨B2, 0, none⟩)), (6, .int .i64 (vl : Int))] ⟨rfl, rfl, rfl, trivial⟩ ⟨rfl, by unfold stepQ; dsimp only; rw [if_neg (by rw [hf]; simp), if_neg (by rw [hg]; simp), if_neg (by rw [hoe, hee]; simp), if_neg (fun h => h.2 hk2), if_neg (fun h => h.1 hz)], hS.clear⟩
end Go.Proofs.Ythepjghlipdcoaa
namespace Go.Proofs.Ythepjghlipdcoaa
open Go Go.RowKit
theorem gr_goes_27 : goesIn Try.prog 27 = true := by kernel_rfl
theorem gr_goes_28 : goesIn Try.prog 28 = true := by kernel_rfl
theorem checkR_c (va : Option Addr) (vl : Nat) (vc : Nat) (pa : Option Addr) (pl : Nat) (pc : Nat) (ea : Option Addr) (el : Nat) (ec : Nat) (es : List Int) (xa : Option Addr) (xl : Nat) (xc : Nat) (xs : List Int) (mn : Int) (oa : Option Addr) (ol : Nat) (oc : Nat) (os : List Int) (sa : Option Addr) (sl : Nat) (sc : Nat) (ss : List TV) (ta : Option Addr) (tl : Nat) (tc : Nat) (ts : List UV) (na : Option Addr) (nl : Nat) (nc : Nat) (ns : List NV) (ka : Option Addr) (kl : Nat) (kc : Nat) (ks : List KV) (w : World) (he : RowI w ea es) (hel : es.length = el) (hx : RowI w xa xs) (hxl : xs.length = xl) (ho : RowI w oa os) (hol : os.length = ol) (hs : RowL TV.sev 7 w sa ss) (hsl : ss.length = sl) (ht : RowL UV.four 4 w ta ts) (htl : ts.length = tl) (hn : RowL NV.two 2 w na ns) (hnl : ns.length = nl) (hk : RowL KV.two 2 w ka ks) (hkl : ks.length = kl) (b1 : vl ≤ 5000) (b2 : pl ≤ 5000) (b3 : el ≤ 5000) (b4 : xl ≤ 5000) (b5 : ol ≤ 5000) (b6 : sl ≤ 5000) (b7 : tl ≤ 5000) (b8 : nl ≤ 5000) (b9 : kl ≤ 5000) :
  Calls Try.prog 16 #[.agg #[.slice va vl vc, .slice pa pl pc, .slice ea el ec, .slice xa xl xc, .int .i64 mn, .slice oa ol oc, .slice sa sl sc, .slice ta tl tc, .slice na nl nc, .slice ka kl kc]] w (fun e w' => e = .returned (.int .i64 (gr_checkE ⟨va, vl, vc, pa, pl, pc, ea, el, ec, es, xa, xl, xc, xs, mn, oa, ol, oc, os, sa, sl, sc, ss, ta, tl, tc, ts, na, nl, nc, ns, ka, kl, kc, ks⟩)) ∧ Below w.heap.size w w') := by
 refine enterF (args := [.agg #[.slice va vl vc, .slice pa pl pc, .slice ea el ec, .slice xa xl xc, .int .i64 mn, .slice oa ol oc, .slice sa sl sc, .slice ta tl tc, .slice na nl nc, .slice ka kl kc]]) Try.func16 rfl Try.ntmps16 rfl ?_
 have hS := St.start w
 refine seqF (regF ?_)
 refine op_box (cs := [_, _, _, _, _, _, _, _, _, _]) hS rfl rfl rfl ?_
 clear hS; intro B1 W1 hS
 refine op_assign rfl rfl ?_
 refine endF (XF.thenN ?_)
 refine seqF ?_
 refine seqF (regF ?_)
 refine op_loadA (vs := [_, _, _, _, _, _, _, _, _, _]) Try.isAgg29 Try.sizeOf29 rfl (CellsAt.own (j := 0) (m := 10) (hS.at_ 0 rfl) rfl) rfl ?_
 refine op_call (vs := [_]) hS gr_goes_27 rfl (headsR_c _ vl vc _ pl pc _ el ec es _ xl xc xs mn _ ol oc os _ sl sc ss _ tl tc ts _ nl nc ns _ kl kc ks  _ (he.below hS.below) hel (hx.below hS.below) hxl (ho.below hS.below) hol (hs.below hS.below) hsl (ht.below hS.below) htl (hn.below hS.below) hnl (hk.below hS.below) hkl b1 b2 b3 b4 b5 b6 b7 b8 b9) rfl ?_
 rintro e W2 ⟨rfl, hb⟩
 refine ⟨_, rfl, hb, fun hS' => ?_⟩
 clear hS; have hS := hS'; clear hS' hb
 refine op_not rfl rfl ?_
 refine endF (XF.thenN ?_)
 refine condF rfl (fun hc => ?_) (fun hc => ?_)
 ·have hc9 := hc; clear hc
  refine seqF (regF ?_)
  refine op_assign rfl rfl ?_
  refine endF (XF.thenN ?_)
  refine retF ?_
  refine XF.thenR ?_
  refine XF.res (res1 Try.results16 rfl) ?_
  exact ⟨gr_rint (heads_no (g := ⟨va, vl, vc, pa, pl, pc, ea, el, ec, es, xa, xl, xc, xs, mn, oa, ol, oc, os, sa, sl, sc, ss, ta, tl, tc, ts, na, nl, nc, ns, ka, kl, kc, ks⟩) (by simpa using hc9)).symm, hS.below⟩
 ·have hc9 := hc; clear hc
  have hhd : headsB ⟨va, vl, vc, pa, pl, pc, ea, el, ec, es, xa, xl, xc, xs, mn, oa, ol, oc, os, sa, sl, sc, ss, ta, tl, tc, ts, na, nl, nc, ns, ka, kl, kc, ks⟩ = true := by simpa using hc9
  refine skipF ?_
  refine XF.thenN ?_
  refine seqF (regF ?_)
  refine op_assign rfl rfl ?_
  refine endF (XF.thenN ?_)
  refine seqF ?_
  refine seqF (regF ?_)
  refine op_assign rfl rfl ?_
  refine endF (XF.thenN ?_)
  refine blockF ?_
  refine loopF (fun m l W => ∃ i n : Nat, i ≤ sl ∧ n ≤ i ∧ m = sl - i ∧ l = [(1, .pointer (some ⟨B1, 0, none⟩)), (3, .int .i64 (n : Int)), (4, .int .i64 (i : Int))] ∧ stepsFrom ⟨va, vl, vc, pa, pl, pc, ea, el, ec, es, xa, xl, xc, xs, mn, oa, ol, oc, os, sa, sl, sc, ss, ta, tl, tc, ts, na, nl, nc, ns, ka, kl, kc, ks⟩ (ss.drop i) n = stepsFrom ⟨va, vl, vc, pa, pl, pc, ea, el, ec, es, xa, xl, xc, xs, mn, oa, ol, oc, os, sa, sl, sc, ss, ta, tl, tc, ts, na, nl, nc, ns, ka, kl, kc, ks⟩ ss 0 ∧ St w [(B1, [.slice va vl vc, .slice pa pl pc, .slice ea el ec, .slice xa xl xc, .int .i64 mn, .slice oa ol oc, .slice sa sl sc, .slice ta tl tc, .slice na nl nc, .slice ka kl kc], 29)] [] [] W) (sl - 0) ([(1, _), (3, _), (4, _)]) ⟨rfl, rfl, rfl, trivial⟩ (⟨0, 0, Nat.zero_le _, Nat.le_refl _, rfl, rfl, rfl, hS.clear⟩) ?_
  clear hS
  rintro m l W ⟨i, n, hi, hni, rfl, rfl, hrun, hS⟩
  refine seqF ?_
  refine seqF (regF ?_)
  refine op_move rfl rfl ?_
  refine op_field (o' := 6) gr_fa_29_6 rfl rfl rfl ?_
  refine op_load Try.isAgg24 rfl (cell_own (hS.at_ 0 rfl) rfl) rfl ?_
  refine op_len Try.underlying24 rfl rfl ?_
  refine op_lss rfl rfl rfl ?_
  refine endF (XF.thenN ?_)
  refine condF rfl (fun hc => ?_) (fun hc => ?_)
  ·have hc14 := of_decide_eq_true hc; clear hc
   have hk1 : i < sl := by omega
   obtain ⟨b, off, s, rfl, hy, hyc⟩ := hs.get (i := i) (by omega)
   have k1 := CellsAt.agree hS.agree (Nat.zero_le _) hyc
   rw [gr_drop_at hy] at hrun
   simp only [stepsFrom] at hrun
   rw [step_eq] at hrun
   refine skipF ?_
   refine XF.thenN ?_
   refine seqF ?_
   refine blockF ?_
   refine seqF ?_
   refine seqF ?_
   refine regB (m := 8) gr_followsM hS (by kernel_rfl) (by kernel_rfl) rfl ?_
   refine bl_cons 1 rfl (isV _) (stab_isV _) (rgV (li := [(1, _)]) rfl (w_free rfl) ⟨g_fr (by kernel_rfl) rfl, trivial⟩ (fun w hw => rn_loadA (vs := [_, _, _, _, _, _, _, _, _, _]) Try.isAgg29 Try.sizeOf29 rfl (CellsAt.agree (below_agree hw 0) (Nat.zero_le _) (CellsAt.own (j := 0) (m := 10) (hS.at_ 0 rfl) rfl))) (at_top rfl)) ?_
   refine bl_cons 2 rfl (isV _) (stab_isV _) (rgV (li := [(1, _)]) rfl (w_free rfl) ⟨g_fr (by kernel_rfl) rfl, trivial⟩ (fun w hw => rn_field (o' := 6) gr_fa_29_6 rfl rfl) (at_top rfl)) ?_
   refine bl_cons 3 rfl (isV _) (stab_isV _) (rgV (li := [(18, _)]) rfl (w_free rfl) ⟨g_dep 1 (by kernel_rfl) (at_dep rfl rfl rfl), trivial⟩ (fun w hw => rn_load Try.isAgg24 rfl ((below_agree hw 0).cell (Nat.zero_le _) (cell_own (hS.at_ 0 rfl) rfl))) (at_top rfl)) ?_
   refine bl_cons 4 rfl (isV _) (stab_isV _) (rgV (li := [(4, _)]) rfl (w_free rfl) ⟨g_fr (by kernel_rfl) rfl, trivial⟩ (fun w hw => rn_move rfl) (at_top rfl)) ?_
   refine bl_cons 5 rfl (isV _) (stab_isV _) (rgV (li := [(19, _), (20, _)]) rfl (w_free rfl) ⟨g_dep 2 (by kernel_rfl) (at_dep rfl rfl rfl), g_dep 3 (by kernel_rfl) (at_dep rfl rfl rfl), trivial⟩ (fun w hw => rn_indexA  Try.underlying24 Try.sizeOf50 rfl rfl rfl (by omega) rfl) (at_top rfl)) ?_
   refine bl_cons 6 rfl (isV _) (stab_isV _) (rgV (li := [(21, _)]) rfl (w_free rfl) ⟨g_dep 4 (by kernel_rfl) (at_dep rfl rfl rfl), trivial⟩ (fun w hw => rn_loadA (vs := [_, _, _, _, _, _, _]) Try.isAgg50 Try.sizeOf50 rfl (CellsAt.agree (below_agree hw 0) (Nat.zero_le _) (k1))) (at_top rfl)) ?_
   refine bl_cons 7 rfl (isV (.bool (stepQ ⟨va, vl, vc, pa, pl, pc, ea, el, ec, es, xa, xl, xc, xs, mn, oa, ol, oc, os, (some ⟨b, off, none⟩), sl, sc, ss, ta, tl, tc, ts, na, nl, nc, ns, ka, kl, kc, ks⟩ s))) (stab_isV _) (rg_call [isV _, isV _] rfl gr_goes_28 (w_free rfl) ⟨p_tmp (g_dep 0 (by kernel_rfl) (at_dep rfl rfl rfl)), p_tmp (g_dep 5 (by kernel_rfl) (at_dep rfl rfl rfl)), trivial⟩ (fun vs w' hb hh => by have e := holds_isV (us := [_, _]) hh; subst e; exact (gr_stepR_c _ vl vc _ pl pc _ el ec es _ xl xc xs mn _ ol oc os _ sl sc ss _ tl tc ts _ nl nc ns _ kl kc ks s _ (he.below (hS.below.trans (hb.mono hS.below.size))) hel (hx.below (hS.below.trans (hb.mono hS.below.size))) hxl (ho.below (hS.below.trans (hb.mono hS.below.size))) hol (hs.below (hS.below.trans (hb.mono hS.below.size))) hsl (ht.below (hS.below.trans (hb.mono hS.below.size))) htl (hn.below (hS.below.trans (hb.mono hS.below.size))) hnl (hk.below (hS.below.trans (hb.mono hS.below.size))) hkl b1 b2 b3 b4 b5 b6 b7 b8 b9).mono fun e w2 h => ⟨_, h.1, rfl, h.2⟩) (at_top rfl)) ?_
   refine bl_cons 8 rfl (isV _) (stab_isV _) (rgV (li := [(23, _)]) rfl (w_free rfl) ⟨g_dep 6 (by kernel_rfl) (at_dep rfl rfl rfl), trivial⟩ (fun w hw => rn_not rfl) (at_top rfl)) ?_
   refine bl_nil ?_
   intro W3 hbR hS'
   clear hS; have hS := hS'; clear hS'
   refine fin_v ?_
   refine fin_v ?_
   refine fin_v ?_
   refine fin_v ?_
   refine fin_v ?_
   refine fin_v ?_
   refine fin_v ?_
   refine fin_v ?_
   refine fin_nil ?_
   refine XF.thenN ?_
   refine condF rfl (fun hc => ?_) (fun hc => ?_)
   ·have hc24 := hc; clear hc
    rw [show stepQ ⟨va, vl, vc, pa, pl, pc, ea, el, ec, es, xa, xl, xc, xs, mn, oa, ol, oc, os, (some ⟨b, off, none⟩), sl, sc, ss, ta, tl, tc, ts, na, nl, nc, ns, ka, kl, kc, ks⟩ s = false by simpa using hc24, Bool.false_and, if_neg (by simp)] at hrun
    refine seqF (regF ?_)
    refine op_assign rfl rfl ?_
    refine endF (XF.thenN ?_)
    refine retF ?_
    refine XF.thenR ?_
    refine XF.blkR ?_
    refine XF.thenR ?_
    refine XF.thenR ?_
    refine XF.blkR ?_
    refine XF.thenR ?_
    refine XF.res (res1 Try.results16 rfl) ?_
    exact ⟨gr_rint (steps_no (g := ⟨va, vl, vc, pa, pl, pc, ea, el, ec, es, xa, xl, xc, xs, mn, oa, ol, oc, os, (some ⟨b, off, none⟩), sl, sc, ss, ta, tl, tc, ts, na, nl, nc, ns, ka, kl, kc, ks⟩) (by unfold stepsB; dsimp only; rw [← hrun]; simp)).symm, hS.below⟩
   ·have hc24 := hc; clear hc
    rw [show stepQ ⟨va, vl, vc, pa, pl, pc, ea, el, ec, es, xa, xl, xc, xs, mn, oa, ol, oc, os, (some ⟨b, off, none⟩), sl, sc, ss, ta, tl, tc, ts, na, nl, nc, ns, ka, kl, kc, ks⟩ s = true by simpa using hc24, Bool.true_and] at hrun
    have k1 := CellsAt.agree hS.agree (Nat.zero_le _) hyc
    refine skipF ?_
    refine XF.thenN ?_
    refine seqF (regF ?_)
    refine op_field (o' := 6) gr_fa_29_6 rfl rfl rfl ?_
    refine op_load Try.isAgg24 rfl (cell_own (hS.at_ 0 rfl) rfl) rfl ?_
    refine op_move rfl rfl ?_
    refine op_indexA  Try.underlying24 Try.sizeOf50 rfl rfl rfl (by omega) rfl rfl ?_
    refine op_field gr_fa_50_2 rfl rfl rfl ?_
    refine op_load Try.isAgg48 rfl (k1.2.2.1) rfl ?_
    refine op_eql rfl rfl rfl ?_
    refine endF (XF.thenN ?_)
    refine condF rfl (fun hc => ?_) (fun hc => ?_)
    ·have hc31 := of_decide_eq_true hc; clear hc
     have h8 : s.k = 8 := hc31
     rw [decide_eq_false (not_not_intro h8), Bool.false_or, if_pos h8] at hrun
     refine seqF ?_
     refine seqF (regF ?_)
     refine op_field (o' := 6) gr_fa_29_6 rfl rfl rfl ?_
     refine op_load Try.isAgg24 rfl (cell_own (hS.at_ 0 rfl) rfl) rfl ?_
     refine op_move rfl rfl ?_
     refine op_indexA  Try.underlying24 Try.sizeOf50 rfl rfl rfl (by omega) rfl rfl ?_
     refine op_field gr_fa_50_6 rfl rfl rfl ?_
     refine op_load Try.isAgg3 rfl (k1.2.2.2.2.2.2.1) rfl ?_
     refine op_move rfl rfl ?_
     refine op_neq rfl rfl rfl ?_
     refine endF (XF.thenN ?_)
     refine condF rfl (fun hc => ?_) (fun hc => ?_)
     ·have hc39 := of_decide_eq_true hc; clear hc
      rw [decide_eq_false hc39, if_neg (by simp)] at hrun
      refine seqF (regF ?_)
      refine op_assign rfl rfl ?_
      refine endF (XF.thenN ?_)
      refine retF ?_
      refine XF.thenR ?_
      refine XF.blkR ?_
      refine XF.thenR ?_
      refine XF.thenR ?_
      refine XF.blkR ?_
      refine XF.thenR ?_
      refine XF.res (res1 Try.results16 rfl) ?_
      exact ⟨gr_rint (steps_no (g := ⟨va, vl, vc, pa, pl, pc, ea, el, ec, es, xa, xl, xc, xs, mn, oa, ol, oc, os, (some ⟨b, off, none⟩), sl, sc, ss, ta, tl, tc, ts, na, nl, nc, ns, ka, kl, kc, ks⟩) (by unfold stepsB; dsimp only; rw [← hrun]; simp)).symm, hS.below⟩
     ·have hc39 := of_decide_eq_false hc; clear hc
      rw [decide_eq_true (Decidable.of_not_not hc39), if_pos (rfl : true = true)] at hrun
      refine skipF ?_
      refine XF.thenN ?_
      refine regF ?_
      refine op_move rfl rfl ?_
      refine op_add rfl rfl (IntWalk.i64_in _ (by omega)) rfl ?_
      refine op_assign rfl rfl ?_
      refine endF ?_
      refine XF.blkN ?_
      refine XF.thenN ?_
      refine regF ?_
      refine op_move rfl rfl ?_
      refine op_add rfl rfl (IntWalk.i64_in _ (by omega)) rfl ?_
      refine op_assign rfl rfl ?_
      refine endF ?_
      exact XF.round (sl - (i + 1)) [(1, _), (3, _), (4, _)] (by omega) ⟨rfl, rfl, rfl, trivial⟩ ⟨i + 1, n + 1, by omega, by omega, rfl, rfl, hrun, hS.clear⟩
    ·have hc31 := of_decide_eq_false hc; clear hc
     have h8 : ¬ s.k = 8 := hc31
     rw [decide_eq_true (show s.k ≠ 8 from h8), Bool.true_or, if_pos (rfl : true = true), if_neg h8] at hrun
     refine skipF ?_
     refine XF.blkN ?_
     refine XF.thenN ?_
     refine regF ?_
     refine op_move rfl rfl ?_
     refine op_add rfl rfl (IntWalk.i64_in _ (by omega)) rfl ?_
     refine op_assign rfl rfl ?_
     refine endF ?_
     exact XF.round (sl - (i + 1)) [(1, _), (3, _), (4, _)] (by omega) ⟨rfl, rfl, rfl, trivial⟩ ⟨i + 1, n, by omega, by omega, rfl, rfl, hrun, hS.clear⟩
  ·have hc14 := of_decide_eq_false hc; clear hc
   rw [List.drop_of_length_le (by omega)] at hrun
   simp only [stepsFrom] at hrun
   refine exitF ?_
   refine XF.thenX ?_
   refine XF.thenX ?_
   refine XF.blkX ?_
   refine XF.thenN ?_
   refine seqF ?_
   refine seqF (regF ?_)
   refine op_move rfl rfl ?_
   refine op_field (o' := 7) gr_fa_29_7 rfl rfl rfl ?_
   refine op_load Try.isAgg25 rfl (cell_own (hS.at_ 0 rfl) rfl) rfl ?_
   refine op_len Try.underlying25 rfl rfl ?_
   refine op_neq rfl rfl rfl ?_
   refine endF (XF.thenN ?_)
   refine condF rfl (fun hc => ?_) (fun hc => ?_)
   ·have hc46 := of_decide_eq_true hc; clear hc
    refine seqF (regF ?_)
    refine op_assign rfl rfl ?_
    refine endF (XF.thenN ?_)
    refine retF ?_
    refine XF.thenR ?_
    refine XF.res (res1 Try.results16 rfl) ?_
    exact ⟨gr_rint (steps_no (g := ⟨va, vl, vc, pa, pl, pc, ea, el, ec, es, xa, xl, xc, xs, mn, oa, ol, oc, os, sa, sl, sc, ss, ta, tl, tc, ts, na, nl, nc, ns, ka, kl, kc, ks⟩) (by unfold stepsB; dsimp only; rw [← hrun]; exact decide_eq_false (fun h => by have := Option.some.inj h; omega))).symm, hS.below⟩
   ·have hc46 := of_decide_eq_false hc; clear hc
    have hst : stepsB ⟨va, vl, vc, pa, pl, pc, ea, el, ec, es, xa, xl, xc, xs, mn, oa, ol, oc, os, sa, sl, sc, ss, ta, tl, tc, ts, na, nl, nc, ns, ka, kl, kc, ks⟩ = true := by unfold stepsB; dsimp only; rw [← hrun]; exact decide_eq_true (by congr 1; omega)
    refine skipF ?_
    refine XF.thenN ?_
    refine seqF ?_
    refine seqF (regF ?_)
    refine op_assign rfl rfl ?_
    refine endF (XF.thenN ?_)
    refine blockF ?_
    refine loopF (fun m l W => ∃ i : Nat, i ≤ nl ∧ m = nl - i ∧ l = [(1, .pointer (some ⟨B1, 0, none⟩)), (5, .int .i64 (i : Int))] ∧ (ns.take i).all (fun u => gr_inQ u.nd ol) = true ∧ St w [(B1, [.slice va vl vc, .slice pa pl pc, .slice ea el ec, .slice xa xl xc, .int .i64 mn, .slice oa ol oc, .slice sa sl sc, .slice ta tl tc, .slice na nl nc, .slice ka kl kc], 29)] [] [] W) (nl - 0) ([(1, _), (5, _)]) ⟨rfl, rfl, trivial⟩ (⟨0, Nat.zero_le _, rfl, rfl, rfl, hS.clear⟩) ?_
    clear hS
    rintro m l W ⟨i, hi, rfl, rfl, hns, hS⟩
    refine seqF ?_
    refine seqF (regF ?_)
    refine op_move rfl rfl ?_
    refine op_field (o' := 8) gr_fa_29_8 rfl rfl rfl ?_
    refine op_load Try.isAgg26 rfl (cell_own (hS.at_ 0 rfl) rfl) rfl ?_
    refine op_len Try.underlying26 rfl rfl ?_
    refine op_lss rfl rfl rfl ?_
    refine endF (XF.thenN ?_)
    refine condF rfl (fun hc => ?_) (fun hc => ?_)
    ·have hc51 := of_decide_eq_true hc; clear hc
     have hk1 : i < nl := by omega
     obtain ⟨b, off, u, rfl, hy, hyc⟩ := hn.get (i := i) (by omega)
     have k1 := CellsAt.agree hS.agree (Nat.zero_le _) hyc
     refine skipF ?_
     refine XF.thenN ?_
     refine seqF ?_
     refine blockF ?_
     refine seqF ?_
     refine regB (m := 11) gr_followsM hS (by kernel_rfl) (by kernel_rfl) rfl ?_
     refine bl_cons 1 rfl (isV _) (stab_isV _) (rgV (li := [(1, _)]) rfl (w_free rfl) ⟨g_fr (by kernel_rfl) rfl, trivial⟩ (fun w hw => rn_field (o' := 8) gr_fa_29_8 rfl rfl) (at_top rfl)) ?_
     refine bl_cons 2 rfl (isV _) (stab_isV _) (rgV (li := [(54, _)]) rfl (w_free rfl) ⟨g_dep 0 (by kernel_rfl) (at_dep rfl rfl rfl), trivial⟩ (fun w hw => rn_load Try.isAgg26 rfl ((below_agree hw 0).cell (Nat.zero_le _) (cell_own (hS.at_ 0 rfl) rfl))) (at_top rfl)) ?_
     refine bl_cons 3 rfl (isV _) (stab_isV _) (rgV (li := [(5, _)]) rfl (w_free rfl) ⟨g_fr (by kernel_rfl) rfl, trivial⟩ (fun w hw => rn_move rfl) (at_top rfl)) ?_
     refine bl_cons 4 rfl (isV _) (stab_isV _) (rgV (li := [(55, _), (56, _)]) rfl (w_free rfl) ⟨g_dep 1 (by kernel_rfl) (at_dep rfl rfl rfl), g_dep 2 (by kernel_rfl) (at_dep rfl rfl rfl), trivial⟩ (fun w hw => rn_indexA  Try.underlying26 Try.sizeOf87 rfl rfl rfl (by omega) rfl) (at_top rfl)) ?_
     refine bl_cons 5 rfl (isV _) (stab_isV _) (rgV (li := [(57, _)]) rfl (w_free rfl) ⟨g_dep 3 (by kernel_rfl) (at_dep rfl rfl rfl), trivial⟩ (fun w hw => rn_field gr_fa_87_1 rfl rfl) (at_top rfl)) ?_
     refine bl_cons 6 rfl (isV _) (stab_isV _) (rgV (li := [(58, _)]) rfl (w_free rfl) ⟨g_dep 4 (by kernel_rfl) (at_dep rfl rfl rfl), trivial⟩ (fun w hw => rn_load Try.isAgg3 rfl ((below_agree hw 0).cell (Nat.zero_le _) (k1.2.1))) (at_top rfl)) ?_
     refine bl_cons 7 rfl (isV _) (stab_isV _) (rgV (li := [(1, _)]) rfl (w_free rfl) ⟨g_fr (by kernel_rfl) rfl, trivial⟩ (fun w hw => rn_field (o' := 5) gr_fa_29_5 rfl rfl) (at_top rfl)) ?_
     refine bl_cons 8 rfl (isV _) (stab_isV _) (rgV (li := [(60, _)]) rfl (w_free rfl) ⟨g_dep 6 (by kernel_rfl) (at_dep rfl rfl rfl), trivial⟩ (fun w hw => rn_load Try.isAgg23 rfl ((below_agree hw 0).cell (Nat.zero_le _) (cell_own (hS.at_ 0 rfl) rfl))) (at_top rfl)) ?_
     refine bl_cons 9 rfl (isV _) (stab_isV _) (rgV (li := [(61, _)]) rfl (w_free rfl) ⟨g_dep 7 (by kernel_rfl) (at_dep rfl rfl rfl), trivial⟩ (fun w hw => rn_len Try.underlying23 rfl) (at_top rfl)) ?_
     refine bl_cons 10 rfl (isV (.bool (gr_inQ u.nd ol))) (stab_isV _) (rg_call [isV _, isV _] rfl gr_goes_29 (w_free rfl) ⟨p_tmp (g_dep 5 (by kernel_rfl) (at_dep rfl rfl rfl)), p_tmp (g_dep 8 (by kernel_rfl) (at_dep rfl rfl rfl)), trivial⟩ (fun vs w' hb hh => by have e := holds_isV (us := [_, _]) hh; subst e; exact (in_is u.nd ol _).mono fun e w2 h => ⟨_, h.1, rfl, h.2⟩) (at_top rfl)) ?_
     refine bl_cons 11 rfl (isV _) (stab_isV _) (rgV (li := [(63, _)]) rfl (w_free rfl) ⟨g_dep 9 (by kernel_rfl) (at_dep rfl rfl rfl), trivial⟩ (fun w hw => rn_not rfl) (at_top rfl)) ?_
     refine bl_nil ?_
     intro W4 hbR hS'
     clear hS; have hS := hS'; clear hS'
     refine fin_v ?_
     refine fin_v ?_
     refine fin_v ?_
     refine fin_v ?_
     refine fin_v ?_
     refine fin_v ?_
     refine fin_v ?_
     refine fin_v ?_
     refine fin_v ?_
     refine fin_v ?_
     refine fin_v ?_
     refine fin_nil ?_
     refine XF.thenN ?_
     refine condF rfl (fun hc => ?_) (fun hc => ?_)
     ·have hc64 := hc; clear hc
      refine seqF (regF ?_)
      refine op_assign rfl rfl ?_
      refine endF (XF.thenN ?_)
      refine retF ?_
      refine XF.blkR ?_
      refine XF.thenR ?_
      refine XF.thenR ?_
      refine XF.blkR ?_
      refine XF.thenR ?_
      refine XF.res (res1 Try.results16 rfl) ?_
      exact ⟨gr_rint (points_no (g := ⟨va, vl, vc, pa, pl, pc, ea, el, ec, es, xa, xl, xc, xs, mn, oa, ol, oc, os, sa, sl, sc, ss, ta, tl, tc, ts, (some ⟨b, off, none⟩), nl, nc, ns, ka, kl, kc, ks⟩) (gr_all_false_at hy (by simpa using hc64))).symm, hS.below⟩
     ·have hc64 := hc; clear hc
      refine skipF ?_
      refine XF.blkN ?_
      refine XF.thenN ?_
      refine regF ?_
      refine op_move rfl rfl ?_
      refine op_add rfl rfl (IntWalk.i64_in _ (by omega)) rfl ?_
      refine op_assign rfl rfl ?_
      refine endF ?_
      exact XF.round (nl - (i + 1)) [(1, _), (5, _)] (by omega) ⟨rfl, rfl, trivial⟩ ⟨i + 1, by omega, rfl, rfl, gr_all_take_at hy hns (by simpa using hc64), hS.clear⟩
    ·have hc51 := of_decide_eq_false hc; clear hc
     rw [List.take_of_length_le (by omega)] at hns
     refine exitF ?_
     refine XF.thenX ?_
     refine XF.thenX ?_
     refine XF.blkX ?_
     refine XF.thenN ?_
     refine seqF ?_
     refine seqF (regF ?_)
     refine op_assign rfl rfl ?_
     refine endF (XF.thenN ?_)
     refine blockF ?_
     refine loopF (fun m l W => ∃ i : Nat, i ≤ kl ∧ m = kl - i ∧ l = [(1, .pointer (some ⟨B1, 0, none⟩)), (6, .int .i64 (i : Int))] ∧ (ks.take i).all (fun u => gr_inQ u.nd ol && gr_inQ u.x vl) = true ∧ St w [(B1, [.slice va vl vc, .slice pa pl pc, .slice ea el ec, .slice xa xl xc, .int .i64 mn, .slice oa ol oc, .slice sa sl sc, .slice ta tl tc, .slice na nl nc, .slice ka kl kc], 29)] [] [] W) (kl - 0) ([(1, _), (6, _)]) ⟨rfl, rfl, trivial⟩ (⟨0, Nat.zero_le _, rfl, rfl, rfl, hS.clear⟩) ?_
     clear hS
     rintro m l W ⟨i, hi, rfl, rfl, hks, hS⟩
     refine seqF ?_
     refine seqF (regF ?_)
     refine op_move rfl rfl ?_
     refine op_field (o' := 9) gr_fa_29_9 rfl rfl rfl ?_
     refine op_load Try.isAgg27 rfl (cell_own (hS.at_ 0 rfl) rfl) rfl ?_
     refine op_len Try.underlying27 rfl rfl ?_
     refine op_lss rfl rfl rfl ?_
     refine endF (XF.thenN ?_)
     refine condF rfl (fun hc => ?_) (fun hc => ?_)
     ·have hc69 := of_decide_eq_true hc; clear hc
      have hk1 : i < kl := by omega
      obtain ⟨b, off, u, rfl, hy, hyc⟩ := hk.get (i := i) (by omega)
      have k1 := CellsAt.agree hS.agree (Nat.zero_le _) hyc
      refine skipF ?_
      refine XF.thenN ?_
      refine seqF ?_
      refine blockF ?_
      refine seqF ?_
      rcases Bool.eq_false_or_eq_true (gr_inQ u.nd ol) with h50 | h50
      ·skip
       refine regB (m := 24) gr_followsM hS (by kernel_rfl) (by kernel_rfl) rfl ?_
       refine bl_cons 1 rfl (isV _) (stab_isV _) (rgV (li := [(1, _)]) rfl (w_free rfl) ⟨g_fr (by kernel_rfl) rfl, trivial⟩ (fun w hw => rn_field (o' := 9) gr_fa_29_9 rfl rfl) (at_top rfl)) ?_
       refine bl_cons 2 rfl (isV _) (stab_isV _) (rgV (li := [(72, _)]) rfl (w_free rfl) ⟨g_dep 0 (by kernel_rfl) (at_dep rfl rfl rfl), trivial⟩ (fun w hw => rn_load Try.isAgg27 rfl ((below_agree hw 0).cell (Nat.zero_le _) (cell_own (hS.at_ 0 rfl) rfl))) (at_top rfl)) ?_
       refine bl_cons 3 rfl (isV _) (stab_isV _) (rgV (li := [(6, _)]) rfl (w_free rfl) ⟨g_fr (by kernel_rfl) rfl, trivial⟩ (fun w hw => rn_move rfl) (at_top rfl)) ?_
       refine bl_cons 4 rfl (isV _) (stab_isV _) (rgV (li := [(73, _), (74, _)]) rfl (w_free rfl) ⟨g_dep 1 (by kernel_rfl) (at_dep rfl rfl rfl), g_dep 2 (by kernel_rfl) (at_dep rfl rfl rfl), trivial⟩ (fun w hw => rn_indexA  Try.underlying27 Try.sizeOf89 rfl rfl rfl (by omega) rfl) (at_top rfl)) ?_
       refine bl_cons 5 rfl (isV _) (stab_isV _) (rgV (li := [(75, _)]) rfl (w_free rfl) ⟨g_dep 3 (by kernel_rfl) (at_dep rfl rfl rfl), trivial⟩ (fun w hw => rn_field gr_fa_89_1 rfl rfl) (at_top rfl)) ?_
       refine bl_cons 6 rfl (isV _) (stab_isV _) (rgV (li := [(76, _)]) rfl (w_free rfl) ⟨g_dep 4 (by kernel_rfl) (at_dep rfl rfl rfl), trivial⟩ (fun w hw => rn_load Try.isAgg3 rfl ((below_agree hw 0).cell (Nat.zero_le _) (k1.2.1))) (at_top rfl)) ?_
       refine bl_cons 7 rfl (isV _) (stab_isV _) (rgV (li := [(1, _)]) rfl (w_free rfl) ⟨g_fr (by kernel_rfl) rfl, trivial⟩ (fun w hw => rn_field (o' := 5) gr_fa_29_5 rfl rfl) (at_top rfl)) ?_
       refine bl_cons 8 rfl (isV _) (stab_isV _) (rgV (li := [(78, _)]) rfl (w_free rfl) ⟨g_dep 6 (by kernel_rfl) (at_dep rfl rfl rfl), trivial⟩ (fun w hw => rn_load Try.isAgg23 rfl ((below_agree hw 0).cell (Nat.zero_le _) (cell_own (hS.at_ 0 rfl) rfl))) (at_top rfl)) ?_
       refine bl_cons 9 rfl (isV _) (stab_isV _) (rgV (li := [(79, _)]) rfl (w_free rfl) ⟨g_dep 7 (by kernel_rfl) (at_dep rfl rfl rfl), trivial⟩ (fun w hw => rn_len Try.underlying23 rfl) (at_top rfl)) ?_
       refine bl_cons 10 rfl (isV (.bool true)) (stab_isV _) (rg_call [isV _, isV _] rfl gr_goes_29 (w_free rfl) ⟨p_tmp (g_dep 5 (by kernel_rfl) (at_dep rfl rfl rfl)), p_tmp (g_dep 8 (by kernel_rfl) (at_dep rfl rfl rfl)), trivial⟩ (fun vs w' hb hh => by have e := holds_isV (us := [_, _]) hh; subst e; exact (in_is u.nd _ _).mono fun e w2 h => ⟨_, by rw [h.1, h50], rfl, h.2⟩) (at_top rfl)) ?_
       refine bl_cons 11 rfl (isV _) (stab_isV _) (rgV (li := [(81, _)]) rfl (w_free rfl) ⟨g_dep 9 (by kernel_rfl) (at_dep rfl rfl rfl), trivial⟩ (fun w hw => rn_not rfl) (at_top rfl)) ?_
       refine bl_cons 12 rfl (isV _) (stab_isV _) (rgV (li := [(82, _)]) rfl (w_free rfl) ⟨g_dep 10 (by kernel_rfl) (at_dep rfl rfl rfl), trivial⟩ (fun w hw => rn_move rfl) (at_top rfl)) ?_
       refine bl_cons 13 rfl (isV _) (stab_isV _) (rgV (li := [(1, _)]) rfl (w_yes 83 rfl (by kernel_rfl) (by kernel_rfl) (at_dep rfl rfl rfl)) ⟨g_fr (by kernel_rfl) rfl, trivial⟩ (fun w hw => rn_field (o' := 9) gr_fa_29_9 rfl rfl) (at_top rfl)) ?_
       refine bl_cons 14 rfl (isV _) (stab_isV _) (rgV (li := [(84, _)]) rfl (w_yes 83 rfl (by kernel_rfl) (by kernel_rfl) (at_dep rfl rfl rfl)) ⟨g_dep 12 (by kernel_rfl) (at_dep rfl rfl rfl), trivial⟩ (fun w hw => rn_load Try.isAgg27 rfl ((below_agree hw 0).cell (Nat.zero_le _) (cell_own (hS.at_ 0 rfl) rfl))) (at_top rfl)) ?_
       refine bl_cons 15 rfl (isV _) (stab_isV _) (rgV (li := [(6, _)]) rfl (w_yes 83 rfl (by kernel_rfl) (by kernel_rfl) (at_dep rfl rfl rfl)) ⟨g_fr (by kernel_rfl) rfl, trivial⟩ (fun w hw => rn_move rfl) (at_top rfl)) ?_
       refine bl_cons 16 rfl (isV _) (stab_isV _) (rgV (li := [(85, _), (86, _)]) rfl (w_yes 83 rfl (by kernel_rfl) (by kernel_rfl) (at_dep rfl rfl rfl)) ⟨g_dep 13 (by kernel_rfl) (at_dep rfl rfl rfl), g_dep 14 (by kernel_rfl) (at_dep rfl rfl rfl), trivial⟩ (fun w hw => rn_indexA  Try.underlying27 Try.sizeOf89 rfl rfl rfl (by omega) rfl) (at_top rfl)) ?_
       refine bl_cons 17 rfl (isV _) (stab_isV _) (rgV (li := [(87, _)]) rfl (w_yes 83 rfl (by kernel_rfl) (by kernel_rfl) (at_dep rfl rfl rfl)) ⟨g_dep 15 (by kernel_rfl) (at_dep rfl rfl rfl), trivial⟩ (fun w hw => rn_field gr_fa_89_0 rfl (Nat.add_zero _)) (at_top rfl)) ?_
       refine bl_cons 18 rfl (isV _) (stab_isV _) (rgV (li := [(88, _)]) rfl (w_yes 83 rfl (by kernel_rfl) (by kernel_rfl) (at_dep rfl rfl rfl)) ⟨g_dep 16 (by kernel_rfl) (at_dep rfl rfl rfl), trivial⟩ (fun w hw => rn_load Try.isAgg3 rfl ((below_agree hw 0).cell (Nat.zero_le _) (k1.1))) (at_top rfl)) ?_
       refine bl_cons 19 rfl (isV _) (stab_isV _) (rgV (li := [(1, _)]) rfl (w_yes 83 rfl (by kernel_rfl) (by kernel_rfl) (at_dep rfl rfl rfl)) ⟨g_fr (by kernel_rfl) rfl, trivial⟩ (fun w hw => rn_field (o' := 0) gr_fa_29_0 rfl rfl) (at_top rfl)) ?_
       refine bl_cons 20 rfl (isV _) (stab_isV _) (rgV (li := [(90, _)]) rfl (w_yes 83 rfl (by kernel_rfl) (by kernel_rfl) (at_dep rfl rfl rfl)) ⟨g_dep 18 (by kernel_rfl) (at_dep rfl rfl rfl), trivial⟩ (fun w hw => rn_load Try.isAgg22 rfl ((below_agree hw 0).cell (Nat.zero_le _) (cell_own (hS.at_ 0 rfl) rfl))) (at_top rfl)) ?_
       refine bl_cons 21 rfl (isV _) (stab_isV _) (rgV (li := [(91, _)]) rfl (w_yes 83 rfl (by kernel_rfl) (by kernel_rfl) (at_dep rfl rfl rfl)) ⟨g_dep 19 (by kernel_rfl) (at_dep rfl rfl rfl), trivial⟩ (fun w hw => rn_len Try.underlying22 rfl) (at_top rfl)) ?_
       refine bl_cons 22 rfl (isV (.bool (gr_inQ u.x vl))) (stab_isV _) (rg_call [isV _, isV _] rfl gr_goes_29 (w_yes 83 rfl (by kernel_rfl) (by kernel_rfl) (at_dep rfl rfl rfl)) ⟨p_tmp (g_dep 17 (by kernel_rfl) (at_dep rfl rfl rfl)), p_tmp (g_dep 20 (by kernel_rfl) (at_dep rfl rfl rfl)), trivial⟩ (fun vs w' hb hh => by have e := holds_isV (us := [_, _]) hh; subst e; exact (in_is u.x vl _).mono fun e w2 h => ⟨_, h.1, rfl, h.2⟩) (at_top rfl)) ?_
       refine bl_cons 23 rfl (isV _) (stab_isV _) (rgV (li := [(93, _)]) rfl (w_yes 83 rfl (by kernel_rfl) (by kernel_rfl) (at_dep rfl rfl rfl)) ⟨g_dep 21 (by kernel_rfl) (at_dep rfl rfl rfl), trivial⟩ (fun w hw => rn_not rfl) (at_top rfl)) ?_
       refine bl_cons 24 rfl (isV _) (stab_isV _) (rgV (li := [(83, _), (94, _)]) rfl (w_free rfl) ⟨g_dep 11 (by kernel_rfl) (at_dep rfl rfl rfl), g_dep 22 (by kernel_rfl) (at_dep rfl rfl rfl), trivial⟩ (fun w hw => rn_pickF rfl rfl) (at_top rfl)) ?_
       refine bl_nil ?_
       intro W5 hbR hS'
       clear hS; have hS := hS'; clear hS'
       refine fin_v ?_
       refine fin_v ?_
       refine fin_v ?_
       refine fin_v ?_
       refine fin_v ?_
       refine fin_v ?_
       refine fin_v ?_
       refine fin_v ?_
       refine fin_v ?_
       refine fin_v ?_
       refine fin_v ?_
       refine fin_v ?_
       refine fin_v ?_
       refine fin_v ?_
       refine fin_v ?_
       refine fin_v ?_
       refine fin_v ?_
       refine fin_v ?_
       refine fin_v ?_
       refine fin_v ?_
       refine fin_v ?_
       refine fin_v ?_
       refine fin_v ?_
       refine fin_v ?_
       refine fin_nil ?_
       refine XF.thenN ?_
       refine condF rfl (fun hc => ?_) (fun hc => ?_)
       ·have hc95 := hc; clear hc
        refine seqF (regF ?_)
        refine op_assign rfl rfl ?_
        refine endF (XF.thenN ?_)
        refine retF ?_
        refine XF.blkR ?_
        refine XF.thenR ?_
        refine XF.thenR ?_
        refine XF.blkR ?_
        refine XF.thenR ?_
        refine XF.res (res1 Try.results16 rfl) ?_
        exact ⟨gr_rint (sinks_no (g := ⟨va, vl, vc, pa, pl, pc, ea, el, ec, es, xa, xl, xc, xs, mn, oa, ol, oc, os, sa, sl, sc, ss, ta, tl, tc, ts, na, nl, nc, ns, (some ⟨b, off, none⟩), kl, kc, ks⟩) (gr_all_false_at hy (by rw [h50, show gr_inQ u.x vl = false by simpa using hc95]; rfl))).symm, hS.below⟩
       ·have hc95 := hc; clear hc
        refine skipF ?_
        refine XF.blkN ?_
        refine XF.thenN ?_
        refine regF ?_
        refine op_move rfl rfl ?_
        refine op_add rfl rfl (IntWalk.i64_in _ (by omega)) rfl ?_
        refine op_assign rfl rfl ?_
        refine endF ?_
        exact XF.round (kl - (i + 1)) [(1, _), (6, _)] (by omega) ⟨rfl, rfl, trivial⟩ ⟨i + 1, by omega, rfl, rfl, gr_all_take_at hy hks (by rw [h50, show gr_inQ u.x vl = true by simpa using hc95]; rfl), hS.clear⟩
      ·skip
       refine regB (m := 24) gr_followsM hS (by kernel_rfl) (by kernel_rfl) rfl ?_
       refine bl_cons 1 rfl (isV _) (stab_isV _) (rgV (li := [(1, _)]) rfl (w_free rfl) ⟨g_fr (by kernel_rfl) rfl, trivial⟩ (fun w hw => rn_field (o' := 9) gr_fa_29_9 rfl rfl) (at_top rfl)) ?_
       refine bl_cons 2 rfl (isV _) (stab_isV _) (rgV (li := [(72, _)]) rfl (w_free rfl) ⟨g_dep 0 (by kernel_rfl) (at_dep rfl rfl rfl), trivial⟩ (fun w hw => rn_load Try.isAgg27 rfl ((below_agree hw 0).cell (Nat.zero_le _) (cell_own (hS.at_ 0 rfl) rfl))) (at_top rfl)) ?_
       refine bl_cons 3 rfl (isV _) (stab_isV _) (rgV (li := [(6, _)]) rfl (w_free rfl) ⟨g_fr (by kernel_rfl) rfl, trivial⟩ (fun w hw => rn_move rfl) (at_top rfl)) ?_
       refine bl_cons 4 rfl (isV _) (stab_isV _) (rgV (li := [(73, _), (74, _)]) rfl (w_free rfl) ⟨g_dep 1 (by kernel_rfl) (at_dep rfl rfl rfl), g_dep 2 (by kernel_rfl) (at_dep rfl rfl rfl), trivial⟩ (fun w hw => rn_indexA  Try.underlying27 Try.sizeOf89 rfl rfl rfl (by omega) rfl) (at_top rfl)) ?_
       refine bl_cons 5 rfl (isV _) (stab_isV _) (rgV (li := [(75, _)]) rfl (w_free rfl) ⟨g_dep 3 (by kernel_rfl) (at_dep rfl rfl rfl), trivial⟩ (fun w hw => rn_field gr_fa_89_1 rfl rfl) (at_top rfl)) ?_
       refine bl_cons 6 rfl (isV _) (stab_isV _) (rgV (li := [(76, _)]) rfl (w_free rfl) ⟨g_dep 4 (by kernel_rfl) (at_dep rfl rfl rfl), trivial⟩ (fun w hw => rn_load Try.isAgg3 rfl ((below_agree hw 0).cell (Nat.zero_le _) (k1.2.1))) (at_top rfl)) ?_
       refine bl_cons 7 rfl (isV _) (stab_isV _) (rgV (li := [(1, _)]) rfl (w_free rfl) ⟨g_fr (by kernel_rfl) rfl, trivial⟩ (fun w hw => rn_field (o' := 5) gr_fa_29_5 rfl rfl) (at_top rfl)) ?_
       refine bl_cons 8 rfl (isV _) (stab_isV _) (rgV (li := [(78, _)]) rfl (w_free rfl) ⟨g_dep 6 (by kernel_rfl) (at_dep rfl rfl rfl), trivial⟩ (fun w hw => rn_load Try.isAgg23 rfl ((below_agree hw 0).cell (Nat.zero_le _) (cell_own (hS.at_ 0 rfl) rfl))) (at_top rfl)) ?_
       refine bl_cons 9 rfl (isV _) (stab_isV _) (rgV (li := [(79, _)]) rfl (w_free rfl) ⟨g_dep 7 (by kernel_rfl) (at_dep rfl rfl rfl), trivial⟩ (fun w hw => rn_len Try.underlying23 rfl) (at_top rfl)) ?_
       refine bl_cons 10 rfl (isV (.bool false)) (stab_isV _) (rg_call [isV _, isV _] rfl gr_goes_29 (w_free rfl) ⟨p_tmp (g_dep 5 (by kernel_rfl) (at_dep rfl rfl rfl)), p_tmp (g_dep 8 (by kernel_rfl) (at_dep rfl rfl rfl)), trivial⟩ (fun vs w' hb hh => by have e := holds_isV (us := [_, _]) hh; subst e; exact (in_is u.nd _ _).mono fun e w2 h => ⟨_, by rw [h.1, h50], rfl, h.2⟩) (at_top rfl)) ?_
       refine bl_cons 11 rfl (isV _) (stab_isV _) (rgV (li := [(81, _)]) rfl (w_free rfl) ⟨g_dep 9 (by kernel_rfl) (at_dep rfl rfl rfl), trivial⟩ (fun w hw => rn_not rfl) (at_top rfl)) ?_
       refine bl_cons 12 rfl (isV _) (stab_isV _) (rgV (li := [(82, _)]) rfl (w_free rfl) ⟨g_dep 10 (by kernel_rfl) (at_dep rfl rfl rfl), trivial⟩ (fun w hw => rn_move rfl) (at_top rfl)) ?_
       refine bl_cons 13 rfl (isV undef) (stab_isV _) (rg_no rfl (w_no 83 rfl (by kernel_rfl) (by kernel_rfl) (at_dep rfl rfl rfl) rfl) (at_top rfl)) ?_
       refine bl_cons 14 rfl (isV undef) (stab_isV _) (rg_no rfl (w_no 83 rfl (by kernel_rfl) (by kernel_rfl) (at_dep rfl rfl rfl) rfl) (at_top rfl)) ?_
       refine bl_cons 15 rfl (isV undef) (stab_isV _) (rg_no rfl (w_no 83 rfl (by kernel_rfl) (by kernel_rfl) (at_dep rfl rfl rfl) rfl) (at_top rfl)) ?_
       refine bl_cons 16 rfl (isV undef) (stab_isV _) (rg_no rfl (w_no 83 rfl (by kernel_rfl) (by kernel_rfl) (at_dep rfl rfl rfl) rfl) (at_top rfl)) ?_
       refine bl_cons 17 rfl (isV undef) (stab_isV _) (rg_no rfl (w_no 83 rfl (by kernel_rfl) (by kernel_rfl) (at_dep rfl rfl rfl) rfl) (at_top rfl)) ?_
       refine bl_cons 18 rfl (isV undef) (stab_isV _) (rg_no rfl (w_no 83 rfl (by kernel_rfl) (by kernel_rfl) (at_dep rfl rfl rfl) rfl) (at_top rfl)) ?_
       refine bl_cons 19 rfl (isV undef) (stab_isV _) (rg_no rfl (w_no 83 rfl (by kernel_rfl) (by kernel_rfl) (at_dep rfl rfl rfl) rfl) (at_top rfl)) ?_
       refine bl_cons 20 rfl (isV undef) (stab_isV _) (rg_no rfl (w_no 83 rfl (by kernel_rfl) (by kernel_rfl) (at_dep rfl rfl rfl) rfl) (at_top rfl)) ?_
       refine bl_cons 21 rfl (isV undef) (stab_isV _) (rg_no rfl (w_no 83 rfl (by kernel_rfl) (by kernel_rfl) (at_dep rfl rfl rfl) rfl) (at_top rfl)) ?_
       refine bl_cons 22 rfl (isV undef) (stab_isV _) (rg_no rfl (w_no 83 rfl (by kernel_rfl) (by kernel_rfl) (at_dep rfl rfl rfl) rfl) (at_top rfl)) ?_
       refine bl_cons 23 rfl (isV undef) (stab_isV _) (rg_no rfl (w_no 83 rfl (by kernel_rfl) (by kernel_rfl) (at_dep rfl rfl rfl) rfl) (at_top rfl)) ?_
       refine bl_cons 24 rfl (isV _) (stab_isV _) (rgV (li := [(83, _)]) rfl (w_free rfl) ⟨g_dep 11 (by kernel_rfl) (at_dep rfl rfl rfl), trivial⟩ (fun w hw => rn_pickT rfl rfl) (at_top rfl)) ?_
       refine bl_nil ?_
       intro W6 hbR hS'
       clear hS; have hS := hS'; clear hS'
       refine fin_v ?_
       refine fin_v ?_
       refine fin_v ?_
       refine fin_v ?_
       refine fin_v ?_
       refine fin_v ?_
       refine fin_v ?_
       refine fin_v ?_
       refine fin_v ?_
       refine fin_v ?_
       refine fin_v ?_
       refine fin_v ?_
       refine fin_v ?_
       refine fin_v ?_
       refine fin_v ?_
       refine fin_v ?_
       refine fin_v ?_
       refine fin_v ?_
       refine fin_v ?_
       refine fin_v ?_
       refine fin_v ?_
       refine fin_v ?_
       refine fin_v ?_
       refine fin_v ?_
       refine fin_nil ?_
       refine XF.thenN ?_
       refine condT rfl ?_
       refine seqF (regF ?_)
       refine op_assign rfl rfl ?_
       refine endF (XF.thenN ?_)
       refine retF ?_
       refine XF.blkR ?_
       refine XF.thenR ?_
       refine XF.thenR ?_
       refine XF.blkR ?_
       refine XF.thenR ?_
       refine XF.res (res1 Try.results16 rfl) ?_
       exact ⟨gr_rint (sinks_no (g := ⟨va, vl, vc, pa, pl, pc, ea, el, ec, es, xa, xl, xc, xs, mn, oa, ol, oc, os, sa, sl, sc, ss, ta, tl, tc, ts, na, nl, nc, ns, (some ⟨b, off, none⟩), kl, kc, ks⟩) (gr_all_false_at hy (by rw [h50]; rfl))).symm, hS.below⟩
     ·have hc69 := of_decide_eq_false hc; clear hc
      rw [List.take_of_length_le (by omega)] at hks
      refine exitF ?_
      refine XF.thenX ?_
      refine XF.thenX ?_
      refine XF.blkX ?_
      refine XF.thenN ?_
      refine seqF (regF ?_)
      refine op_assign rfl rfl ?_
      refine endF (XF.thenN ?_)
      refine retF ?_
      refine XF.res (res1 Try.results16 rfl) ?_
      exact ⟨gr_rint (check_yes (g := ⟨va, vl, vc, pa, pl, pc, ea, el, ec, es, xa, xl, xc, xs, mn, oa, ol, oc, os, sa, sl, sc, ss, ta, tl, tc, ts, na, nl, nc, ns, ka, kl, kc, ks⟩) hhd hst hns hks).symm, hS.below⟩
end Go.Proofs.Ythepjghlipdcoaa
