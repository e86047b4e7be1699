import Derived.Orders
import Derived.Below
import Derived.Deep.RegionHeld
import Derived.WalkKit
import Derived.KernelRfl
import Derived.Laws.Rows
import Derived.Laws.AppendOwn
import Derived.Laws.Strings
import Derived.Laws.Small
import Derived.Lib.Hide
import Derived.IntWalk
import Derived.Laws.Tables
import Derived.Laws.Concat
import Derived.Laws.MakeOwn
import Derived.Test.YtpkcaabbcoiiiaaProg
import Derived.Lib.TrailingZeros
import Derived.Test.YtpkcaabbcoiiiaaRows
import Derived.Lib.LaidTab
import Derived.Lib.ItoaNum
import Derived.Stop.LaidErr
import Derived.WalkSmall
import Derived.LaidMore
import Derived.Shelf.Spec.TrailingZeros
import Derived.Laws.BitsAllLaws
import Derived.Laws.Bits64
import Derived.Deep.QuietTactic
import Derived.BigQuiet
import Derived.RegionTactic
import Derived.BigRegion
import Derived.Deep.RegionHeld3
import Derived.ChangeAlike
import Derived.Laws.Bits128
import Derived.Deep.AppendLies
import Derived.Sort.Grow
import Derived.RangeFuncNested
import Derived.RangeFuncBound
import Derived.RangeFuncCalls
import Derived.RangeFuncLeaves
import Derived.Shelf.Abstract
import Derived.Shelf.RegionOpen
import Derived.OwnWalkIn
import Derived.TacticsInMore
import Derived.LoopNIn
import Derived.LoopIn
import Derived.Maps.AppendAt
import Derived.Ground.Names2Prog
import Derived.Shelf.Slices.Clone
import Derived.Lib.OthersKept
import Derived.Laws.IdiomStrings
import Derived.StillTailTactics
import Derived.Deep.RegionLaw
import Derived.Deep.DeepCutAuto
import Derived.Deep.CutRange
import Derived.Deep.RegionWith
import Derived.Laws.Bits64b
import Derived.Deep.DrawnRows
import Derived.Lib.SliceRun
import Derived.Laws.OwnMore
import Derived.OwnWalk
import Derived.WalkSpells
import Derived.Lib.Join
import Derived.Lib.OwnBridge
import Derived.WideKeyEntry
import Derived.DeepKeys4
import Derived.Lib.AppendZeros
import Derived.Lib.ItoaLen
import Derived.Lib.UnsafeStr
import Derived.Lib.AppendIntMem
import Derived.Test.YtpkcaabbcoiiiaaQcA
import Derived.Test.YtpkcaabbcoiiiaaQcB
set_option maxRecDepth 100000
set_option maxHeartbeats 4000000
set_option linter.unusedVariables false
set_option linter.unusedVariables false
set_option linter.unusedSimpArgs false
set_option linter.unusedSectionVars false
set_option linter.unnecessarySimpa false
namespace Go.Proofs.Ytpkcaabbcoiiiaa
open Go Go.RowKit
def eqS : Nat → SV → SV → Bool
 | 0, _, _ => false
 | k + 1, .mk f ps, .mk g qs => decide (f.tag = g.tag) && (decide (f.dim = g.dim) && (decide (ps.length = qs.length) && (ps.zip qs).all fun x => eqS k x.1 x.2))
theorem smS_succ {j : Nat} {f : SF} {ps : List SV} (h : smS (j + 1) (.mk f ps) = true) : f.len ≤ 3 ∧ ∀ p ∈ ps, smS j p = true := by
 simp only [smS, Bool.and_eq_true, decide_eq_true_eq, List.all_eq_true] at h
 exact h
theorem sameSpaceR_step (k j : Nat) (t n u m : Int) (pa qa : Option Addr) (pl ql pc qc : Nat) (ps qs : List SV) (w : World) (hps : ps.length = pl) (hqs : qs.length = ql) (hrow : SRow w pa ps) (hrow2 : SRow w qa qs) (hin : ∀ p ∈ ps, SIn w k p) (hin2 : ∀ p ∈ qs, SIn w k p) (hpl : pl ≤ 9223372036854775807) (hsm : ∀ p ∈ ps, smS j p = true) (ih : ∀ (p q : SV) (W : World), SIn W k p → SIn W k q → smS j p = true → Calls Try.prog 43 #[p.f.val, q.f.val] W fun e w' => e = .returned (.bool (eqS k p q)) ∧ Below W.heap.size W w') :
  Calls Try.prog 43 #[.agg #[.int .i64 t, .int .i64 n, .slice pa pl pc], .agg #[.int .i64 u, .int .i64 m, .slice qa ql qc]] w (fun e w' => e = .returned (.bool (eqS (k + 1) (.mk ⟨t, n, pa, pl, pc⟩ ps) (.mk ⟨u, m, qa, ql, qc⟩ qs))) ∧ Below w.heap.size w w') := by
 refine enterF (args := [.agg #[.int .i64 t, .int .i64 n, .slice pa pl pc], .agg #[.int .i64 u, .int .i64 m, .slice qa ql qc]]) Try.func43 rfl Try.ntmps43 rfl ?_
 have hS := St.start w
 refine seqF (regF ?_)
 refine op_box (cs := [_, _, _]) hS rfl rfl rfl ?_
 clear hS; intro B1 W1 hS
 refine op_box (cs := [_, _, _]) hS rfl rfl rfl ?_
 clear hS; intro B2 W2 hS
 refine op_assign rfl rfl ?_
 refine endF (XF.thenN ?_)
 refine seqF ?_
 refine seqF (regF ?_)
 refine op_field (o' := 0) fa_25_0 rfl rfl rfl ?_
 refine op_load Try.isAgg22 rfl (cell_own (hS.at_ 1 rfl) rfl) rfl ?_
 refine op_field (o' := 0) fa_25_0 rfl rfl rfl ?_
 refine op_load Try.isAgg22 rfl (cell_own (hS.at_ 0 rfl) rfl) rfl ?_
 refine op_neq rfl rfl rfl ?_
 refine op_move rfl rfl ?_
 refine op_cases (d := 11) rfl (fun hc => ?_) (fun hc => ?_)
 ·have hg11 := of_decide_eq_true hc; clear hc
  refine op_notF (d := 11) rfl rfl rfl rfl ?_
  refine op_notF (d := 11) rfl rfl rfl rfl ?_
  refine op_notF (d := 11) rfl rfl rfl rfl ?_
  refine op_notF (d := 11) rfl rfl rfl rfl ?_
  refine op_notF (d := 11) rfl rfl rfl rfl ?_
  refine op_pickT rfl rfl rfl ?_
  refine op_move rfl rfl ?_
  refine op_notF (d := 18) rfl rfl rfl rfl ?_
  refine op_notF (d := 18) rfl rfl rfl rfl ?_
  refine op_notF (d := 18) rfl rfl rfl rfl ?_
  refine op_notF (d := 18) rfl rfl rfl rfl ?_
  refine op_notF (d := 18) rfl rfl rfl rfl ?_
  refine op_notF (d := 18) rfl rfl rfl rfl ?_
  refine op_notF (d := 18) rfl rfl rfl rfl ?_
  refine op_pickT rfl rfl rfl ?_
  refine endF (XF.thenN ?_)
  refine condT rfl ?_
  refine seqF (regF ?_)
  refine op_assign rfl rfl ?_
  refine endF (XF.thenN ?_)
  refine retF ?_
  refine XF.thenR ?_
  refine XF.res (res1 Try.results43 rfl) ?_
  exact ⟨rbool (by simp only [eqS]; rw [decide_eq_false (show ¬ t = u by omega)]; rfl), hS.below⟩
 ·have hg11 := of_decide_eq_false hc; clear hc
  refine op_wantedF (d := 11) rfl rfl ?_
  refine op_field (o' := 1) fa_25_1 rfl rfl rfl ?_
  refine op_wantedF (d := 11) rfl rfl ?_
  refine op_load Try.isAgg3 rfl (cell_own (hS.at_ 1 rfl) rfl) rfl ?_
  refine op_wantedF (d := 11) rfl rfl ?_
  refine op_field (o' := 1) fa_25_1 rfl rfl rfl ?_
  refine op_wantedF (d := 11) rfl rfl ?_
  refine op_load Try.isAgg3 rfl (cell_own (hS.at_ 0 rfl) rfl) rfl ?_
  refine op_wantedF (d := 11) rfl rfl ?_
  refine op_neq rfl rfl rfl ?_
  refine op_pickF rfl rfl rfl ?_
  refine op_move rfl rfl ?_
  refine op_cases (d := 18) rfl (fun hc => ?_) (fun hc => ?_)
  ·have hg18 := of_decide_eq_true hc; clear hc
   refine op_notF (d := 18) rfl rfl rfl rfl ?_
   refine op_notF (d := 18) rfl rfl rfl rfl ?_
   refine op_notF (d := 18) rfl rfl rfl rfl ?_
   refine op_notF (d := 18) rfl rfl rfl rfl ?_
   refine op_notF (d := 18) rfl rfl rfl rfl ?_
   refine op_notF (d := 18) rfl rfl rfl rfl ?_
   refine op_notF (d := 18) rfl rfl rfl rfl ?_
   refine op_pickT rfl rfl rfl ?_
   refine endF (XF.thenN ?_)
   refine condT rfl ?_
   refine seqF (regF ?_)
   refine op_assign rfl rfl ?_
   refine endF (XF.thenN ?_)
   refine retF ?_
   refine XF.thenR ?_
   refine XF.res (res1 Try.results43 rfl) ?_
   exact ⟨rbool (by simp only [eqS]; rw [decide_eq_false (show ¬ n = m by omega)]; simp), hS.below⟩
  ·have hg18 := of_decide_eq_false hc; clear hc
   refine op_wantedF (d := 18) rfl rfl ?_
   refine op_field (o' := 2) fa_25_2 rfl rfl rfl ?_
   refine op_wantedF (d := 18) rfl rfl ?_
   refine op_load Try.isAgg23 rfl (cell_own (hS.at_ 1 rfl) rfl) rfl ?_
   refine op_wantedF (d := 18) rfl rfl ?_
   refine op_len Try.underlying23 rfl rfl ?_
   refine op_wantedF (d := 18) rfl rfl ?_
   refine op_field (o' := 2) fa_25_2 rfl rfl rfl ?_
   refine op_wantedF (d := 18) rfl rfl ?_
   refine op_load Try.isAgg23 rfl (cell_own (hS.at_ 0 rfl) rfl) rfl ?_
   refine op_wantedF (d := 18) rfl rfl ?_
   refine op_len Try.underlying23 rfl rfl ?_
   refine op_wantedF (d := 18) rfl rfl ?_
   refine op_neq rfl rfl rfl ?_
   refine op_pickF rfl rfl rfl ?_
   refine endF (XF.thenN ?_)
   refine condF rfl (fun hc => ?_) (fun hc => ?_)
   ·have hc26 := of_decide_eq_true hc; clear hc
    refine seqF (regF ?_)
    refine op_assign rfl rfl ?_
    refine endF (XF.thenN ?_)
    refine retF ?_
    refine XF.thenR ?_
    refine XF.res (res1 Try.results43 rfl) ?_
    exact ⟨rbool (by simp only [eqS]; rw [decide_eq_false (show ¬ ps.length = qs.length by omega)]; simp), hS.below⟩
   ·have hc26 := of_decide_eq_false hc; clear hc
    refine skipF ?_
    refine XF.thenN ?_
    refine seqF ?_
    refine seqF (regF ?_)
    refine op_assign rfl rfl ?_
    refine endF (XF.thenN ?_)
    refine blockF ?_
    refine loopF (fun q l W => ∃ i : Nat, i ≤ pl ∧ q = pl - i ∧ l = [(2, .pointer (some ⟨B1, 0, none⟩)), (3, .pointer (some ⟨B2, 0, none⟩)), (5, .int .i64 (i : Int))] ∧ ((ps.zip qs).take i).all (fun x => eqS k x.1 x.2) = true ∧ St w [(B2, [.int .i64 u, .int .i64 m, .slice qa ql qc], 25), (B1, [.int .i64 t, .int .i64 n, .slice pa pl pc], 25)] [] [] W) (pl - 0) ([(2, _), (3, _), (5, _)]) ⟨rfl, rfl, rfl, trivial⟩ (⟨0, Nat.zero_le _, rfl, rfl, rfl, hS.clear⟩) ?_
    clear hS
    rintro q l W ⟨i, hi, rfl, rfl, hall, hS⟩
    refine seqF ?_
    refine seqF (regF ?_)
    refine op_move rfl rfl ?_
    refine op_field (o' := 2) fa_25_2 rfl rfl rfl ?_
    refine op_load Try.isAgg23 rfl (cell_own (hS.at_ 1 rfl) rfl) rfl ?_
    refine op_len Try.underlying23 rfl rfl ?_
    refine op_lss rfl rfl rfl ?_
    refine endF (XF.thenN ?_)
    refine condF rfl (fun hc => ?_) (fun hc => ?_)
    ·have hc31 := of_decide_eq_true hc; clear hc
     have hk : i < pl := by omega
     obtain ⟨p, hp⟩ : ∃ p, ps[i]? = some p := ⟨ps[i]'(by omega), List.getElem?_eq_getElem _⟩
     obtain ⟨q, hq⟩ : ∃ q, qs[i]? = some q := ⟨qs[i]'(by omega), List.getElem?_eq_getElem _⟩
     have hz : (ps.zip qs)[i]? = some (p, q) := List.getElem?_zip_eq_some.2 ⟨hp, hq⟩
     obtain ⟨b, off, rfl, hb, h6⟩ := hrow.at_ hp
     obtain ⟨b2, off2, rfl, hb2, h7⟩ := hrow2.at_ hq
     have k1 := CellsAt.agree hS.agree (Nat.zero_le _) h6.cells
     have k2 := CellsAt.agree hS.agree (Nat.zero_le _) h7.cells
     refine skipF ?_
     refine XF.thenN ?_
     refine seqF ?_
     refine blockF ?_
     refine seqF ?_
     refine regB (m := 12) followsM hS (by kernel_rfl) (by kernel_rfl) rfl ?_
     refine bl_cons 1 rfl (isV _) (stab_isV _) (rgV (li := [(2, _)]) rfl (w_free rfl) ⟨g_fr (by kernel_rfl) rfl, trivial⟩ (fun w hw => rn_field (o' := 2) fa_25_2 rfl rfl) (at_top rfl)) ?_
     refine bl_cons 2 rfl (isV _) (stab_isV _) (rgV (li := [(34, _)]) rfl (w_free rfl) ⟨g_dep 0 (by kernel_rfl) (at_dep rfl rfl rfl), trivial⟩ (fun w hw => rn_load Try.isAgg23 rfl ((below_agree hw 0).cell (Nat.zero_le _) (cell_own (hS.at_ 1 rfl) rfl))) (at_top rfl)) ?_
     refine bl_cons 3 rfl (isV _) (stab_isV _) (rgV (li := [(5, _)]) rfl (w_free rfl) ⟨g_fr (by kernel_rfl) rfl, trivial⟩ (fun w hw => rn_move rfl) (at_top rfl)) ?_
     refine bl_cons 4 rfl (isV _) (stab_isV _) (rgV (li := [(35, _), (36, _)]) rfl (w_free rfl) ⟨g_dep 1 (by kernel_rfl) (at_dep rfl rfl rfl), g_dep 2 (by kernel_rfl) (at_dep rfl rfl rfl), trivial⟩ (fun w hw => rn_indexA  Try.underlying23 Try.sizeOf25 rfl rfl rfl (by omega) rfl) (at_top rfl)) ?_
     refine bl_cons 5 rfl (isV _) (stab_isV _) (rgV (li := [(37, _)]) rfl (w_free rfl) ⟨g_dep 3 (by kernel_rfl) (at_dep rfl rfl rfl), trivial⟩ (fun w hw => rn_loadA (vs := [_, _, _]) Try.isAgg25 Try.sizeOf25 rfl (CellsAt.agree (below_agree hw 0) (Nat.zero_le _) (by assumption))) (at_top rfl)) ?_
     refine bl_cons 6 rfl (isV _) (stab_isV _) (rgV (li := [(3, _)]) rfl (w_free rfl) ⟨g_fr (by kernel_rfl) rfl, trivial⟩ (fun w hw => rn_field (o' := 2) fa_25_2 rfl rfl) (at_top rfl)) ?_
     refine bl_cons 7 rfl (isV _) (stab_isV _) (rgV (li := [(39, _)]) rfl (w_free rfl) ⟨g_dep 5 (by kernel_rfl) (at_dep rfl rfl rfl), trivial⟩ (fun w hw => rn_load Try.isAgg23 rfl ((below_agree hw 0).cell (Nat.zero_le _) (cell_own (hS.at_ 0 rfl) rfl))) (at_top rfl)) ?_
     refine bl_cons 8 rfl (isV _) (stab_isV _) (rgV (li := [(5, _)]) rfl (w_free rfl) ⟨g_fr (by kernel_rfl) rfl, trivial⟩ (fun w hw => rn_move rfl) (at_top rfl)) ?_
     refine bl_cons 9 rfl (isV _) (stab_isV _) (rgV (li := [(40, _), (41, _)]) rfl (w_free rfl) ⟨g_dep 6 (by kernel_rfl) (at_dep rfl rfl rfl), g_dep 7 (by kernel_rfl) (at_dep rfl rfl rfl), trivial⟩ (fun w hw => rn_indexA  Try.underlying23 Try.sizeOf25 rfl rfl rfl (by omega) rfl) (at_top rfl)) ?_
     refine bl_cons 10 rfl (isV _) (stab_isV _) (rgV (li := [(42, _)]) rfl (w_free rfl) ⟨g_dep 8 (by kernel_rfl) (at_dep rfl rfl rfl), trivial⟩ (fun w hw => rn_loadA (vs := [_, _, _]) Try.isAgg25 Try.sizeOf25 rfl (CellsAt.agree (below_agree hw 0) (Nat.zero_le _) (by assumption))) (at_top rfl)) ?_
     refine bl_cons 11 rfl (isV (.bool (eqS k p q))) (stab_isV _) (rg_call [isV _, isV _] rfl goes_43 (w_free rfl) ⟨p_tmp (g_dep 4 (by kernel_rfl) (at_dep rfl rfl rfl)), p_tmp (g_dep 9 (by kernel_rfl) (at_dep rfl rfl rfl)), trivial⟩ (fun vs w' hb hh => by have e := holds_isV (us := [_, _]) hh; subst e; exact (ih p q _ (SIn.below (hS.below.trans (hb.mono hS.below.size)) (hin p (List.mem_of_getElem? hp))) (SIn.below (hS.below.trans (hb.mono hS.below.size)) (hin2 q (List.mem_of_getElem? hq))) (hsm p (List.mem_of_getElem? hp))).mono fun e w2 h => ⟨_, h.1, rfl, h.2⟩) (at_top rfl)) ?_
     refine bl_cons 12 rfl (isV _) (stab_isV _) (rgV (li := [(44, _)]) rfl (w_free rfl) ⟨g_dep 10 (by kernel_rfl) (at_dep rfl rfl rfl), trivial⟩ (fun w hw => rn_not rfl) (at_top rfl)) ?_
     refine bl_nil ?_
     intro W3 hbR hS'
     clear hS; have hS := hS'; clear hS'
     refine fin_v ?_
     refine fin_v ?_
     refine fin_v ?_
     refine fin_v ?_
     refine fin_v ?_
     refine fin_v ?_
     refine fin_v ?_
     refine fin_v ?_
     refine fin_v ?_
     refine fin_v ?_
     refine fin_v ?_
     refine fin_v ?_
     refine fin_nil ?_
     refine XF.thenN ?_
     refine condF rfl (fun hc => ?_) (fun hc => ?_)
     ·have hc45 := hc; clear hc
      refine seqF (regF ?_)
      refine op_assign rfl rfl ?_
      refine endF (XF.thenN ?_)
      refine retF ?_
      refine XF.blkR ?_
      refine XF.thenR ?_
      refine XF.thenR ?_
      refine XF.blkR ?_
      refine XF.thenR ?_
      refine XF.res (res1 Try.results43 rfl) ?_
      exact ⟨rbool (by simp only [eqS]; rw [all_false_at hz (by simpa using hc45)]; simp), hS.below⟩
     ·have hc45 := hc; clear hc
      refine skipF ?_
      refine XF.blkN ?_
      refine XF.thenN ?_
      refine regF ?_
      refine op_move rfl rfl ?_
      refine op_add rfl rfl (IntWalk.i64_in _ (by omega)) rfl ?_
      refine op_assign rfl rfl ?_
      refine endF ?_
      exact XF.round (pl - (i + 1)) [(2, _), (3, _), (5, _)] (by omega) ⟨rfl, rfl, rfl, trivial⟩ ⟨i + 1, by omega, rfl, rfl, all_take_at hz hall (by simpa using hc45), hS.clear⟩
    ·have hc31 := of_decide_eq_false hc; clear hc
     refine exitF ?_
     refine XF.thenX ?_
     refine XF.thenX ?_
     refine XF.blkX ?_
     refine XF.thenN ?_
     refine seqF (regF ?_)
     refine op_assign rfl rfl ?_
     refine endF (XF.thenN ?_)
     refine retF ?_
     refine XF.res (res1 Try.results43 rfl) ?_
     rw [List.take_of_length_le (by rw [List.length_zip]; omega)] at hall
     exact ⟨rbool (by simp only [eqS]; rw [hall, decide_eq_true (show t = u by omega), decide_eq_true (show n = m by omega), decide_eq_true (show ps.length = qs.length by omega)]; rfl), hS.below⟩
theorem equalS_is (k j : Nat) (pa qa : Option Addr) (pl ql pc qc : Nat) (ps qs : List SV) (w : World) (hps : ps.length = pl) (hqs : qs.length = ql) (hrow : SRow w pa ps) (hrow2 : SRow w qa qs) (hin : ∀ p ∈ ps, SIn w k p) (hin2 : ∀ p ∈ qs, SIn w k p) (hpl : pl ≤ 9223372036854775807) (hsm : ∀ p ∈ ps, smS j p = true) (ih : ∀ (p q : SV) (W : World), SIn W k p → SIn W k q → smS j p = true → Calls Try.prog 40 #[p.f.val, q.f.val] W fun e w' => e = .returned (.bool (eqS k p q)) ∧ Below W.heap.size W w') :
  Calls Try.prog 70 #[.slice pa pl pc, .slice qa ql qc, .func (.func 40) #[] #[]] w (fun e w' => e = .returned (.bool (decide (ps.length = qs.length) && (ps.zip qs).all fun x => eqS k x.1 x.2)) ∧ Below w.heap.size w w') := by
 refine enterF (args := [.slice pa pl pc, .slice qa ql qc, .func (.func 40) #[] #[]]) Try.func70 rfl Try.ntmps70 rfl ?_
 have hS := St.start w
 refine seqF (regF ?_)
 refine op_assign rfl rfl ?_
 refine endF (XF.thenN ?_)
 refine seqF ?_
 refine seqF (regF ?_)
 refine op_move rfl rfl ?_
 refine op_len Try.underlying23 rfl rfl ?_
 refine op_move rfl rfl ?_
 refine op_len Try.underlying23 rfl rfl ?_
 refine op_neq rfl rfl rfl ?_
 refine endF (XF.thenN ?_)
 refine condF rfl (fun hc => ?_) (fun hc => ?_)
 ·have hc14 := of_decide_eq_true hc; clear hc
  refine seqF (regF ?_)
  refine op_assign rfl rfl ?_
  refine endF (XF.thenN ?_)
  refine retF ?_
  refine XF.thenR ?_
  refine XF.res (res1 Try.results70 rfl) ?_
  exact ⟨rbool (by rw [decide_eq_false (show ¬ ps.length = qs.length by omega)]; rfl), hS.below⟩
 ·have hc14 := of_decide_eq_false hc; clear hc
  refine skipF ?_
  refine XF.thenN ?_
  refine seqF ?_
  refine seqF (regF ?_)
  refine op_move rfl rfl ?_
  refine op_len Try.underlying23 rfl rfl ?_
  refine op_move rfl rfl ?_
  refine endF (XF.thenN ?_)
  refine blockF ?_
  refine loopF (fun q l W => ∃ i : Nat, i ≤ pl ∧ q = pl - i ∧ l = [(1, .slice qa ql qc), (2, .func (.func 40) #[] #[]), (15, .slice pa pl pc), (16, .int .i64 (pl : Int)), (17, .int .i64 (i : Int))] ∧ ((ps.zip qs).take i).all (fun x => eqS k x.1 x.2) = true ∧ St w [] [] [] W) (pl - 0) ([(1, _), (2, _), (15, _), (16, _), (17, _)]) ⟨rfl, rfl, rfl, rfl, rfl, trivial⟩ (⟨0, Nat.zero_le _, rfl, rfl, rfl, hS.clear⟩) ?_
  clear hS
  rintro q l W ⟨i, hi, rfl, rfl, hall, hS⟩
  refine seqF (regF ?_)
  refine op_lss rfl rfl rfl ?_
  refine endF (XF.thenN ?_)
  refine seqF ?_
  refine condF rfl (fun hc => ?_) (fun hc => ?_)
  ·have hc18 := of_decide_eq_true hc; clear hc
   have hk : i < pl := by omega
   obtain ⟨p, hp⟩ : ∃ p, ps[i]? = some p := ⟨ps[i]'(by omega), List.getElem?_eq_getElem _⟩
   obtain ⟨q, hq⟩ : ∃ q, qs[i]? = some q := ⟨qs[i]'(by omega), List.getElem?_eq_getElem _⟩
   have hz : (ps.zip qs)[i]? = some (p, q) := List.getElem?_zip_eq_some.2 ⟨hp, hq⟩
   obtain ⟨b, off, rfl, hb, h6⟩ := hrow.at_ hp
   obtain ⟨b2, off2, rfl, hb2, h7⟩ := hrow2.at_ hq
   have k1 := CellsAt.agree hS.agree (Nat.zero_le _) h6.cells
   have k2 := CellsAt.agree hS.agree (Nat.zero_le _) h7.cells
   refine skipF ?_
   refine XF.thenN ?_
   refine seqF ?_
   refine blockF ?_
   refine seqF (regF ?_)
   refine op_move rfl rfl ?_
   refine op_indexA  Try.underlying23 Try.sizeOf25 rfl rfl rfl (by omega) rfl rfl ?_
   refine op_loadA (vs := [_, _, _]) Try.isAgg25 Try.sizeOf25 rfl (by assumption) rfl ?_
   refine op_alloc (cs := [_, _, _]) hS Try.zeroValue25 rfl rfl ?_
   clear hS; intro B1 W1 hS
   refine op_assign rfl rfl ?_
   refine op_storeA (i := 0) (vs := [_, _, _]) (cs' := [_, _, _]) (O' := [_]) hS Try.sizeOf25 rfl rfl rfl rfl rfl rfl rfl ?_
   clear hS; intro W2 hS
   refine endF (XF.thenN ?_)
   refine seqF ?_
   clear k2
   have k2 := CellsAt.agree hS.agree (Nat.zero_le _) h7.cells
   refine regF ?_
   refine op_move rfl rfl ?_
   refine op_move rfl rfl ?_
   refine op_indexA  Try.underlying23 Try.sizeOf25 rfl rfl rfl (by omega) rfl rfl ?_
   refine op_loadA (vs := [_, _, _]) Try.isAgg25 Try.sizeOf25 rfl (by assumption) rfl ?_
   refine op_alloc (cs := [_, _, _]) hS Try.zeroValue25 rfl rfl ?_
   clear hS; intro B3 W3 hS
   refine op_storeA (i := 0) (vs := [_, _, _]) (cs' := [_, _, _]) (O' := [_, _]) hS Try.sizeOf25 rfl rfl rfl rfl rfl rfl rfl ?_
   clear hS; intro W4 hS
   refine endF (XF.thenN ?_)
   refine seqF (regF ?_)
   refine op_move rfl rfl ?_
   refine op_loadA (vs := [_, _, _]) Try.isAgg25 Try.sizeOf25 rfl (CellsAt.own (j := 0) (m := 3) (hS.at_ 1 rfl) rfl) rfl ?_
   refine op_loadA (vs := [_, _, _]) Try.isAgg25 Try.sizeOf25 rfl (CellsAt.own (j := 0) (m := 3) (hS.at_ 0 rfl) rfl) rfl ?_
   refine op_callV (vs := [_, _]) hS rfl goes_40 rfl (ih p q _ (SIn.below hS.below (hin p (List.mem_of_getElem? hp))) (SIn.below hS.below (hin2 q (List.mem_of_getElem? hq))) (hsm p (List.mem_of_getElem? hp))) rfl ?_
   rintro e W5 ⟨rfl, hb⟩
   refine ⟨_, rfl, hb, fun hS' => ?_⟩
   clear hS; have hS := hS'; clear hS' hb
   refine op_not rfl rfl ?_
   refine endF (XF.thenN ?_)
   refine condF rfl (fun hc => ?_) (fun hc => ?_)
   ·have hc30 := hc; clear hc
    refine seqF (regF ?_)
    refine op_assign rfl rfl ?_
    refine endF (XF.thenN ?_)
    refine retF ?_
    refine XF.blkR ?_
    refine XF.thenR ?_
    refine XF.thenR ?_
    refine XF.blkR ?_
    refine XF.thenR ?_
    refine XF.res (res1 Try.results70 rfl) ?_
    exact ⟨rbool (by rw [all_false_at hz (by simpa using hc30)]; simp), hS.below⟩
   ·have hc30 := hc; clear hc
    refine skipF ?_
    refine XF.blkN ?_
    refine XF.thenN ?_
    refine regF ?_
    refine op_add rfl rfl (IntWalk.i64_in _ (by omega)) rfl ?_
    refine op_move rfl rfl ?_
    refine endF ?_
    exact XF.round (pl - (i + 1)) [(1, _), (2, _), (15, _), (16, _), (17, _)] (by omega) ⟨rfl, rfl, rfl, rfl, rfl, trivial⟩ ⟨i + 1, by omega, rfl, rfl, all_take_at hz hall (by simpa using hc30), hS.tail.tail.clear⟩
  ·have hc18 := of_decide_eq_false hc; clear hc
   refine exitF ?_
   refine XF.thenX ?_
   refine XF.thenX ?_
   refine XF.blkX ?_
   refine XF.thenN ?_
   refine seqF (regF ?_)
   refine op_assign rfl rfl ?_
   refine endF (XF.thenN ?_)
   refine retF ?_
   refine XF.res (res1 Try.results70 rfl) ?_
   rw [List.take_of_length_le (by rw [List.length_zip]; omega)] at hall
   exact ⟨rbool (by rw [hall, decide_eq_true (show ps.length = qs.length by omega)]; rfl), hS.below⟩
theorem sameSpaceA_step (k j : Nat) (t n u m : Int) (pa qa : Option Addr) (pl ql pc qc : Nat) (ps qs : List SV) (w : World) (hps : ps.length = pl) (hqs : qs.length = ql) (hrow : SRow w pa ps) (hrow2 : SRow w qa qs) (hin : ∀ p ∈ ps, SIn w k p) (hin2 : ∀ p ∈ qs, SIn w k p) (hpl : pl ≤ 9223372036854775807) (hsm : ∀ p ∈ ps, smS j p = true) (ih : ∀ (p q : SV) (W : World), SIn W k p → SIn W k q → smS j p = true → Calls Try.prog 40 #[p.f.val, q.f.val] W fun e w' => e = .returned (.bool (eqS k p q)) ∧ Below W.heap.size W w') :
  Calls Try.prog 40 #[.agg #[.int .i64 t, .int .i64 n, .slice pa pl pc], .agg #[.int .i64 u, .int .i64 m, .slice qa ql qc]] w (fun e w' => e = .returned (.bool (eqS (k + 1) (.mk ⟨t, n, pa, pl, pc⟩ ps) (.mk ⟨u, m, qa, ql, qc⟩ qs))) ∧ Below w.heap.size w w') := by
 refine enterF (args := [.agg #[.int .i64 t, .int .i64 n, .slice pa pl pc], .agg #[.int .i64 u, .int .i64 m, .slice qa ql qc]]) Try.func40 rfl Try.ntmps40 rfl ?_
 have hS := St.start w
 refine seqF (regF ?_)
 refine op_box (cs := [_, _, _]) hS rfl rfl rfl ?_
 clear hS; intro B1 W1 hS
 refine op_box (cs := [_, _, _]) hS rfl rfl rfl ?_
 clear hS; intro B2 W2 hS
 refine op_assign rfl rfl ?_
 refine endF (XF.thenN ?_)
 refine seqF (regF ?_)
 refine op_field (o' := 0) fa_25_0 rfl rfl rfl ?_
 refine op_load Try.isAgg22 rfl (cell_own (hS.at_ 1 rfl) rfl) rfl ?_
 refine op_field (o' := 0) fa_25_0 rfl rfl rfl ?_
 refine op_load Try.isAgg22 rfl (cell_own (hS.at_ 0 rfl) rfl) rfl ?_
 refine op_eql rfl rfl rfl ?_
 refine op_move rfl rfl ?_
 refine op_cases (d := 10) rfl (fun hc => ?_) (fun hc => ?_)
 ·have hg10 := of_decide_eq_true hc; clear hc
  refine op_wantedF (d := 10) rfl rfl ?_
  refine op_field (o' := 1) fa_25_1 rfl rfl rfl ?_
  refine op_wantedF (d := 10) rfl rfl ?_
  refine op_load Try.isAgg3 rfl (cell_own (hS.at_ 1 rfl) rfl) rfl ?_
  refine op_wantedF (d := 10) rfl rfl ?_
  refine op_field (o' := 1) fa_25_1 rfl rfl rfl ?_
  refine op_wantedF (d := 10) rfl rfl ?_
  refine op_load Try.isAgg3 rfl (cell_own (hS.at_ 0 rfl) rfl) rfl ?_
  refine op_wantedF (d := 10) rfl rfl ?_
  refine op_eql rfl rfl rfl ?_
  refine op_pickT rfl rfl rfl ?_
  refine op_move rfl rfl ?_
  refine op_cases (d := 17) rfl (fun hc => ?_) (fun hc => ?_)
  ·have hg17 := of_decide_eq_true hc; clear hc
   refine op_wantedF (d := 17) rfl rfl ?_
   refine op_field (o' := 2) fa_25_2 rfl rfl rfl ?_
   refine op_wantedF (d := 17) rfl rfl ?_
   refine op_load Try.isAgg23 rfl (cell_own (hS.at_ 1 rfl) rfl) rfl ?_
   refine op_wantedF (d := 17) rfl rfl ?_
   refine op_field (o' := 2) fa_25_2 rfl rfl rfl ?_
   refine op_wantedF (d := 17) rfl rfl ?_
   refine op_load Try.isAgg23 rfl (cell_own (hS.at_ 0 rfl) rfl) rfl ?_
   refine op_wantedF (d := 17) rfl rfl ?_
   refine op_call (vs := [_, _, _]) hS goes_70 rfl (equalS_is k j pa qa pl ql pc qc ps qs _ hps hqs (hrow.below hS.below) (hrow2.below hS.below) (fun p hp => SIn.below hS.below (hin p hp)) (fun p hp => SIn.below hS.below (hin2 p hp)) hpl hsm ih) rfl ?_
   rintro e W3 ⟨rfl, hb⟩
   refine ⟨_, rfl, hb, fun hS' => ?_⟩
   clear hS; have hS := hS'; clear hS' hb
   refine op_pickT rfl rfl rfl ?_
   refine op_assign rfl rfl ?_
   refine endF (XF.thenN ?_)
   refine retF ?_
   refine XF.res (res1 Try.results40 rfl) ?_
   exact ⟨rbool (by simp only [eqS]; rw [decide_eq_true (show t = u by omega), decide_eq_true (show n = m by omega)]; simp), hS.below⟩
  ·have hg17 := of_decide_eq_false hc; clear hc
   refine op_notF (d := 17) rfl rfl rfl rfl ?_
   refine op_notF (d := 17) rfl rfl rfl rfl ?_
   refine op_notF (d := 17) rfl rfl rfl rfl ?_
   refine op_notF (d := 17) rfl rfl rfl rfl ?_
   refine op_notF (d := 17) rfl rfl rfl rfl ?_
   refine op_pickF rfl rfl rfl ?_
   refine op_assign rfl rfl ?_
   refine endF (XF.thenN ?_)
   refine retF ?_
   refine XF.res (res1 Try.results40 rfl) ?_
   exact ⟨rbool (by simp only [eqS]; rw [decide_eq_false (show ¬ n = m by omega)]; simp), hS.below⟩
 ·have hg10 := of_decide_eq_false hc; clear hc
  refine op_notF (d := 10) rfl rfl rfl rfl ?_
  refine op_notF (d := 10) rfl rfl rfl rfl ?_
  refine op_notF (d := 10) rfl rfl rfl rfl ?_
  refine op_notF (d := 10) rfl rfl rfl rfl ?_
  refine op_notF (d := 10) rfl rfl rfl rfl ?_
  refine op_pickF rfl rfl rfl ?_
  refine op_move rfl rfl ?_
  refine op_notF (d := 17) rfl rfl rfl rfl ?_
  refine op_notF (d := 17) rfl rfl rfl rfl ?_
  refine op_notF (d := 17) rfl rfl rfl rfl ?_
  refine op_notF (d := 17) rfl rfl rfl rfl ?_
  refine op_notF (d := 17) rfl rfl rfl rfl ?_
  refine op_pickF rfl rfl rfl ?_
  refine op_assign rfl rfl ?_
  refine endF (XF.thenN ?_)
  refine retF ?_
  refine XF.res (res1 Try.results40 rfl) ?_
  exact ⟨rbool (by simp only [eqS]; rw [decide_eq_false (show ¬ t = u by omega)]; rfl), hS.below⟩
theorem sameSpaceR_is : ∀ (k j : Nat) (s t : SV) (w : World), SIn w k s → SIn w k t → smS j s = true → Calls Try.prog 43 #[s.f.val, t.f.val] w fun e w' => e = .returned (.bool (eqS k s t)) ∧ Below w.heap.size w w'
 | 0, _, s, t, w, hs, ht, _ => hs.elim
 | k + 1, 0, s, t, w, hs, ht, h => by simp [smS] at h
 | k + 1, j + 1, .mk ⟨t, n, pa, pl, pc⟩ ps, .mk ⟨u, m, qa, ql, qc⟩ qs, w, hs, ht, h => sameSpaceR_step k j t n u m pa qa pl ql pc qc ps qs w hs.1 ht.1 hs.2.1 ht.2.1 hs.2.2 ht.2.2 (by have : pl ≤ 3 := (smS_succ h).1; omega) (smS_succ h).2 (fun p q W hp hq hj => sameSpaceR_is k j p q W hp hq hj)
theorem sameSpaceA_is : ∀ (k j : Nat) (s t : SV) (w : World), SIn w k s → SIn w k t → smS j s = true → Calls Try.prog 40 #[s.f.val, t.f.val] w fun e w' => e = .returned (.bool (eqS k s t)) ∧ Below w.heap.size w w'
 | 0, _, s, t, w, hs, ht, _ => hs.elim
 | k + 1, 0, s, t, w, hs, ht, h => by simp [smS] at h
 | k + 1, j + 1, .mk ⟨t, n, pa, pl, pc⟩ ps, .mk ⟨u, m, qa, ql, qc⟩ qs, w, hs, ht, h => sameSpaceA_step k j t n u m pa qa pl ql pc qc ps qs w hs.1 ht.1 hs.2.1 ht.2.1 hs.2.2 ht.2.2 (by have : pl ≤ 3 := (smS_succ h).1; omega) (smS_succ h).2 (fun p q W hp hq hj => sameSpaceA_is k j p q W hp hq hj)
end Go.Proofs.Ytpkcaabbcoiiiaa
namespace Go.Proofs.Ytpkcaabbcoiiiaa
open Go.RowKit
attribute [local go_sem ↓] Go.wp_at_zero Go.wp_at_succ
theorem isA_genY {w : World} {ds da : Nat} {s : SV} {x : WV} (hs : SIn w ds s) (hse : spaceE s = 0) (hx : WIn w da x) :
  Calls Try.prog 100 #[s.f.val, x.f.val] w fun e w' => e = .returned (.bool (okW s x)) ∧ Below w.heap.size w w' := by
 match ds, da, s, x, hs, hx with
 | ds + 1, da + 1, .mk f ps, .mk g qs, hs, hx =>
  by_cases hp : plainB f.tag f.dim f.len = true
  ·refine isA_plainY f.tag f.dim f.a f.len f.cap g hp (Nat.zero_le _) w hx.1 _ ?_
   unfold okW; exact (if_pos hp).symm
  ·have hse' : (if plainB f.tag f.dim f.len = true then (0 : Int) else if f.tag = 5 ∧ f.dim = 0 ∧ ps.length = 2 ∧ ps.all SV.pl = true then 0 else 50) = 0 := hse
   rw [if_neg hp] at hse'
   split at hse'
   ·rename_i hq
    obtain ⟨h5, h0, h2, hall⟩ := hq
    obtain ⟨t, n, a, l, c⟩ := f
    dsimp only at h5 h0 hp
    subst h5; subst h0
    obtain ⟨p, q, rfl⟩ := two_of h2
    have hl : 2 = l := hs.1
    subst hl
    simp only [List.all_cons, List.all_nil, Bool.and_true, Bool.and_eq_true] at hall
    refine isA_pairY ds a c p q g qs w hs hall.1 hall.2 da hx (fun _ _ => Nat.zero_le _) _ ?_
    unfold okW; exact (if_neg hp).symm
   ·cases hse'
theorem isR_genY {w : World} {ds da : Nat} {s : SV} {x : WV} (hs : SIn w ds s) (hse : spaceE s = 0) (hx : WIn w da x) :
  Calls Try.prog 66 #[s.f.val, x.f.val] w fun e w' => e = .returned (.bool (okW s x)) ∧ Below w.heap.size w w' := by
 match ds, da, s, x, hs, hx with
 | ds + 1, da + 1, .mk f ps, .mk g qs, hs, hx =>
  by_cases hp : plainB f.tag f.dim f.len = true
  ·refine isR_plainY f.tag f.dim f.a f.len f.cap g hp (Nat.zero_le _) w hx.1 _ ?_
   unfold okW; exact (if_pos hp).symm
  ·have hse' : (if plainB f.tag f.dim f.len = true then (0 : Int) else if f.tag = 5 ∧ f.dim = 0 ∧ ps.length = 2 ∧ ps.all SV.pl = true then 0 else 50) = 0 := hse
   rw [if_neg hp] at hse'
   split at hse'
   ·rename_i hq
    obtain ⟨h5, h0, h2, hall⟩ := hq
    obtain ⟨t, n, a, l, c⟩ := f
    dsimp only at h5 h0 hp
    subst h5; subst h0
    obtain ⟨p, q, rfl⟩ := two_of h2
    have hl : 2 = l := hs.1
    subst hl
    simp only [List.all_cons, List.all_nil, Bool.and_true, Bool.and_eq_true] at hall
    refine isR_pairY ds a c p q g qs w hs hall.1 hall.2 da hx (fun _ _ => Nat.zero_le _) _ ?_
    unfold okW; exact (if_neg hp).symm
   ·cases hse'
end Go.Proofs.Ytpkcaabbcoiiiaa
namespace Go.Proofs.Ytpkcaabbcoiiiaa
open Go Go.RowKit
structure RV where
 p : Int
 g : Int
 q : Int
 wa : Option Addr
 wl : Nat
 wc : Nat
 ws : List Int
 x : WV
abbrev RV.val (r : RV) : Value := .agg #[.int .i64 r.p, .int .i64 r.g, .int .i64 r.q, .slice r.wa r.wl r.wc, .bool r.x.f.z, .int .i64 r.x.f.c, .int .u64 (r.x.f.g : Int), .slice r.x.f.ra r.x.f.rl r.x.f.rc, .slice r.x.f.ca r.x.f.cl r.x.f.cc, .slice r.x.f.pa r.x.f.pl r.x.f.pc]
abbrev RV.ten (r : RV) : List Value := [.int .i64 r.p, .int .i64 r.g, .int .i64 r.q, .slice r.wa r.wl r.wc, .bool r.x.f.z, .int .i64 r.x.f.c, .int .u64 (r.x.f.g : Int), .slice r.x.f.ra r.x.f.rl r.x.f.rc, .slice r.x.f.ca r.x.f.cl r.x.f.cc, .slice r.x.f.pa r.x.f.pl r.x.f.pc]
structure RIn (w : World) (d : Nat) (r : RV) : Prop where
 row : Row w r.wa r.ws
 len : r.ws.length = r.wl
 x : WIn w d r.x
def RRow (w : World) (a : Option Addr) (rs : List RV) : Prop :=
 rs = [] ∨ ∃ b off, a = some ⟨b, off, none⟩ ∧ ∀ (i : Nat) r, rs[i]? = some r → CellsAt w b (off + i * 10) r.ten
structure PV where
 s : SV
 st : Int
 sy : Int
 ra : Option Addr
 rl : Nat
 rc : Nat
 rs : List RV
abbrev PV.val (p : PV) : Value := .agg #[.int .i64 p.s.f.tag, .int .i64 p.s.f.dim, .slice p.s.f.a p.s.f.len p.s.f.cap, .int .i64 p.st, .int .i64 p.sy, .slice p.ra p.rl p.rc]
abbrev PV.six (p : PV) : List Value := [.int .i64 p.s.f.tag, .int .i64 p.s.f.dim, .slice p.s.f.a p.s.f.len p.s.f.cap, .int .i64 p.st, .int .i64 p.sy, .slice p.ra p.rl p.rc]
structure PvIn (w : World) (ds d : Nat) (p : PV) : Prop where
 s : SIn w ds p.s
 row : RRow w p.ra p.rs
 len : p.rs.length = p.rl
 rin : ∀ r ∈ p.rs, RIn w d r
structure CV where
 p : Int
 wa : Option Addr
 wl : Nat
 wc : Nat
 ws : List Int
abbrev CV.val (c : CV) : Value := .agg #[.int .i64 c.p, .slice c.wa c.wl c.wc]
structure CIn (w : World) (c : CV) : Prop where
 row : Row w c.wa c.ws
 len : c.ws.length = c.wl
theorem RIn.below {w w' : World} {d : Nat} {r : RV} (h : RIn w d r) (hb : Below w.heap.size w w') : RIn w' d r := ⟨h.row.below hb, h.len, WIn.below hb h.x⟩
theorem CIn.below {w w' : World} {c : CV} (h : CIn w c) (hb : Below w.heap.size w w') : CIn w' c := ⟨h.row.below hb, h.len⟩
theorem RRow.at_ {w : World} {a : Option Addr} {rs : List RV} (h : RRow w a rs) {i : Nat} {r : RV} (hi : rs[i]? = some r) : ∃ b off, a = some ⟨b, off, none⟩ ∧ CellsAt w b (off + i * 10) r.ten := by
 rcases h with rfl | ⟨b, off, ha, hc⟩
 ·simp at hi
 ·exact ⟨b, off, ha, hc i r hi⟩
theorem RRow.below {w w' : World} {a : Option Addr} {rs : List RV} (h : RRow w a rs) (hb : Below w.heap.size w w') : RRow w' a rs := by
 rcases h with h | ⟨b, off, rfl, hc⟩
 ·exact .inl h
 ·exact .inr ⟨b, off, rfl, fun i r hi => CellsAt.agree (below_agree hb 0) (Nat.zero_le _) (hc i r hi)⟩
theorem PvIn.below {w w' : World} {ds d : Nat} {p : PV} (h : PvIn w ds d p) (hb : Below w.heap.size w w') : PvIn w' ds d p := ⟨SIn.below hb h.s, h.row.below hb, h.len, fun r hr => (h.rin r hr).below hb⟩
theorem Row.at1 {w : World} {a : Option Addr} {zs : List Int} (h : Row w a zs) {i : Nat} (hi : i < zs.length) : ∃ b off y, a = some ⟨b, off, none⟩ ∧ zs[i]? = some y ∧ w.cell? ⟨b, off + i * 1, none⟩ = some (.int .i64 y) := by
 rcases h with rfl | ⟨b, off, ha, hc⟩
 ·simp at hi
 ·refine ⟨b, off, zs[i], ha, by simp [hi], ?_⟩
  rw [Nat.mul_one]
  have := hc i hi
  rw [this]; simp [List.getD, List.getElem?_eq_getElem hi]
def inQ (x n : Int) : Bool := decide (0 ≤ x) && decide (x < n)
def ruleB (st sy : Int) (r : RV) : Bool := inQ r.p st && (inQ r.q st && (inQ r.g sy && (decide (r.wl ≤ 4096) && r.ws.all (fun y => inQ y sy))))
def wtE (s : SV) : List RV → Int
 | [] => 0
 | r :: rs => if chkW s r.x = 0 then wtE s rs else chkW s r.x
theorem wtE_at {s : SV} : ∀ {rs : List RV} {i : Nat} {r : RV}, rs[i]? = some r → (rs.take i).all (fun r => decide (chkW s r.x = 0)) = true → chkW s r.x ≠ 0 → wtE s rs = chkW s r.x
 | [], _, _, h, _, _ => by simp at h
 | a :: rs, 0, r, h, _, hn => by
  simp at h; subst h
  unfold wtE; rw [if_neg hn]
 | a :: rs, i + 1, r, h, ha, hn => by
  simp only [List.take_succ_cons, List.all_cons, Bool.and_eq_true, decide_eq_true_eq] at ha
  unfold wtE; rw [if_pos ha.1]
  exact wtE_at (by simpa using h) ha.2 hn
theorem wtE_all {s : SV} : ∀ {rs : List RV}, rs.all (fun r => decide (chkW s r.x = 0)) = true → wtE s rs = 0
 | [], _ => rfl
 | a :: rs, h => by
  simp only [List.all_cons, Bool.and_eq_true, decide_eq_true_eq] at h
  unfold wtE; rw [if_pos h.1]
  exact wtE_all h.2
def pdsE (p : PV) : Int :=
 if spaceE p.s ≠ 0 then spaceE p.s else if 16384 < p.rl then 3 else if p.st < 0 ∨ 4096 < p.st ∨ p.sy < 0 ∨ 4096 < p.sy then 110 else if p.rs.all (ruleB p.st p.sy) then wtE p.s p.rs else 110
def confB (p : PV) (c : CV) : Bool := inQ c.p p.st && (decide (c.wl ≤ 4096) && c.ws.all (fun y => inQ y p.sy))
def stepE (p : PV) (c : CV) : Int := if pdsE p ≠ 0 then pdsE p else if confB p c then 0 else 120
end Go.Proofs.Ytpkcaabbcoiiiaa
namespace Go.Proofs.Ytpkcaabbcoiiiaa
open Go Go.RowKit
theorem checkAllW_oneY (ds da : Nat) (s : SV) (x : WV) (w : World) (hs : SIn w ds s) (hx : WIn w da x) (b : Nat) (hb0 : CellsAt w b 0 x.f.six) :
  Calls Try.prog 84 #[s.f.val, .slice (some ⟨b, 0, none⟩) 1 1] w (fun e w' => e = .returned (.int .i64 (chkW s x)) ∧ Below w.heap.size w w') := by
 refine enterF (args := [s.f.val, .slice (some ⟨b, 0, none⟩) 1 1]) Try.func84 rfl Try.ntmps84 rfl ?_
 have hS := St.start w
 refine seqF (regF ?_)
 refine op_box (cs := [_, _, _]) hS rfl rfl rfl ?_
 clear hS; intro B1 W1 hS
 refine op_assign rfl rfl ?_
 refine endF (XF.thenN ?_)
 refine seqF ?_
 refine seqF (regF ?_)
 refine op_loadA (vs := [_, _, _]) Try.isAgg25 Try.sizeOf25 rfl (CellsAt.own (j := 0) (m := 3) (hS.at_ 0 rfl) rfl) rfl ?_
 refine op_call (vs := [_]) hS goes_56 rfl (spaceA_is ds s _ _ (SIn.below hS.below hs) rfl) rfl ?_
 rintro e W2 ⟨rfl, hb⟩
 refine ⟨_, rfl, hb, fun hS' => ?_⟩
 clear hS; have hS := hS'; clear hS' hb
 refine op_assign rfl rfl ?_
 refine endF (XF.thenN ?_)
 refine seqF (regF ?_)
 refine op_move rfl rfl ?_
 refine op_neq rfl rfl rfl ?_
 refine endF (XF.thenN ?_)
 refine condF rfl (fun hc => ?_) (fun hc => ?_)
 ·have hc11 := of_decide_eq_true hc; clear hc
  refine seqF (regF ?_)
  refine op_move rfl rfl ?_
  refine op_assign rfl rfl ?_
  refine endF (XF.thenN ?_)
  refine retF ?_
  refine XF.thenR ?_
  refine XF.res (res1 Try.results84 rfl) ?_
  exact ⟨rint (by unfold chkW; rw [if_neg hc11]), hS.below⟩
 ·have hc11 := of_decide_eq_false hc; clear hc
  have hse : spaceE s = 0 := by omega
  refine skipF ?_
  refine XF.thenN ?_
  refine seqF ?_
  refine seqF (regF ?_)
  refine op_move rfl rfl ?_
  refine op_len Try.underlying43 rfl rfl ?_
  refine op_move rfl rfl ?_
  refine endF (XF.thenN ?_)
  refine blockF ?_
  refine loopF (fun q l W => ∃ k : Nat, k ≤ 1 ∧ q = 1 - k ∧ l = [(2, .pointer (some ⟨B1, 0, none⟩)), (13, .slice (some ⟨b, 0, none⟩) 1 1), (14, .int .i64 1), (15, .int .i64 (k : Int))] ∧ (1 ≤ k → okW s x = true) ∧ St w [(B1, [.int .i64 s.f.tag, .int .i64 s.f.dim, .slice s.f.a s.f.len s.f.cap], 25)] [] [] W) (1 - 0) ([(2, _), (13, _), (14, _), (15, _)]) ⟨rfl, rfl, rfl, rfl, trivial⟩ (⟨0, Nat.zero_le _, rfl, rfl, fun h => by omega, hS.clear⟩) ?_
  clear hS
  rintro q l W ⟨k, hk1, rfl, rfl, hok, hS⟩
  refine seqF (regF ?_)
  refine op_lss rfl rfl rfl ?_
  refine endF (XF.thenN ?_)
  refine seqF ?_
  refine condF rfl (fun hc => ?_) (fun hc => ?_)
  ·have hc16 := of_decide_eq_true hc; clear hc
   obtain rfl : k = 0 := by omega
   have k1 := CellsAt.agree hS.agree (Nat.zero_le _) hb0
   refine skipF ?_
   refine XF.thenN ?_
   refine seqF ?_
   refine blockF ?_
   refine seqF (regF ?_)
   refine op_indexA  Try.underlying43 Try.sizeOf45 rfl rfl rfl (by omega) rfl rfl ?_
   refine op_loadA (vs := [_, _, _, _, _, _]) Try.isAgg45 Try.sizeOf45 rfl (by assumption) rfl ?_
   refine op_alloc (cs := [_, _, _, _, _, _]) hS Try.zeroValue45 rfl rfl ?_
   clear hS; intro B3 W3 hS
   refine op_storeA (i := 0) (vs := [_, _, _, _, _, _]) (cs' := [_, _, _, _, _, _]) (O' := [_, _]) hS Try.sizeOf45 rfl rfl rfl rfl rfl rfl rfl ?_
   clear hS; intro W4 hS
   refine endF (XF.thenN ?_)
   refine seqF (regF ?_)
   refine op_loadA (vs := [_, _, _]) Try.isAgg25 Try.sizeOf25 rfl (CellsAt.own (j := 0) (m := 3) (hS.at_ 1 rfl) rfl) rfl ?_
   refine op_loadA (vs := [_, _, _, _, _, _]) Try.isAgg45 Try.sizeOf45 rfl (CellsAt.own (j := 0) (m := 6) (hS.at_ 0 rfl) rfl) rfl ?_
   refine op_call (vs := [_, _]) hS goes_100 rfl (isA_genY (SIn.below hS.below hs) hse (WIn.below hS.below hx)) rfl ?_
   rintro e W5 ⟨rfl, hb⟩
   refine ⟨_, rfl, hb, fun hS' => ?_⟩
   clear hS; have hS := hS'; clear hS' hb
   refine op_not rfl rfl ?_
   refine endF (XF.thenN ?_)
   refine condF rfl (fun hc => ?_) (fun hc => ?_)
   ·have hc22 := hc; clear hc
    refine seqF (regF ?_)
    refine op_assign rfl rfl ?_
    refine endF (XF.thenN ?_)
    refine retF ?_
    refine XF.blkR ?_
    refine XF.thenR ?_
    refine XF.thenR ?_
    refine XF.blkR ?_
    refine XF.thenR ?_
    refine XF.res (res1 Try.results84 rfl) ?_
    exact ⟨rint (by unfold chkW; rw [if_pos hse, if_neg (by simpa using hc22)]), hS.below⟩
   ·have hc22 := hc; clear hc
    refine skipF ?_
    refine XF.blkN ?_
    refine XF.thenN ?_
    refine regF ?_
    refine op_add rfl rfl (IntWalk.i64_in _ (by omega)) rfl ?_
    refine op_move rfl rfl ?_
    refine endF ?_
    exact XF.round (1 - 1) [(2, _), (13, _), (14, _), (15, _)] (by omega) ⟨rfl, rfl, rfl, rfl, trivial⟩ ⟨1, by omega, rfl, rfl, fun _ => by simpa using hc22, hS.tail.clear⟩
  ·have hc16 := of_decide_eq_false hc; clear hc
   refine exitF ?_
   refine XF.thenX ?_
   refine XF.thenX ?_
   refine XF.blkX ?_
   refine XF.thenN ?_
   refine seqF (regF ?_)
   refine op_assign rfl rfl ?_
   refine endF (XF.thenN ?_)
   refine retF ?_
   refine XF.res (res1 Try.results84 rfl) ?_
   exact ⟨rint (by unfold chkW; rw [if_pos hse, if_pos (hok (by omega))]), hS.below⟩
theorem checkA_genY (ds da : Nat) (s : SV) (x : WV) (w : World) (hs : SIn w ds s) (hx : WIn w da x) :
  Calls Try.prog 58 #[s.f.val, x.f.val] w (fun e w' => e = .returned (.int .i64 (chkW s x)) ∧ Below w.heap.size w w') := by
 refine enterF (args := [s.f.val, x.f.val]) Try.func58 rfl Try.ntmps58 rfl ?_
 have hS := St.start w
 refine seqF (regF ?_)
 refine op_box (cs := [_, _, _]) hS rfl rfl rfl ?_
 clear hS; intro B1 W1 hS
 refine op_box (cs := [_, _, _, _, _, _]) hS rfl rfl rfl ?_
 clear hS; intro B2 W2 hS
 refine op_assign rfl rfl ?_
 refine endF (XF.thenN ?_)
 refine seqF (regF ?_)
 refine op_loadA (vs := [_, _, _]) Try.isAgg25 Try.sizeOf25 rfl (CellsAt.own (j := 0) (m := 3) (hS.at_ 1 rfl) rfl) rfl ?_
 refine op_loadA (vs := [_, _, _, _, _, _]) Try.isAgg45 Try.sizeOf45 rfl (CellsAt.own (j := 0) (m := 6) (hS.at_ 0 rfl) rfl) rfl ?_
 refine op_buildSlice (us := [(0, .agg (List.toArray [_, _, _, _, _, _]))]) hS Try.underlying43 Try.sizeOf45 Try.zeroValue45 rfl rfl rfl (bs_43_1 _ _ _ _ _ _) rfl ?_
 clear hS; intro B3 W3 hS
 refine op_call (vs := [_, _]) hS goes_84 rfl (checkAllW_oneY ds da s x _ (SIn.below hS.below hs) (WIn.below hS.below hx) _ (CellsAt.own (j := 0) (m := 6) (hS.at_ 0 rfl) rfl)) rfl ?_
 rintro e W4 ⟨rfl, hb⟩
 refine ⟨_, rfl, hb, fun hS' => ?_⟩
 clear hS; have hS := hS'; clear hS' hb
 refine op_assign rfl rfl ?_
 refine endF (XF.thenN ?_)
 refine retF ?_
 refine XF.res (res1 Try.results58 rfl) ?_
 exact ⟨rfl, hS.below⟩
theorem checkR_genY (ds da : Nat) (s : SV) (x : WV) (w : World) (hs : SIn w ds s) (hx : WIn w da x) :
  Calls Try.prog 72 #[s.f.val, x.f.val] w (fun e w' => e = .returned (.int .i64 (chkW s x)) ∧ Below w.heap.size w w') := by
 refine enterF (args := [s.f.val, x.f.val]) Try.func72 rfl Try.ntmps72 rfl ?_
 have hS := St.start w
 refine seqF (regF ?_)
 refine op_box (cs := [_, _, _]) hS rfl rfl rfl ?_
 clear hS; intro B1 W1 hS
 refine op_box (cs := [_, _, _, _, _, _]) hS rfl rfl rfl ?_
 clear hS; intro B2 W2 hS
 refine op_assign rfl rfl ?_
 refine endF (XF.thenN ?_)
 refine seqF (regF ?_)
 refine op_loadA (vs := [_, _, _]) Try.isAgg25 Try.sizeOf25 rfl (CellsAt.own (j := 0) (m := 3) (hS.at_ 1 rfl) rfl) rfl ?_
 refine op_call (vs := [_]) hS goes_34 rfl (spaceR_is ds s _ _ (SIn.below hS.below hs) rfl) rfl ?_
 rintro e W3 ⟨rfl, hb⟩
 refine ⟨_, rfl, hb, fun hS' => ?_⟩
 clear hS; have hS := hS'; clear hS' hb
 refine op_assign rfl rfl ?_
 refine endF (XF.thenN ?_)
 refine seqF ?_
 refine seqF (regF ?_)
 refine op_move rfl rfl ?_
 refine op_neq rfl rfl rfl ?_
 refine endF (XF.thenN ?_)
 refine condF rfl (fun hc => ?_) (fun hc => ?_)
 ·have hc9 := of_decide_eq_true hc; clear hc
  refine seqF (regF ?_)
  refine op_move rfl rfl ?_
  refine op_assign rfl rfl ?_
  refine endF (XF.thenN ?_)
  refine retF ?_
  refine XF.thenR ?_
  refine XF.res (res1 Try.results72 rfl) ?_
  exact ⟨rint (by unfold chkW; rw [if_neg hc9]), hS.below⟩
 ·have hc9 := of_decide_eq_false hc; clear hc
  have hse : spaceE s = 0 := by omega
  refine skipF ?_
  refine XF.thenN ?_
  refine seqF ?_
  refine seqF (regF ?_)
  refine op_loadA (vs := [_, _, _]) Try.isAgg25 Try.sizeOf25 rfl (CellsAt.own (j := 0) (m := 3) (hS.at_ 1 rfl) rfl) rfl ?_
  refine op_loadA (vs := [_, _, _, _, _, _]) Try.isAgg45 Try.sizeOf45 rfl (CellsAt.own (j := 0) (m := 6) (hS.at_ 0 rfl) rfl) rfl ?_
  refine op_call (vs := [_, _]) hS goes_66 rfl (isR_genY (SIn.below hS.below hs) hse (WIn.below hS.below hx)) rfl ?_
  rintro e W4 ⟨rfl, hb⟩
  refine ⟨_, rfl, hb, fun hS' => ?_⟩
  clear hS; have hS := hS'; clear hS' hb
  refine op_not rfl rfl ?_
  refine endF (XF.thenN ?_)
  refine condF rfl (fun hc => ?_) (fun hc => ?_)
  ·have hc14 := hc; clear hc
   refine seqF (regF ?_)
   refine op_assign rfl rfl ?_
   refine endF (XF.thenN ?_)
   refine retF ?_
   refine XF.thenR ?_
   refine XF.res (res1 Try.results72 rfl) ?_
   exact ⟨rint (by unfold chkW; rw [if_pos hse, if_neg (by simpa using hc14)]), hS.below⟩
  ·have hc14 := hc; clear hc
   refine skipF ?_
   refine XF.thenN ?_
   refine seqF (regF ?_)
   refine op_assign rfl rfl ?_
   refine endF (XF.thenN ?_)
   refine retF ?_
   refine XF.res (res1 Try.results72 rfl) ?_
   exact ⟨rint (by unfold chkW; rw [if_pos hse, if_pos (by simpa using hc14)]), hS.below⟩
theorem isState_is (P0 : PV) (n : Int) (w : World) :
  Calls Try.prog 82 #[P0.val, .int .i64 n] w (fun e w' => e = .returned (.bool (inQ n P0.st)) ∧ Below w.heap.size w w') := by
 refine enterF (args := [P0.val, .int .i64 n]) Try.func82 rfl Try.ntmps82 rfl ?_
 have hS := St.start w
 refine seqF (regF ?_)
 refine op_box (cs := [_, _, _, _, _, _]) hS rfl rfl rfl ?_
 clear hS; intro B1 W1 hS
 refine op_assign rfl rfl ?_
 refine endF (XF.thenN ?_)
 refine seqF (regF ?_)
 refine op_move rfl rfl ?_
 refine op_geq rfl rfl rfl ?_
 refine op_move rfl rfl ?_
 refine op_cases (d := 7) rfl (fun hc => ?_) (fun hc => ?_)
 ·have hg7 := of_decide_eq_true hc; clear hc
  refine op_wantedF (d := 7) rfl rfl ?_
  refine op_move rfl rfl ?_
  refine op_wantedF (d := 7) rfl rfl ?_
  refine op_field (o' := 3) fa_28_1 rfl rfl rfl ?_
  refine op_wantedF (d := 7) rfl rfl ?_
  refine op_load Try.isAgg3 rfl (cell_own (hS.at_ 0 rfl) rfl) rfl ?_
  refine op_wantedF (d := 7) rfl rfl ?_
  refine op_lss rfl rfl rfl ?_
  refine op_pickT rfl rfl rfl ?_
  refine op_assign rfl rfl ?_
  refine endF (XF.thenN ?_)
  refine retF ?_
  refine XF.res (res1 Try.results82 rfl) ?_
  exact ⟨rbool (by simp [inQ, show 0 ≤ n from hg7]), hS.below⟩
 ·have hg7 := of_decide_eq_false hc; clear hc
  refine op_notF (d := 7) rfl rfl rfl rfl ?_
  refine op_notF (d := 7) rfl rfl rfl rfl ?_
  refine op_notF (d := 7) rfl rfl rfl rfl ?_
  refine op_notF (d := 7) rfl rfl rfl rfl ?_
  refine op_pickF rfl rfl rfl ?_
  refine op_assign rfl rfl ?_
  refine endF (XF.thenN ?_)
  refine retF ?_
  refine XF.res (res1 Try.results82 rfl) ?_
  exact ⟨rbool (by simp [inQ]; omega), hS.below⟩
theorem isSymbol_is (P0 : PV) (n : Int) (w : World) :
  Calls Try.prog 83 #[P0.val, .int .i64 n] w (fun e w' => e = .returned (.bool (inQ n P0.sy)) ∧ Below w.heap.size w w') := by
 refine enterF (args := [P0.val, .int .i64 n]) Try.func83 rfl Try.ntmps83 rfl ?_
 have hS := St.start w
 refine seqF (regF ?_)
 refine op_box (cs := [_, _, _, _, _, _]) hS rfl rfl rfl ?_
 clear hS; intro B1 W1 hS
 refine op_assign rfl rfl ?_
 refine endF (XF.thenN ?_)
 refine seqF (regF ?_)
 refine op_move rfl rfl ?_
 refine op_geq rfl rfl rfl ?_
 refine op_move rfl rfl ?_
 refine op_cases (d := 7) rfl (fun hc => ?_) (fun hc => ?_)
 ·have hg7 := of_decide_eq_true hc; clear hc
  refine op_wantedF (d := 7) rfl rfl ?_
  refine op_move rfl rfl ?_
  refine op_wantedF (d := 7) rfl rfl ?_
  refine op_field (o' := 4) fa_28_2 rfl rfl rfl ?_
  refine op_wantedF (d := 7) rfl rfl ?_
  refine op_load Try.isAgg3 rfl (cell_own (hS.at_ 0 rfl) rfl) rfl ?_
  refine op_wantedF (d := 7) rfl rfl ?_
  refine op_lss rfl rfl rfl ?_
  refine op_pickT rfl rfl rfl ?_
  refine op_assign rfl rfl ?_
  refine endF (XF.thenN ?_)
  refine retF ?_
  refine XF.res (res1 Try.results83 rfl) ?_
  exact ⟨rbool (by simp [inQ, show 0 ≤ n from hg7]), hS.below⟩
 ·have hg7 := of_decide_eq_false hc; clear hc
  refine op_notF (d := 7) rfl rfl rfl rfl ?_
  refine op_notF (d := 7) rfl rfl rfl rfl ?_
  refine op_notF (d := 7) rfl rfl rfl rfl ?_
  refine op_notF (d := 7) rfl rfl rfl rfl ?_
  refine op_pickF rfl rfl rfl ?_
  refine op_assign rfl rfl ?_
  refine endF (XF.thenN ?_)
  refine retF ?_
  refine XF.res (res1 Try.results83 rfl) ?_
  exact ⟨rbool (by simp [inQ]; omega), hS.below⟩
theorem inR_is (n m : Int) (w : World) :
  Calls Try.prog 98 #[.int .i64 n, .int .i64 m] w (fun e w' => e = .returned (.bool (inQ n m)) ∧ Below w.heap.size w w') := by
 refine enterF (args := [.int .i64 n, .int .i64 m]) Try.func98 rfl Try.ntmps98 rfl ?_
 have hS := St.start w
 refine seqF (regF ?_)
 refine op_assign rfl rfl ?_
 refine endF (XF.thenN ?_)
 refine seqF (regF ?_)
 refine op_move rfl rfl ?_
 refine op_geq rfl rfl rfl ?_
 refine op_move rfl rfl ?_
 refine op_cases (d := 7) rfl (fun hc => ?_) (fun hc => ?_)
 ·have hg7 := of_decide_eq_true hc; clear hc
  refine op_wantedF (d := 7) rfl rfl ?_
  refine op_move rfl rfl ?_
  refine op_wantedF (d := 7) rfl rfl ?_
  refine op_move rfl rfl ?_
  refine op_wantedF (d := 7) rfl rfl ?_
  refine op_lss rfl rfl rfl ?_
  refine op_pickT rfl rfl rfl ?_
  refine op_assign rfl rfl ?_
  refine endF (XF.thenN ?_)
  refine retF ?_
  refine XF.res (res1 Try.results98 rfl) ?_
  exact ⟨rbool (by simp [inQ, show 0 ≤ n from hg7]), hS.below⟩
 ·have hg7 := of_decide_eq_false hc; clear hc
  refine op_notF (d := 7) rfl rfl rfl rfl ?_
  refine op_notF (d := 7) rfl rfl rfl rfl ?_
  refine op_notF (d := 7) rfl rfl rfl rfl ?_
  refine op_pickF rfl rfl rfl ?_
  refine op_assign rfl rfl ?_
  refine endF (XF.thenN ?_)
  refine retF ?_
  refine XF.res (res1 Try.results98 rfl) ?_
  exact ⟨rbool (by simp [inQ]; omega), hS.below⟩
theorem ruleA_c (P0 : PV) (p g q : Int) (wa : Option Addr) (wl wc : Nat) (ws : List Int) (x : WV) (w : World) (hrow : Row w wa ws) (hlen : ws.length = wl) :
  Calls Try.prog 57 #[P0.val, .agg #[.int .i64 p, .int .i64 g, .int .i64 q, .slice wa wl wc, .bool x.f.z, .int .i64 x.f.c, .int .u64 (x.f.g : Int), .slice x.f.ra x.f.rl x.f.rc, .slice x.f.ca x.f.cl x.f.cc, .slice x.f.pa x.f.pl x.f.pc]] w (fun e w' => e = .returned (.bool (ruleB P0.st P0.sy ⟨p, g, q, wa, wl, wc, ws, x⟩)) ∧ Below w.heap.size w w') := by
 refine enterF (args := [P0.val, .agg #[.int .i64 p, .int .i64 g, .int .i64 q, .slice wa wl wc, .bool x.f.z, .int .i64 x.f.c, .int .u64 (x.f.g : Int), .slice x.f.ra x.f.rl x.f.rc, .slice x.f.ca x.f.cl x.f.cc, .slice x.f.pa x.f.pl x.f.pc]]) Try.func57 rfl Try.ntmps57 rfl ?_
 have hS := St.start w
 refine seqF (regF ?_)
 refine op_box (cs := [_, _, _, _, _, _]) hS rfl rfl rfl ?_
 clear hS; intro B1 W1 hS
 refine op_box (cs := [_, _, _, _, _, _, _, _, _, _]) hS rfl rfl rfl ?_
 clear hS; intro B2 W2 hS
 refine op_assign rfl rfl ?_
 refine endF (XF.thenN ?_)
 refine seqF ?_
 refine seqF (regF ?_)
 refine op_loadA (vs := [_, _, _, _, _, _]) Try.isAgg28 Try.sizeOf28 rfl (CellsAt.own (j := 0) (m := 6) (hS.at_ 1 rfl) rfl) rfl ?_
 refine op_field (o' := 0) fa_47_0 rfl rfl rfl ?_
 refine op_load Try.isAgg3 rfl (cell_own (hS.at_ 0 rfl) rfl) rfl ?_
 refine op_call (vs := [_, _]) hS goes_82 rfl (isState_is P0 p _) rfl ?_
 rintro e W3 ⟨rfl, hb⟩
 refine ⟨_, rfl, hb, fun hS' => ?_⟩
 clear hS; have hS := hS'; clear hS' hb
 refine op_not rfl rfl ?_
 refine op_move rfl rfl ?_
 refine op_cases (d := 12) rfl (fun hc => ?_) (fun hc => ?_)
 ·have hg12 := hc; clear hc
  have e1 : inQ p P0.st = false := by simpa using hg12
  refine op_notF (d := 12) rfl rfl rfl rfl ?_
  refine op_notF (d := 12) rfl rfl rfl rfl ?_
  refine op_notF (d := 12) rfl rfl rfl rfl ?_
  refine op_notF (d := 12) rfl rfl rfl rfl ?_
  refine op_notF (d := 12) rfl rfl rfl rfl ?_
  refine op_pickT rfl rfl rfl ?_
  refine op_move rfl rfl ?_
  refine op_notF (d := 19) rfl rfl rfl rfl ?_
  refine op_notF (d := 19) rfl rfl rfl rfl ?_
  refine op_notF (d := 19) rfl rfl rfl rfl ?_
  refine op_notF (d := 19) rfl rfl rfl rfl ?_
  refine op_notF (d := 19) rfl rfl rfl rfl ?_
  refine op_pickT rfl rfl rfl ?_
  refine op_move rfl rfl ?_
  refine op_notF (d := 26) rfl rfl rfl rfl ?_
  refine op_notF (d := 26) rfl rfl rfl rfl ?_
  refine op_notF (d := 26) rfl rfl rfl rfl ?_
  refine op_notF (d := 26) rfl rfl rfl rfl ?_
  refine op_pickT rfl rfl rfl ?_
  refine endF (XF.thenN ?_)
  refine condT rfl ?_
  refine seqF (regF ?_)
  refine op_assign rfl rfl ?_
  refine endF (XF.thenN ?_)
  refine retF ?_
  refine XF.thenR ?_
  refine XF.res (res1 Try.results57 rfl) ?_
  exact ⟨rbool (by simp [ruleB, e1]), hS.below⟩
 ·have hg12 := hc; clear hc
  have e1 : inQ p P0.st = true := by simpa using hg12
  refine op_wantedF (d := 12) rfl rfl ?_
  refine op_loadA (vs := [_, _, _, _, _, _]) Try.isAgg28 Try.sizeOf28 rfl (CellsAt.own (j := 0) (m := 6) (hS.at_ 1 rfl) rfl) rfl ?_
  refine op_wantedF (d := 12) rfl rfl ?_
  refine op_field (o' := 2) fa_47_2 rfl rfl rfl ?_
  refine op_wantedF (d := 12) rfl rfl ?_
  refine op_load Try.isAgg3 rfl (cell_own (hS.at_ 0 rfl) rfl) rfl ?_
  refine op_wantedF (d := 12) rfl rfl ?_
  refine op_call (vs := [_, _]) hS goes_82 rfl (isState_is P0 q _) rfl ?_
  rintro e W4 ⟨rfl, hb⟩
  refine ⟨_, rfl, hb, fun hS' => ?_⟩
  clear hS; have hS := hS'; clear hS' hb
  refine op_wantedF (d := 12) rfl rfl ?_
  refine op_not rfl rfl ?_
  refine op_pickF rfl rfl rfl ?_
  refine op_move rfl rfl ?_
  refine op_cases (d := 19) rfl (fun hc => ?_) (fun hc => ?_)
  ·have hg19 := hc; clear hc
   have e2 : inQ q P0.st = false := by simpa using hg19
   refine op_notF (d := 19) rfl rfl rfl rfl ?_
   refine op_notF (d := 19) rfl rfl rfl rfl ?_
   refine op_notF (d := 19) rfl rfl rfl rfl ?_
   refine op_notF (d := 19) rfl rfl rfl rfl ?_
   refine op_notF (d := 19) rfl rfl rfl rfl ?_
   refine op_pickT rfl rfl rfl ?_
   refine op_move rfl rfl ?_
   refine op_notF (d := 26) rfl rfl rfl rfl ?_
   refine op_notF (d := 26) rfl rfl rfl rfl ?_
   refine op_notF (d := 26) rfl rfl rfl rfl ?_
   refine op_notF (d := 26) rfl rfl rfl rfl ?_
   refine op_pickT rfl rfl rfl ?_
   refine endF (XF.thenN ?_)
   refine condT rfl ?_
   refine seqF (regF ?_)
   refine op_assign rfl rfl ?_
   refine endF (XF.thenN ?_)
   refine retF ?_
   refine XF.thenR ?_
   refine XF.res (res1 Try.results57 rfl) ?_
   exact ⟨rbool (by simp [ruleB, e1, e2]), hS.below⟩
  ·have hg19 := hc; clear hc
   have e2 : inQ q P0.st = true := by simpa using hg19
   refine op_wantedF (d := 19) rfl rfl ?_
   refine op_loadA (vs := [_, _, _, _, _, _]) Try.isAgg28 Try.sizeOf28 rfl (CellsAt.own (j := 0) (m := 6) (hS.at_ 1 rfl) rfl) rfl ?_
   refine op_wantedF (d := 19) rfl rfl ?_
   refine op_field (o' := 1) fa_47_1 rfl rfl rfl ?_
   refine op_wantedF (d := 19) rfl rfl ?_
   refine op_load Try.isAgg3 rfl (cell_own (hS.at_ 0 rfl) rfl) rfl ?_
   refine op_wantedF (d := 19) rfl rfl ?_
   refine op_call (vs := [_, _]) hS goes_83 rfl (isSymbol_is P0 g _) rfl ?_
   rintro e W5 ⟨rfl, hb⟩
   refine ⟨_, rfl, hb, fun hS' => ?_⟩
   clear hS; have hS := hS'; clear hS' hb
   refine op_wantedF (d := 19) rfl rfl ?_
   refine op_not rfl rfl ?_
   refine op_pickF rfl rfl rfl ?_
   refine op_move rfl rfl ?_
   refine op_cases (d := 26) rfl (fun hc => ?_) (fun hc => ?_)
   ·have hg26 := hc; clear hc
    have e3 : inQ g P0.sy = false := by simpa using hg26
    refine op_notF (d := 26) rfl rfl rfl rfl ?_
    refine op_notF (d := 26) rfl rfl rfl rfl ?_
    refine op_notF (d := 26) rfl rfl rfl rfl ?_
    refine op_notF (d := 26) rfl rfl rfl rfl ?_
    refine op_pickT rfl rfl rfl ?_
    refine endF (XF.thenN ?_)
    refine condT rfl ?_
    refine seqF (regF ?_)
    refine op_assign rfl rfl ?_
    refine endF (XF.thenN ?_)
    refine retF ?_
    refine XF.thenR ?_
    refine XF.res (res1 Try.results57 rfl) ?_
    exact ⟨rbool (by simp [ruleB, e1, e2, e3]), hS.below⟩
   ·have hg26 := hc; clear hc
    have e3 : inQ g P0.sy = true := by simpa using hg26
    refine op_wantedF (d := 26) rfl rfl ?_
    refine op_field (o' := 3) fa_47_3 rfl rfl rfl ?_
    refine op_wantedF (d := 26) rfl rfl ?_
    refine op_load Try.isAgg29 rfl (cell_own (hS.at_ 0 rfl) rfl) rfl ?_
    refine op_wantedF (d := 26) rfl rfl ?_
    refine op_len Try.underlying29 rfl rfl ?_
    refine op_wantedF (d := 26) rfl rfl ?_
    refine op_gtr rfl rfl rfl ?_
    refine op_pickF rfl rfl rfl ?_
    refine endF (XF.thenN ?_)
    refine condF rfl (fun hc => ?_) (fun hc => ?_)
    ·have hc31 := of_decide_eq_true hc; clear hc
     have e4 : decide (wl ≤ 4096) = false := by simp; omega
     refine seqF (regF ?_)
     refine op_assign rfl rfl ?_
     refine endF (XF.thenN ?_)
     refine retF ?_
     refine XF.thenR ?_
     refine XF.res (res1 Try.results57 rfl) ?_
     exact ⟨rbool (by simp [ruleB, e1, e2, e3, e4]), hS.below⟩
    ·have hc31 := of_decide_eq_false hc; clear hc
     have e4 : decide (wl ≤ 4096) = true := by simp; omega
     refine skipF ?_
     refine XF.thenN ?_
     refine seqF ?_
     refine seqF (regF ?_)
     refine op_field (o' := 3) fa_47_3 rfl rfl rfl ?_
     refine op_load Try.isAgg29 rfl (cell_own (hS.at_ 0 rfl) rfl) rfl ?_
     refine op_len Try.underlying29 rfl rfl ?_
     refine op_move rfl rfl ?_
     refine endF (XF.thenN ?_)
     refine blockF ?_
     refine loopF (fun m l W => ∃ i : Nat, i ≤ wl ∧ m = wl - i ∧ l = [(2, .pointer (some ⟨B1, 0, none⟩)), (33, .slice wa wl wc), (34, .int .i64 (wl : Int)), (35, .int .i64 (i : Int))] ∧ (ws.take i).all (fun y => inQ y P0.sy) = true ∧ St w [(B2, [.int .i64 p, .int .i64 g, .int .i64 q, .slice wa wl wc, .bool x.f.z, .int .i64 x.f.c, .int .u64 (x.f.g : Int), .slice x.f.ra x.f.rl x.f.rc, .slice x.f.ca x.f.cl x.f.cc, .slice x.f.pa x.f.pl x.f.pc], 47), (B1, P0.six, 28)] [] [] W) (wl - 0) ([(2, _), (33, _), (34, _), (35, _)]) ⟨rfl, rfl, rfl, rfl, trivial⟩ (⟨0, Nat.zero_le _, rfl, rfl, rfl, hS.clear⟩) ?_
     clear hS
     rintro m l W ⟨i, hi, rfl, rfl, hall, hS⟩
     refine seqF (regF ?_)
     refine op_lss rfl rfl rfl ?_
     refine endF (XF.thenN ?_)
     refine seqF ?_
     refine condF rfl (fun hc => ?_) (fun hc => ?_)
     ·have hc36 := of_decide_eq_true hc; clear hc
      have hk : i < wl := by omega
      obtain ⟨b, off, y, rfl, hy, hyc⟩ := hrow.at1 (show i < ws.length by omega)
      have k1 := hS.old hyc
      refine skipF ?_
      refine XF.thenN ?_
      refine seqF ?_
      refine blockF ?_
      refine seqF (regF ?_)
      refine op_indexA  Try.underlying29 Try.sizeOf3 rfl rfl rfl (by omega) rfl rfl ?_
      refine op_load Try.isAgg3 rfl (by first | assumption | exact hS.old (by assumption)) rfl ?_
      refine op_assign rfl rfl ?_
      refine endF (XF.thenN ?_)
      refine seqF (regF ?_)
      refine op_loadA (vs := [_, _, _, _, _, _]) Try.isAgg28 Try.sizeOf28 rfl (CellsAt.own (j := 0) (m := 6) (hS.at_ 1 rfl) rfl) rfl ?_
      refine op_move rfl rfl ?_
      refine op_call (vs := [_, _]) hS goes_83 rfl (isSymbol_is P0 y _) rfl ?_
      rintro e W6 ⟨rfl, hb⟩
      refine ⟨_, rfl, hb, fun hS' => ?_⟩
      clear hS; have hS := hS'; clear hS' hb
      refine op_not rfl rfl ?_
      refine endF (XF.thenN ?_)
      refine condF rfl (fun hc => ?_) (fun hc => ?_)
      ·have hc42 := hc; clear hc
       refine seqF (regF ?_)
       refine op_assign rfl rfl ?_
       refine endF (XF.thenN ?_)
       refine retF ?_
       refine XF.blkR ?_
       refine XF.thenR ?_
       refine XF.thenR ?_
       refine XF.blkR ?_
       refine XF.thenR ?_
       refine XF.res (res1 Try.results57 rfl) ?_
       exact ⟨rbool (by simp only [ruleB]; rw [all_false_at hy (by simpa using hc42)]; simp), hS.below⟩
      ·have hc42 := hc; clear hc
       refine skipF ?_
       refine XF.blkN ?_
       refine XF.thenN ?_
       refine regF ?_
       refine op_add rfl rfl (IntWalk.i64_in _ (by omega)) rfl ?_
       refine op_move rfl rfl ?_
       refine endF ?_
       exact XF.round (wl - (i + 1)) [(2, _), (33, _), (34, _), (35, _)] (by omega) ⟨rfl, rfl, rfl, rfl, trivial⟩ ⟨i + 1, by omega, rfl, rfl, all_take_at hy hall (by simpa using hc42), hS.clear⟩
     ·have hc36 := of_decide_eq_false hc; clear hc
      refine exitF ?_
      refine XF.thenX ?_
      refine XF.thenX ?_
      refine XF.blkX ?_
      refine XF.thenN ?_
      refine seqF (regF ?_)
      refine op_assign rfl rfl ?_
      refine endF (XF.thenN ?_)
      refine retF ?_
      refine XF.res (res1 Try.results57 rfl) ?_
      rw [List.take_of_length_le (by omega)] at hall
      exact ⟨rbool (by simp [ruleB, e1, e2, e3, e4, hall]), hS.below⟩
theorem ruleR_c (P0 : PV) (p g q : Int) (wa : Option Addr) (wl wc : Nat) (ws : List Int) (x : WV) (w : World) (hrow : Row w wa ws) (hlen : ws.length = wl) :
  Calls Try.prog 71 #[P0.val, .agg #[.int .i64 p, .int .i64 g, .int .i64 q, .slice wa wl wc, .bool x.f.z, .int .i64 x.f.c, .int .u64 (x.f.g : Int), .slice x.f.ra x.f.rl x.f.rc, .slice x.f.ca x.f.cl x.f.cc, .slice x.f.pa x.f.pl x.f.pc]] w (fun e w' => e = .returned (.bool (ruleB P0.st P0.sy ⟨p, g, q, wa, wl, wc, ws, x⟩)) ∧ Below w.heap.size w w') := by
 refine enterF (args := [P0.val, .agg #[.int .i64 p, .int .i64 g, .int .i64 q, .slice wa wl wc, .bool x.f.z, .int .i64 x.f.c, .int .u64 (x.f.g : Int), .slice x.f.ra x.f.rl x.f.rc, .slice x.f.ca x.f.cl x.f.cc, .slice x.f.pa x.f.pl x.f.pc]]) Try.func71 rfl Try.ntmps71 rfl ?_
 have hS := St.start w
 refine seqF (regF ?_)
 refine op_box (cs := [_, _, _, _, _, _]) hS rfl rfl rfl ?_
 clear hS; intro B1 W1 hS
 refine op_box (cs := [_, _, _, _, _, _, _, _, _, _]) hS rfl rfl rfl ?_
 clear hS; intro B2 W2 hS
 refine op_assign rfl rfl ?_
 refine endF (XF.thenN ?_)
 refine seqF ?_
 refine seqF (regF ?_)
 refine op_field (o' := 0) fa_47_0 rfl rfl rfl ?_
 refine op_load Try.isAgg3 rfl (cell_own (hS.at_ 0 rfl) rfl) rfl ?_
 refine op_field (o' := 3) fa_28_1 rfl rfl rfl ?_
 refine op_load Try.isAgg3 rfl (cell_own (hS.at_ 1 rfl) rfl) rfl ?_
 refine op_call (vs := [_, _]) hS goes_98 rfl (inR_is p P0.st _) rfl ?_
 rintro e W3 ⟨rfl, hb⟩
 refine ⟨_, rfl, hb, fun hS' => ?_⟩
 clear hS; have hS := hS'; clear hS' hb
 refine op_not rfl rfl ?_
 refine op_move rfl rfl ?_
 refine op_cases (d := 12) rfl (fun hc => ?_) (fun hc => ?_)
 ·have hg12 := hc; clear hc
  have e1 : inQ p P0.st = false := by simpa using hg12
  refine op_notF (d := 12) rfl rfl rfl rfl ?_
  refine op_notF (d := 12) rfl rfl rfl rfl ?_
  refine op_notF (d := 12) rfl rfl rfl rfl ?_
  refine op_notF (d := 12) rfl rfl rfl rfl ?_
  refine op_notF (d := 12) rfl rfl rfl rfl ?_
  refine op_notF (d := 12) rfl rfl rfl rfl ?_
  refine op_pickT rfl rfl rfl ?_
  refine op_move rfl rfl ?_
  refine op_notF (d := 20) rfl rfl rfl rfl ?_
  refine op_notF (d := 20) rfl rfl rfl rfl ?_
  refine op_notF (d := 20) rfl rfl rfl rfl ?_
  refine op_notF (d := 20) rfl rfl rfl rfl ?_
  refine op_notF (d := 20) rfl rfl rfl rfl ?_
  refine op_notF (d := 20) rfl rfl rfl rfl ?_
  refine op_pickT rfl rfl rfl ?_
  refine op_move rfl rfl ?_
  refine op_notF (d := 28) rfl rfl rfl rfl ?_
  refine op_notF (d := 28) rfl rfl rfl rfl ?_
  refine op_notF (d := 28) rfl rfl rfl rfl ?_
  refine op_notF (d := 28) rfl rfl rfl rfl ?_
  refine op_pickT rfl rfl rfl ?_
  refine endF (XF.thenN ?_)
  refine condT rfl ?_
  refine seqF (regF ?_)
  refine op_assign rfl rfl ?_
  refine endF (XF.thenN ?_)
  refine retF ?_
  refine XF.thenR ?_
  refine XF.res (res1 Try.results71 rfl) ?_
  exact ⟨rbool (by simp [ruleB, e1]), hS.below⟩
 ·have hg12 := hc; clear hc
  have e1 : inQ p P0.st = true := by simpa using hg12
  refine op_wantedF (d := 12) rfl rfl ?_
  refine op_field (o' := 2) fa_47_2 rfl rfl rfl ?_
  refine op_wantedF (d := 12) rfl rfl ?_
  refine op_load Try.isAgg3 rfl (cell_own (hS.at_ 0 rfl) rfl) rfl ?_
  refine op_wantedF (d := 12) rfl rfl ?_
  refine op_field (o' := 3) fa_28_1 rfl rfl rfl ?_
  refine op_wantedF (d := 12) rfl rfl ?_
  refine op_load Try.isAgg3 rfl (cell_own (hS.at_ 1 rfl) rfl) rfl ?_
  refine op_wantedF (d := 12) rfl rfl ?_
  refine op_call (vs := [_, _]) hS goes_98 rfl (inR_is q P0.st _) rfl ?_
  rintro e W4 ⟨rfl, hb⟩
  refine ⟨_, rfl, hb, fun hS' => ?_⟩
  clear hS; have hS := hS'; clear hS' hb
  refine op_wantedF (d := 12) rfl rfl ?_
  refine op_not rfl rfl ?_
  refine op_pickF rfl rfl rfl ?_
  refine op_move rfl rfl ?_
  refine op_cases (d := 20) rfl (fun hc => ?_) (fun hc => ?_)
  ·have hg20 := hc; clear hc
   have e2 : inQ q P0.st = false := by simpa using hg20
   refine op_notF (d := 20) rfl rfl rfl rfl ?_
   refine op_notF (d := 20) rfl rfl rfl rfl ?_
   refine op_notF (d := 20) rfl rfl rfl rfl ?_
   refine op_notF (d := 20) rfl rfl rfl rfl ?_
   refine op_notF (d := 20) rfl rfl rfl rfl ?_
   refine op_notF (d := 20) rfl rfl rfl rfl ?_
   refine op_pickT rfl rfl rfl ?_
   refine op_move rfl rfl ?_
   refine op_notF (d := 28) rfl rfl rfl rfl ?_
   refine op_notF (d := 28) rfl rfl rfl rfl ?_
   refine op_notF (d := 28) rfl rfl rfl rfl ?_
   refine op_notF (d := 28) rfl rfl rfl rfl ?_
   refine op_pickT rfl rfl rfl ?_
   refine endF (XF.thenN ?_)
   refine condT rfl ?_
   refine seqF (regF ?_)
   refine op_assign rfl rfl ?_
   refine endF (XF.thenN ?_)
   refine retF ?_
   refine XF.thenR ?_
   refine XF.res (res1 Try.results71 rfl) ?_
   exact ⟨rbool (by simp [ruleB, e1, e2]), hS.below⟩
  ·have hg20 := hc; clear hc
   have e2 : inQ q P0.st = true := by simpa using hg20
   refine op_wantedF (d := 20) rfl rfl ?_
   refine op_field (o' := 1) fa_47_1 rfl rfl rfl ?_
   refine op_wantedF (d := 20) rfl rfl ?_
   refine op_load Try.isAgg3 rfl (cell_own (hS.at_ 0 rfl) rfl) rfl ?_
   refine op_wantedF (d := 20) rfl rfl ?_
   refine op_field (o' := 4) fa_28_2 rfl rfl rfl ?_
   refine op_wantedF (d := 20) rfl rfl ?_
   refine op_load Try.isAgg3 rfl (cell_own (hS.at_ 1 rfl) rfl) rfl ?_
   refine op_wantedF (d := 20) rfl rfl ?_
   refine op_call (vs := [_, _]) hS goes_98 rfl (inR_is g P0.sy _) rfl ?_
   rintro e W5 ⟨rfl, hb⟩
   refine ⟨_, rfl, hb, fun hS' => ?_⟩
   clear hS; have hS := hS'; clear hS' hb
   refine op_wantedF (d := 20) rfl rfl ?_
   refine op_not rfl rfl ?_
   refine op_pickF rfl rfl rfl ?_
   refine op_move rfl rfl ?_
   refine op_cases (d := 28) rfl (fun hc => ?_) (fun hc => ?_)
   ·have hg28 := hc; clear hc
    have e3 : inQ g P0.sy = false := by simpa using hg28
    refine op_notF (d := 28) rfl rfl rfl rfl ?_
    refine op_notF (d := 28) rfl rfl rfl rfl ?_
    refine op_notF (d := 28) rfl rfl rfl rfl ?_
    refine op_notF (d := 28) rfl rfl rfl rfl ?_
    refine op_pickT rfl rfl rfl ?_
    refine endF (XF.thenN ?_)
    refine condT rfl ?_
    refine seqF (regF ?_)
    refine op_assign rfl rfl ?_
    refine endF (XF.thenN ?_)
    refine retF ?_
    refine XF.thenR ?_
    refine XF.res (res1 Try.results71 rfl) ?_
    exact ⟨rbool (by simp [ruleB, e1, e2, e3]), hS.below⟩
   ·have hg28 := hc; clear hc
    have e3 : inQ g P0.sy = true := by simpa using hg28
    refine op_wantedF (d := 28) rfl rfl ?_
    refine op_field (o' := 3) fa_47_3 rfl rfl rfl ?_
    refine op_wantedF (d := 28) rfl rfl ?_
    refine op_load Try.isAgg29 rfl (cell_own (hS.at_ 0 rfl) rfl) rfl ?_
    refine op_wantedF (d := 28) rfl rfl ?_
    refine op_len Try.underlying29 rfl rfl ?_
    refine op_wantedF (d := 28) rfl rfl ?_
    refine op_gtr rfl rfl rfl ?_
    refine op_pickF rfl rfl rfl ?_
    refine endF (XF.thenN ?_)
    refine condF rfl (fun hc => ?_) (fun hc => ?_)
    ·have hc33 := of_decide_eq_true hc; clear hc
     have e4 : decide (wl ≤ 4096) = false := by simp; omega
     refine seqF (regF ?_)
     refine op_assign rfl rfl ?_
     refine endF (XF.thenN ?_)
     refine retF ?_
     refine XF.thenR ?_
     refine XF.res (res1 Try.results71 rfl) ?_
     exact ⟨rbool (by simp [ruleB, e1, e2, e3, e4]), hS.below⟩
    ·have hc33 := of_decide_eq_false hc; clear hc
     have e4 : decide (wl ≤ 4096) = true := by simp; omega
     refine skipF ?_
     refine XF.thenN ?_
     refine seqF ?_
     refine seqF (regF ?_)
     refine op_assign rfl rfl ?_
     refine endF (XF.thenN ?_)
     refine blockF ?_
     refine loopF (fun m l W => ∃ i : Nat, i ≤ wl ∧ m = wl - i ∧ l = [(2, .pointer (some ⟨B1, 0, none⟩)), (3, .pointer (some ⟨B2, 0, none⟩)), (5, .int .i64 (i : Int))] ∧ (ws.take i).all (fun y => inQ y P0.sy) = true ∧ St w [(B2, [.int .i64 p, .int .i64 g, .int .i64 q, .slice wa wl wc, .bool x.f.z, .int .i64 x.f.c, .int .u64 (x.f.g : Int), .slice x.f.ra x.f.rl x.f.rc, .slice x.f.ca x.f.cl x.f.cc, .slice x.f.pa x.f.pl x.f.pc], 47), (B1, P0.six, 28)] [] [] W) (wl - 0) ([(2, _), (3, _), (5, _)]) ⟨rfl, rfl, rfl, trivial⟩ (⟨0, Nat.zero_le _, rfl, rfl, rfl, hS.clear⟩) ?_
     clear hS
     rintro m l W ⟨i, hi, rfl, rfl, hall, hS⟩
     refine seqF ?_
     refine seqF (regF ?_)
     refine op_move rfl rfl ?_
     refine op_field (o' := 3) fa_47_3 rfl rfl rfl ?_
     refine op_load Try.isAgg29 rfl (cell_own (hS.at_ 0 rfl) rfl) rfl ?_
     refine op_len Try.underlying29 rfl rfl ?_
     refine op_lss rfl rfl rfl ?_
     refine endF (XF.thenN ?_)
     refine condF rfl (fun hc => ?_) (fun hc => ?_)
     ·have hc38 := of_decide_eq_true hc; clear hc
      have hk : i < wl := by omega
      obtain ⟨b, off, y, rfl, hy, hyc⟩ := hrow.at1 (show i < ws.length by omega)
      have k1 := hS.old hyc
      refine skipF ?_
      refine XF.thenN ?_
      refine seqF ?_
      refine blockF ?_
      refine seqF ?_
      refine regB (m := 9) followsM hS (by kernel_rfl) (by kernel_rfl) rfl ?_
      refine bl_cons 1 rfl (isV _) (stab_isV _) (rgV (li := [(3, _)]) rfl (w_free rfl) ⟨g_fr (by kernel_rfl) rfl, trivial⟩ (fun w hw => rn_field (o' := 3) fa_47_3 rfl rfl) (at_top rfl)) ?_
      refine bl_cons 2 rfl (isV _) (stab_isV _) (rgV (li := [(41, _)]) rfl (w_free rfl) ⟨g_dep 0 (by kernel_rfl) (at_dep rfl rfl rfl), trivial⟩ (fun w hw => rn_load Try.isAgg29 rfl ((below_agree hw 0).cell (Nat.zero_le _) (cell_own (hS.at_ 0 rfl) rfl))) (at_top rfl)) ?_
      refine bl_cons 3 rfl (isV _) (stab_isV _) (rgV (li := [(5, _)]) rfl (w_free rfl) ⟨g_fr (by kernel_rfl) rfl, trivial⟩ (fun w hw => rn_move rfl) (at_top rfl)) ?_
      refine bl_cons 4 rfl (isV _) (stab_isV _) (rgV (li := [(42, _), (43, _)]) rfl (w_free rfl) ⟨g_dep 1 (by kernel_rfl) (at_dep rfl rfl rfl), g_dep 2 (by kernel_rfl) (at_dep rfl rfl rfl), trivial⟩ (fun w hw => rn_indexA  Try.underlying29 Try.sizeOf3 rfl rfl rfl (by omega) rfl) (at_top rfl)) ?_
      refine bl_cons 5 rfl (isV _) (stab_isV _) (rgV (li := [(44, _)]) rfl (w_free rfl) ⟨g_dep 3 (by kernel_rfl) (at_dep rfl rfl rfl), trivial⟩ (fun w hw => rn_load Try.isAgg3 rfl ((below_agree hw 0).cell (Nat.zero_le _) (by assumption))) (at_top rfl)) ?_
      refine bl_cons 6 rfl (isV _) (stab_isV _) (rgV (li := [(2, _)]) rfl (w_free rfl) ⟨g_fr (by kernel_rfl) rfl, trivial⟩ (fun w hw => rn_field (o' := 4) fa_28_2 rfl rfl) (at_top rfl)) ?_
      refine bl_cons 7 rfl (isV _) (stab_isV _) (rgV (li := [(46, _)]) rfl (w_free rfl) ⟨g_dep 5 (by kernel_rfl) (at_dep rfl rfl rfl), trivial⟩ (fun w hw => rn_load Try.isAgg3 rfl ((below_agree hw 0).cell (Nat.zero_le _) (cell_own (hS.at_ 1 rfl) rfl))) (at_top rfl)) ?_
      refine bl_cons 8 rfl (isV (.bool (inQ y P0.sy))) (stab_isV _) (rg_call [isV _, isV _] rfl goes_98 (w_free rfl) ⟨p_tmp (g_dep 4 (by kernel_rfl) (at_dep rfl rfl rfl)), p_tmp (g_dep 6 (by kernel_rfl) (at_dep rfl rfl rfl)), trivial⟩ (fun vs w' hb hh => by have e := holds_isV (us := [_, _]) hh; subst e; exact (inR_is y P0.sy _).mono fun e w2 h => ⟨_, h.1, rfl, h.2⟩) (at_top rfl)) ?_
      refine bl_cons 9 rfl (isV _) (stab_isV _) (rgV (li := [(48, _)]) rfl (w_free rfl) ⟨g_dep 7 (by kernel_rfl) (at_dep rfl rfl rfl), trivial⟩ (fun w hw => rn_not rfl) (at_top rfl)) ?_
      refine bl_nil ?_
      intro W6 hbR hS'
      clear hS; have hS := hS'; clear hS'
      refine fin_v ?_
      refine fin_v ?_
      refine fin_v ?_
      refine fin_v ?_
      refine fin_v ?_
      refine fin_v ?_
      refine fin_v ?_
      refine fin_v ?_
      refine fin_v ?_
      refine fin_nil ?_
      refine XF.thenN ?_
      refine condF rfl (fun hc => ?_) (fun hc => ?_)
      ·have hc49 := hc; clear hc
       refine seqF (regF ?_)
       refine op_assign rfl rfl ?_
       refine endF (XF.thenN ?_)
       refine retF ?_
       refine XF.blkR ?_
       refine XF.thenR ?_
       refine XF.thenR ?_
       refine XF.blkR ?_
       refine XF.thenR ?_
       refine XF.res (res1 Try.results71 rfl) ?_
       exact ⟨rbool (by simp only [ruleB]; rw [all_false_at hy (by simpa using hc49)]; simp), hS.below⟩
      ·have hc49 := hc; clear hc
       refine skipF ?_
       refine XF.blkN ?_
       refine XF.thenN ?_
       refine regF ?_
       refine op_move rfl rfl ?_
       refine op_add rfl rfl (IntWalk.i64_in _ (by omega)) rfl ?_
       refine op_assign rfl rfl ?_
       refine endF ?_
       exact XF.round (wl - (i + 1)) [(2, _), (3, _), (5, _)] (by omega) ⟨rfl, rfl, rfl, trivial⟩ ⟨i + 1, by omega, rfl, rfl, all_take_at hy hall (by simpa using hc49), hS.clear⟩
     ·have hc38 := of_decide_eq_false hc; clear hc
      refine exitF ?_
      refine XF.thenX ?_
      refine XF.thenX ?_
      refine XF.blkX ?_
      refine XF.thenN ?_
      refine seqF (regF ?_)
      refine op_assign rfl rfl ?_
      refine endF (XF.thenN ?_)
      refine retF ?_
      refine XF.res (res1 Try.results71 rfl) ?_
      rw [List.take_of_length_le (by omega)] at hall
      exact ⟨rbool (by simp [ruleB, e1, e2, e3, e4, hall]), hS.below⟩
theorem ruleA_is {w : World} {d : Nat} (P0 : PV) {r : RV} (h : RIn w d r) : Calls Try.prog 57 #[P0.val, r.val] w (fun e w' => e = .returned (.bool (ruleB P0.st P0.sy r)) ∧ Below w.heap.size w w') := ruleA_c P0 _ _ _ _ _ _ _ _ w h.row h.len
theorem ruleR_is {w : World} {d : Nat} (P0 : PV) {r : RV} (h : RIn w d r) : Calls Try.prog 71 #[P0.val, r.val] w (fun e w' => e = .returned (.bool (ruleB P0.st P0.sy r)) ∧ Below w.heap.size w w') := ruleR_c P0 _ _ _ _ _ _ _ _ w h.row h.len
end Go.Proofs.Ytpkcaabbcoiiiaa
namespace Go.Proofs.Ytpkcaabbcoiiiaa
open Go Go.RowKit
theorem pdsA_c (ds d : Nat) (s : SV) (st sy : Int) (ra : Option Addr) (rl rc : Nat) (rs : List RV) (w : World) (hs : SIn w ds s) (hrow : RRow w ra rs) (hlen : rs.length = rl) (hin : ∀ r ∈ rs, RIn w d r) :
  Calls Try.prog 30 #[.agg #[.int .i64 s.f.tag, .int .i64 s.f.dim, .slice s.f.a s.f.len s.f.cap, .int .i64 st, .int .i64 sy, .slice ra rl rc]] w (fun e w' => e = .returned (.int .i64 (pdsE ⟨s, st, sy, ra, rl, rc, rs⟩)) ∧ Below w.heap.size w w') := by
 refine enterF (args := [.agg #[.int .i64 s.f.tag, .int .i64 s.f.dim, .slice s.f.a s.f.len s.f.cap, .int .i64 st, .int .i64 sy, .slice ra rl rc]]) Try.func30 rfl Try.ntmps30 rfl ?_
 have hS := St.start w
 refine seqF (regF ?_)
 refine op_box (cs := [_, _, _, _, _, _]) hS rfl rfl rfl ?_
 clear hS; intro B1 W1 hS
 refine op_assign rfl rfl ?_
 refine endF (XF.thenN ?_)
 refine seqF ?_
 refine seqF (regF ?_)
 refine op_field (o' := 0) fa_28_0 rfl rfl rfl ?_
 refine op_loadA (vs := [_, _, _]) Try.isAgg25 Try.sizeOf25 rfl (CellsAt.own (j := 0) (m := 3) (hS.at_ 0 rfl) rfl) rfl ?_
 refine op_call (vs := [_]) hS goes_56 rfl (spaceA_is ds s _ _ (SIn.below hS.below hs) rfl) rfl ?_
 rintro e W2 ⟨rfl, hb⟩
 refine ⟨_, rfl, hb, fun hS' => ?_⟩
 clear hS; have hS := hS'; clear hS' hb
 refine op_assign rfl rfl ?_
 refine endF (XF.thenN ?_)
 refine seqF (regF ?_)
 refine op_move rfl rfl ?_
 refine op_neq rfl rfl rfl ?_
 refine endF (XF.thenN ?_)
 refine condF rfl (fun hc => ?_) (fun hc => ?_)
 ·have hc13 := of_decide_eq_true hc; clear hc
  refine seqF (regF ?_)
  refine op_move rfl rfl ?_
  refine op_assign rfl rfl ?_
  refine endF (XF.thenN ?_)
  refine retF ?_
  refine XF.thenR ?_
  refine XF.res (res1 Try.results30 rfl) ?_
  exact ⟨rint (by simp only [pdsE]; rw [if_pos hc13]), hS.below⟩
 ·have hc13 := of_decide_eq_false hc; clear hc
  have h0 : ¬ spaceE s ≠ 0 := hc13
  refine skipF ?_
  refine XF.thenN ?_
  refine seqF ?_
  refine seqF (regF ?_)
  refine op_field (o' := 5) fa_28_3 rfl rfl rfl ?_
  refine op_load Try.isAgg26 rfl (cell_own (hS.at_ 0 rfl) rfl) rfl ?_
  refine op_len Try.underlying26 rfl rfl ?_
  refine op_gtr rfl rfl rfl ?_
  refine endF (XF.thenN ?_)
  refine condF rfl (fun hc => ?_) (fun hc => ?_)
  ·have hc18 := of_decide_eq_true hc; clear hc
   refine seqF (regF ?_)
   refine op_assign rfl rfl ?_
   refine endF (XF.thenN ?_)
   refine retF ?_
   refine XF.thenR ?_
   refine XF.res (res1 Try.results30 rfl) ?_
   exact ⟨rint (by simp only [pdsE]; rw [if_neg h0, if_pos (by omega)]), hS.below⟩
  ·have hc18 := of_decide_eq_false hc; clear hc
   have h1 : ¬ 16384 < rl := by omega
   refine skipF ?_
   refine XF.thenN ?_
   refine seqF ?_
   refine seqF (regF ?_)
   refine op_field (o' := 3) fa_28_1 rfl rfl rfl ?_
   refine op_load Try.isAgg3 rfl (cell_own (hS.at_ 0 rfl) rfl) rfl ?_
   refine op_lss rfl rfl rfl ?_
   refine op_move rfl rfl ?_
   refine op_cases (d := 22) rfl (fun hc => ?_) (fun hc => ?_)
   ·have hg22 := of_decide_eq_true hc; clear hc
    refine op_notF (d := 22) rfl rfl rfl rfl ?_
    refine op_notF (d := 22) rfl rfl rfl rfl ?_
    refine op_notF (d := 22) rfl rfl rfl rfl ?_
    refine op_pickT rfl rfl rfl ?_
    refine op_move rfl rfl ?_
    refine op_notF (d := 27) rfl rfl rfl rfl ?_
    refine op_notF (d := 27) rfl rfl rfl rfl ?_
    refine op_notF (d := 27) rfl rfl rfl rfl ?_
    refine op_pickT rfl rfl rfl ?_
    refine op_move rfl rfl ?_
    refine op_notF (d := 32) rfl rfl rfl rfl ?_
    refine op_notF (d := 32) rfl rfl rfl rfl ?_
    refine op_notF (d := 32) rfl rfl rfl rfl ?_
    refine op_pickT rfl rfl rfl ?_
    refine endF (XF.thenN ?_)
    refine condT rfl ?_
    refine seqF (regF ?_)
    refine op_assign rfl rfl ?_
    refine endF (XF.thenN ?_)
    refine retF ?_
    refine XF.thenR ?_
    refine XF.res (res1 Try.results30 rfl) ?_
    exact ⟨rint (by simp only [pdsE]; rw [if_neg h0, if_neg h1, if_pos (by omega)]), hS.below⟩
   ·have hg22 := of_decide_eq_false hc; clear hc
    refine op_wantedF (d := 22) rfl rfl ?_
    refine op_field (o' := 3) fa_28_1 rfl rfl rfl ?_
    refine op_wantedF (d := 22) rfl rfl ?_
    refine op_load Try.isAgg3 rfl (cell_own (hS.at_ 0 rfl) rfl) rfl ?_
    refine op_wantedF (d := 22) rfl rfl ?_
    refine op_gtr rfl rfl rfl ?_
    refine op_pickF rfl rfl rfl ?_
    refine op_move rfl rfl ?_
    refine op_cases (d := 27) rfl (fun hc => ?_) (fun hc => ?_)
    ·have hg27 := of_decide_eq_true hc; clear hc
     refine op_notF (d := 27) rfl rfl rfl rfl ?_
     refine op_notF (d := 27) rfl rfl rfl rfl ?_
     refine op_notF (d := 27) rfl rfl rfl rfl ?_
     refine op_pickT rfl rfl rfl ?_
     refine op_move rfl rfl ?_
     refine op_notF (d := 32) rfl rfl rfl rfl ?_
     refine op_notF (d := 32) rfl rfl rfl rfl ?_
     refine op_notF (d := 32) rfl rfl rfl rfl ?_
     refine op_pickT rfl rfl rfl ?_
     refine endF (XF.thenN ?_)
     refine condT rfl ?_
     refine seqF (regF ?_)
     refine op_assign rfl rfl ?_
     refine endF (XF.thenN ?_)
     refine retF ?_
     refine XF.thenR ?_
     refine XF.res (res1 Try.results30 rfl) ?_
     exact ⟨rint (by simp only [pdsE]; rw [if_neg h0, if_neg h1, if_pos (by omega)]), hS.below⟩
    ·have hg27 := of_decide_eq_false hc; clear hc
     refine op_wantedF (d := 27) rfl rfl ?_
     refine op_field (o' := 4) fa_28_2 rfl rfl rfl ?_
     refine op_wantedF (d := 27) rfl rfl ?_
     refine op_load Try.isAgg3 rfl (cell_own (hS.at_ 0 rfl) rfl) rfl ?_
     refine op_wantedF (d := 27) rfl rfl ?_
     refine op_lss rfl rfl rfl ?_
     refine op_pickF rfl rfl rfl ?_
     refine op_move rfl rfl ?_
     refine op_cases (d := 32) rfl (fun hc => ?_) (fun hc => ?_)
     ·have hg32 := of_decide_eq_true hc; clear hc
      refine op_notF (d := 32) rfl rfl rfl rfl ?_
      refine op_notF (d := 32) rfl rfl rfl rfl ?_
      refine op_notF (d := 32) rfl rfl rfl rfl ?_
      refine op_pickT rfl rfl rfl ?_
      refine endF (XF.thenN ?_)
      refine condT rfl ?_
      refine seqF (regF ?_)
      refine op_assign rfl rfl ?_
      refine endF (XF.thenN ?_)
      refine retF ?_
      refine XF.thenR ?_
      refine XF.res (res1 Try.results30 rfl) ?_
      exact ⟨rint (by simp only [pdsE]; rw [if_neg h0, if_neg h1, if_pos (by omega)]), hS.below⟩
     ·have hg32 := of_decide_eq_false hc; clear hc
      refine op_wantedF (d := 32) rfl rfl ?_
      refine op_field (o' := 4) fa_28_2 rfl rfl rfl ?_
      refine op_wantedF (d := 32) rfl rfl ?_
      refine op_load Try.isAgg3 rfl (cell_own (hS.at_ 0 rfl) rfl) rfl ?_
      refine op_wantedF (d := 32) rfl rfl ?_
      refine op_gtr rfl rfl rfl ?_
      refine op_pickF rfl rfl rfl ?_
      refine endF (XF.thenN ?_)
      refine condF rfl (fun hc => ?_) (fun hc => ?_)
      ·have hc36 := of_decide_eq_true hc; clear hc
       refine seqF (regF ?_)
       refine op_assign rfl rfl ?_
       refine endF (XF.thenN ?_)
       refine retF ?_
       refine XF.thenR ?_
       refine XF.res (res1 Try.results30 rfl) ?_
       exact ⟨rint (by simp only [pdsE]; rw [if_neg h0, if_neg h1, if_pos (by omega)]), hS.below⟩
      ·have hc36 := of_decide_eq_false hc; clear hc
       have h2 : ¬ (st < 0 ∨ 4096 < st ∨ sy < 0 ∨ 4096 < sy) := by omega
       refine skipF ?_
       refine XF.thenN ?_
       refine seqF ?_
       refine seqF (regF ?_)
       refine op_field (o' := 5) fa_28_3 rfl rfl rfl ?_
       refine op_load Try.isAgg26 rfl (cell_own (hS.at_ 0 rfl) rfl) rfl ?_
       refine op_len Try.underlying26 rfl rfl ?_
       refine op_move rfl rfl ?_
       refine endF (XF.thenN ?_)
       refine blockF ?_
       refine loopF (fun m l W => ∃ i : Nat, i ≤ rl ∧ m = rl - i ∧ l = [(1, .pointer (some ⟨B1, 0, none⟩)), (38, .slice ra rl rc), (39, .int .i64 (rl : Int)), (40, .int .i64 (i : Int))] ∧ (rs.take i).all (ruleB st sy) = true ∧ St w [(B1, [.int .i64 s.f.tag, .int .i64 s.f.dim, .slice s.f.a s.f.len s.f.cap, .int .i64 st, .int .i64 sy, .slice ra rl rc], 28)] [] [] W) (rl - 0) ([(1, _), (38, _), (39, _), (40, _)]) ⟨rfl, rfl, rfl, rfl, trivial⟩ (⟨0, Nat.zero_le _, rfl, rfl, rfl, hS.clear⟩) ?_
       clear hS
       rintro m l W ⟨i, hi, rfl, rfl, hall, hS⟩
       refine seqF (regF ?_)
       refine op_lss rfl rfl rfl ?_
       refine endF (XF.thenN ?_)
       refine seqF ?_
       refine condF rfl (fun hc => ?_) (fun hc => ?_)
       ·have hc41 := of_decide_eq_true hc; clear hc
        have hk : i < rl := by omega
        obtain ⟨r, hr⟩ : ∃ r, rs[i]? = some r := ⟨rs[i]'(by omega), by simp [show i < rs.length by omega]⟩
        obtain ⟨b, off, rfl, hcs⟩ := hrow.at_ hr
        have k1 := CellsAt.agree hS.agree (Nat.zero_le _) hcs
        have k2 := k1.2.2.2.2
        have hri := hin r (List.mem_of_getElem? hr)
        refine skipF ?_
        refine XF.thenN ?_
        refine seqF ?_
        refine blockF ?_
        refine seqF (regF ?_)
        refine op_indexA  Try.underlying26 Try.sizeOf47 rfl rfl rfl (by omega) rfl rfl ?_
        refine op_loadA (vs := [_, _, _, _, _, _, _, _, _, _]) Try.isAgg47 Try.sizeOf47 rfl (by assumption) rfl ?_
        refine op_alloc (cs := [_, _, _, _, _, _, _, _, _, _]) hS Try.zeroValue47 rfl rfl ?_
        clear hS; intro B3 W3 hS
        refine op_storeA (i := 0) (vs := [_, _, _, _, _, _, _, _, _, _]) (cs' := [_, _, _, _, _, _, _, _, _, _]) (O' := [_, _]) hS Try.sizeOf47 rfl rfl rfl rfl rfl rfl rfl ?_
        clear hS; intro W4 hS
        refine endF (XF.thenN ?_)
        refine seqF (regF ?_)
        refine op_loadA (vs := [_, _, _, _, _, _]) Try.isAgg28 Try.sizeOf28 rfl (CellsAt.own (j := 0) (m := 6) (hS.at_ 1 rfl) rfl) rfl ?_
        refine op_loadA (vs := [_, _, _, _, _, _, _, _, _, _]) Try.isAgg47 Try.sizeOf47 rfl (CellsAt.own (j := 0) (m := 10) (hS.at_ 0 rfl) rfl) rfl ?_
        refine op_call (vs := [_, _]) hS goes_57 rfl (ruleA_is ⟨s, st, sy, _, rl, rc, rs⟩ (hri.below hS.below)) rfl ?_
        rintro e W5 ⟨rfl, hb⟩
        refine ⟨_, rfl, hb, fun hS' => ?_⟩
        clear hS; have hS := hS'; clear hS' hb
        refine op_not rfl rfl ?_
        refine endF (XF.thenN ?_)
        refine condF rfl (fun hc => ?_) (fun hc => ?_)
        ·have hc47 := hc; clear hc
         refine seqF (regF ?_)
         refine op_assign rfl rfl ?_
         refine endF (XF.thenN ?_)
         refine retF ?_
         refine XF.blkR ?_
         refine XF.thenR ?_
         refine XF.thenR ?_
         refine XF.blkR ?_
         refine XF.thenR ?_
         refine XF.res (res1 Try.results30 rfl) ?_
         exact ⟨rint (by simp only [pdsE]; rw [if_neg h0, if_neg h1, if_neg h2, if_neg (by rw [all_false_at hr (by simpa using hc47)]; simp)]), hS.below⟩
        ·have hc47 := hc; clear hc
         refine skipF ?_
         refine XF.blkN ?_
         refine XF.thenN ?_
         refine regF ?_
         refine op_add rfl rfl (IntWalk.i64_in _ (by omega)) rfl ?_
         refine op_move rfl rfl ?_
         refine endF ?_
         exact XF.round (rl - (i + 1)) [(1, _), (38, _), (39, _), (40, _)] (by omega) ⟨rfl, rfl, rfl, rfl, trivial⟩ ⟨i + 1, by omega, rfl, rfl, all_take_at hr hall (by simpa using hc47), hS.tail.clear⟩
       ·have hc41 := of_decide_eq_false hc; clear hc
        rw [List.take_of_length_le (by omega)] at hall
        refine exitF ?_
        refine XF.thenX ?_
        refine XF.thenX ?_
        refine XF.blkX ?_
        refine XF.thenN ?_
        refine seqF ?_
        refine seqF (regF ?_)
        refine op_field (o' := 5) fa_28_3 rfl rfl rfl ?_
        refine op_load Try.isAgg26 rfl (cell_own (hS.at_ 0 rfl) rfl) rfl ?_
        refine op_len Try.underlying26 rfl rfl ?_
        refine op_move rfl rfl ?_
        refine endF (XF.thenN ?_)
        refine blockF ?_
        refine loopF (fun m l W => ∃ i : Nat, i ≤ rl ∧ m = rl - i ∧ l = [(1, .pointer (some ⟨B1, 0, none⟩)), (50, .slice ra rl rc), (51, .int .i64 (rl : Int)), (52, .int .i64 (i : Int))] ∧ (rs.take i).all (fun r => decide (chkW s r.x = 0)) = true ∧ St w [(B1, [.int .i64 s.f.tag, .int .i64 s.f.dim, .slice s.f.a s.f.len s.f.cap, .int .i64 st, .int .i64 sy, .slice ra rl rc], 28)] [] [] W) (rl - 0) ([(1, _), (50, _), (51, _), (52, _)]) ⟨rfl, rfl, rfl, rfl, trivial⟩ (⟨0, Nat.zero_le _, rfl, rfl, rfl, hS.clear⟩) ?_
        clear hS
        rintro m l W ⟨i, hi, rfl, rfl, hall2, hS⟩
        refine seqF (regF ?_)
        refine op_lss rfl rfl rfl ?_
        refine endF (XF.thenN ?_)
        refine seqF ?_
        refine condF rfl (fun hc => ?_) (fun hc => ?_)
        ·have hc53 := of_decide_eq_true hc; clear hc
         have hk : i < rl := by omega
         obtain ⟨r, hr⟩ : ∃ r, rs[i]? = some r := ⟨rs[i]'(by omega), by simp [show i < rs.length by omega]⟩
         obtain ⟨b, off, rfl, hcs⟩ := hrow.at_ hr
         have k1 := CellsAt.agree hS.agree (Nat.zero_le _) hcs
         have k2 := k1.2.2.2.2
         have hri := hin r (List.mem_of_getElem? hr)
         refine skipF ?_
         refine XF.thenN ?_
         refine seqF ?_
         refine blockF ?_
         refine seqF (regF ?_)
         refine op_indexA  Try.underlying26 Try.sizeOf47 rfl rfl rfl (by omega) rfl rfl ?_
         refine op_loadA (vs := [_, _, _, _, _, _, _, _, _, _]) Try.isAgg47 Try.sizeOf47 rfl (by assumption) rfl ?_
         refine op_alloc (cs := [_, _, _, _, _, _, _, _, _, _]) hS Try.zeroValue47 rfl rfl ?_
         clear hS; intro B6 W6 hS
         refine op_storeA (i := 0) (vs := [_, _, _, _, _, _, _, _, _, _]) (cs' := [_, _, _, _, _, _, _, _, _, _]) (O' := [_, _]) hS Try.sizeOf47 rfl rfl rfl rfl rfl rfl rfl ?_
         clear hS; intro W7 hS
         refine endF (XF.thenN ?_)
         refine seqF (regF ?_)
         refine op_field (o' := 0) fa_28_0 rfl rfl rfl ?_
         refine op_loadA (vs := [_, _, _]) Try.isAgg25 Try.sizeOf25 rfl (CellsAt.own (j := 0) (m := 3) (hS.at_ 1 rfl) rfl) rfl ?_
         refine op_field (o' := 4) fa_47_4 rfl rfl rfl ?_
         refine op_loadA (vs := [_, _, _, _, _, _]) Try.isAgg45 Try.sizeOf45 rfl (CellsAt.own (j := 4) (m := 6) (hS.at_ 0 rfl) rfl) rfl ?_
         refine op_call (vs := [_, _]) hS goes_58 rfl (checkA_genY ds d s r.x _ (SIn.below hS.below hs) (WIn.below hS.below hri.x)) rfl ?_
         rintro e W8 ⟨rfl, hb⟩
         refine ⟨_, rfl, hb, fun hS' => ?_⟩
         clear hS; have hS := hS'; clear hS' hb
         refine op_assign rfl rfl ?_
         refine endF (XF.thenN ?_)
         refine seqF (regF ?_)
         refine op_move rfl rfl ?_
         refine op_neq rfl rfl rfl ?_
         refine endF (XF.thenN ?_)
         refine condF rfl (fun hc => ?_) (fun hc => ?_)
         ·have hc62 := of_decide_eq_true hc; clear hc
          refine seqF (regF ?_)
          refine op_move rfl rfl ?_
          refine op_assign rfl rfl ?_
          refine endF (XF.thenN ?_)
          refine retF ?_
          refine XF.blkR ?_
          refine XF.thenR ?_
          refine XF.thenR ?_
          refine XF.blkR ?_
          refine XF.thenR ?_
          refine XF.res (res1 Try.results30 rfl) ?_
          exact ⟨rint (by simp only [pdsE]; rw [if_neg h0, if_neg h1, if_neg h2, if_pos hall, wtE_at hr hall2 hc62]), hS.below⟩
         ·have hc62 := of_decide_eq_false hc; clear hc
          refine skipF ?_
          refine XF.blkN ?_
          refine XF.thenN ?_
          refine regF ?_
          refine op_add rfl rfl (IntWalk.i64_in _ (by omega)) rfl ?_
          refine op_move rfl rfl ?_
          refine endF ?_
          exact XF.round (rl - (i + 1)) [(1, _), (50, _), (51, _), (52, _)] (by omega) ⟨rfl, rfl, rfl, rfl, trivial⟩ ⟨i + 1, by omega, rfl, rfl, all_take_at hr hall2 (by simpa using hc62), hS.tail.clear⟩
        ·have hc53 := of_decide_eq_false hc; clear hc
         refine exitF ?_
         refine XF.thenX ?_
         refine XF.thenX ?_
         refine XF.blkX ?_
         refine XF.thenN ?_
         refine seqF (regF ?_)
         refine op_assign rfl rfl ?_
         refine endF (XF.thenN ?_)
         refine retF ?_
         refine XF.res (res1 Try.results30 rfl) ?_
         rw [List.take_of_length_le (by omega)] at hall2
         exact ⟨rint (by simp only [pdsE]; rw [if_neg h0, if_neg h1, if_neg h2, if_pos hall, wtE_all hall2]), hS.below⟩
theorem pdsR_c (ds d : Nat) (s : SV) (st sy : Int) (ra : Option Addr) (rl rc : Nat) (rs : List RV) (w : World) (hs : SIn w ds s) (hrow : RRow w ra rs) (hlen : rs.length = rl) (hin : ∀ r ∈ rs, RIn w d r) :
  Calls Try.prog 41 #[.agg #[.int .i64 s.f.tag, .int .i64 s.f.dim, .slice s.f.a s.f.len s.f.cap, .int .i64 st, .int .i64 sy, .slice ra rl rc]] w (fun e w' => e = .returned (.int .i64 (pdsE ⟨s, st, sy, ra, rl, rc, rs⟩)) ∧ Below w.heap.size w w') := by
 refine enterF (args := [.agg #[.int .i64 s.f.tag, .int .i64 s.f.dim, .slice s.f.a s.f.len s.f.cap, .int .i64 st, .int .i64 sy, .slice ra rl rc]]) Try.func41 rfl Try.ntmps41 rfl ?_
 have hS := St.start w
 refine seqF (regF ?_)
 refine op_box (cs := [_, _, _, _, _, _]) hS rfl rfl rfl ?_
 clear hS; intro B1 W1 hS
 refine op_assign rfl rfl ?_
 refine endF (XF.thenN ?_)
 refine seqF (regF ?_)
 refine op_field (o' := 0) fa_28_0 rfl rfl rfl ?_
 refine op_loadA (vs := [_, _, _]) Try.isAgg25 Try.sizeOf25 rfl (CellsAt.own (j := 0) (m := 3) (hS.at_ 0 rfl) rfl) rfl ?_
 refine op_call (vs := [_]) hS goes_34 rfl (spaceR_is ds s _ _ (SIn.below hS.below hs) rfl) rfl ?_
 rintro e W2 ⟨rfl, hb⟩
 refine ⟨_, rfl, hb, fun hS' => ?_⟩
 clear hS; have hS := hS'; clear hS' hb
 refine op_assign rfl rfl ?_
 refine endF (XF.thenN ?_)
 refine seqF ?_
 refine seqF (regF ?_)
 refine op_move rfl rfl ?_
 refine op_neq rfl rfl rfl ?_
 refine endF (XF.thenN ?_)
 refine condF rfl (fun hc => ?_) (fun hc => ?_)
 ·have hc11 := of_decide_eq_true hc; clear hc
  refine seqF (regF ?_)
  refine op_move rfl rfl ?_
  refine op_assign rfl rfl ?_
  refine endF (XF.thenN ?_)
  refine retF ?_
  refine XF.thenR ?_
  refine XF.res (res1 Try.results41 rfl) ?_
  exact ⟨rint (by simp only [pdsE]; rw [if_pos hc11]), hS.below⟩
 ·have hc11 := of_decide_eq_false hc; clear hc
  have h0 : ¬ spaceE s ≠ 0 := hc11
  refine skipF ?_
  refine XF.thenN ?_
  refine seqF ?_
  refine seqF (regF ?_)
  refine op_field (o' := 5) fa_28_3 rfl rfl rfl ?_
  refine op_load Try.isAgg26 rfl (cell_own (hS.at_ 0 rfl) rfl) rfl ?_
  refine op_len Try.underlying26 rfl rfl ?_
  refine op_gtr rfl rfl rfl ?_
  refine endF (XF.thenN ?_)
  refine condF rfl (fun hc => ?_) (fun hc => ?_)
  ·have hc16 := of_decide_eq_true hc; clear hc
   refine seqF (regF ?_)
   refine op_assign rfl rfl ?_
   refine endF (XF.thenN ?_)
   refine retF ?_
   refine XF.thenR ?_
   refine XF.res (res1 Try.results41 rfl) ?_
   exact ⟨rint (by simp only [pdsE]; rw [if_neg h0, if_pos (by omega)]), hS.below⟩
  ·have hc16 := of_decide_eq_false hc; clear hc
   have h1 : ¬ 16384 < rl := by omega
   refine skipF ?_
   refine XF.thenN ?_
   refine seqF ?_
   refine seqF (regF ?_)
   refine op_field (o' := 3) fa_28_1 rfl rfl rfl ?_
   refine op_load Try.isAgg3 rfl (cell_own (hS.at_ 0 rfl) rfl) rfl ?_
   refine op_lss rfl rfl rfl ?_
   refine op_move rfl rfl ?_
   refine op_cases (d := 20) rfl (fun hc => ?_) (fun hc => ?_)
   ·have hg20 := of_decide_eq_true hc; clear hc
    refine op_notF (d := 20) rfl rfl rfl rfl ?_
    refine op_notF (d := 20) rfl rfl rfl rfl ?_
    refine op_notF (d := 20) rfl rfl rfl rfl ?_
    refine op_pickT rfl rfl rfl ?_
    refine op_move rfl rfl ?_
    refine op_notF (d := 25) rfl rfl rfl rfl ?_
    refine op_notF (d := 25) rfl rfl rfl rfl ?_
    refine op_notF (d := 25) rfl rfl rfl rfl ?_
    refine op_pickT rfl rfl rfl ?_
    refine op_move rfl rfl ?_
    refine op_notF (d := 30) rfl rfl rfl rfl ?_
    refine op_notF (d := 30) rfl rfl rfl rfl ?_
    refine op_notF (d := 30) rfl rfl rfl rfl ?_
    refine op_pickT rfl rfl rfl ?_
    refine endF (XF.thenN ?_)
    refine condT rfl ?_
    refine seqF (regF ?_)
    refine op_assign rfl rfl ?_
    refine endF (XF.thenN ?_)
    refine retF ?_
    refine XF.thenR ?_
    refine XF.res (res1 Try.results41 rfl) ?_
    exact ⟨rint (by simp only [pdsE]; rw [if_neg h0, if_neg h1, if_pos (by omega)]), hS.below⟩
   ·have hg20 := of_decide_eq_false hc; clear hc
    refine op_wantedF (d := 20) rfl rfl ?_
    refine op_field (o' := 3) fa_28_1 rfl rfl rfl ?_
    refine op_wantedF (d := 20) rfl rfl ?_
    refine op_load Try.isAgg3 rfl (cell_own (hS.at_ 0 rfl) rfl) rfl ?_
    refine op_wantedF (d := 20) rfl rfl ?_
    refine op_gtr rfl rfl rfl ?_
    refine op_pickF rfl rfl rfl ?_
    refine op_move rfl rfl ?_
    refine op_cases (d := 25) rfl (fun hc => ?_) (fun hc => ?_)
    ·have hg25 := of_decide_eq_true hc; clear hc
     refine op_notF (d := 25) rfl rfl rfl rfl ?_
     refine op_notF (d := 25) rfl rfl rfl rfl ?_
     refine op_notF (d := 25) rfl rfl rfl rfl ?_
     refine op_pickT rfl rfl rfl ?_
     refine op_move rfl rfl ?_
     refine op_notF (d := 30) rfl rfl rfl rfl ?_
     refine op_notF (d := 30) rfl rfl rfl rfl ?_
     refine op_notF (d := 30) rfl rfl rfl rfl ?_
     refine op_pickT rfl rfl rfl ?_
     refine endF (XF.thenN ?_)
     refine condT rfl ?_
     refine seqF (regF ?_)
     refine op_assign rfl rfl ?_
     refine endF (XF.thenN ?_)
     refine retF ?_
     refine XF.thenR ?_
     refine XF.res (res1 Try.results41 rfl) ?_
     exact ⟨rint (by simp only [pdsE]; rw [if_neg h0, if_neg h1, if_pos (by omega)]), hS.below⟩
    ·have hg25 := of_decide_eq_false hc; clear hc
     refine op_wantedF (d := 25) rfl rfl ?_
     refine op_field (o' := 4) fa_28_2 rfl rfl rfl ?_
     refine op_wantedF (d := 25) rfl rfl ?_
     refine op_load Try.isAgg3 rfl (cell_own (hS.at_ 0 rfl) rfl) rfl ?_
     refine op_wantedF (d := 25) rfl rfl ?_
     refine op_lss rfl rfl rfl ?_
     refine op_pickF rfl rfl rfl ?_
     refine op_move rfl rfl ?_
     refine op_cases (d := 30) rfl (fun hc => ?_) (fun hc => ?_)
     ·have hg30 := of_decide_eq_true hc; clear hc
      refine op_notF (d := 30) rfl rfl rfl rfl ?_
      refine op_notF (d := 30) rfl rfl rfl rfl ?_
      refine op_notF (d := 30) rfl rfl rfl rfl ?_
      refine op_pickT rfl rfl rfl ?_
      refine endF (XF.thenN ?_)
      refine condT rfl ?_
      refine seqF (regF ?_)
      refine op_assign rfl rfl ?_
      refine endF (XF.thenN ?_)
      refine retF ?_
      refine XF.thenR ?_
      refine XF.res (res1 Try.results41 rfl) ?_
      exact ⟨rint (by simp only [pdsE]; rw [if_neg h0, if_neg h1, if_pos (by omega)]), hS.below⟩
     ·have hg30 := of_decide_eq_false hc; clear hc
      refine op_wantedF (d := 30) rfl rfl ?_
      refine op_field (o' := 4) fa_28_2 rfl rfl rfl ?_
      refine op_wantedF (d := 30) rfl rfl ?_
      refine op_load Try.isAgg3 rfl (cell_own (hS.at_ 0 rfl) rfl) rfl ?_
      refine op_wantedF (d := 30) rfl rfl ?_
      refine op_gtr rfl rfl rfl ?_
      refine op_pickF rfl rfl rfl ?_
      refine endF (XF.thenN ?_)
      refine condF rfl (fun hc => ?_) (fun hc => ?_)
      ·have hc34 := of_decide_eq_true hc; clear hc
       refine seqF (regF ?_)
       refine op_assign rfl rfl ?_
       refine endF (XF.thenN ?_)
       refine retF ?_
       refine XF.thenR ?_
       refine XF.res (res1 Try.results41 rfl) ?_
       exact ⟨rint (by simp only [pdsE]; rw [if_neg h0, if_neg h1, if_pos (by omega)]), hS.below⟩
      ·have hc34 := of_decide_eq_false hc; clear hc
       have h2 : ¬ (st < 0 ∨ 4096 < st ∨ sy < 0 ∨ 4096 < sy) := by omega
       refine skipF ?_
       refine XF.thenN ?_
       refine seqF ?_
       refine seqF (regF ?_)
       refine op_assign rfl rfl ?_
       refine endF (XF.thenN ?_)
       refine blockF ?_
       refine loopF (fun m l W => ∃ i : Nat, i ≤ rl ∧ m = rl - i ∧ l = [(1, .pointer (some ⟨B1, 0, none⟩)), (4, .int .i64 (i : Int))] ∧ (rs.take i).all (ruleB st sy) = true ∧ St w [(B1, [.int .i64 s.f.tag, .int .i64 s.f.dim, .slice s.f.a s.f.len s.f.cap, .int .i64 st, .int .i64 sy, .slice ra rl rc], 28)] [] [] W) (rl - 0) ([(1, _), (4, _)]) ⟨rfl, rfl, trivial⟩ (⟨0, Nat.zero_le _, rfl, rfl, rfl, hS.clear⟩) ?_
       clear hS
       rintro m l W ⟨i, hi, rfl, rfl, hall, hS⟩
       refine seqF ?_
       refine seqF (regF ?_)
       refine op_move rfl rfl ?_
       refine op_field (o' := 5) fa_28_3 rfl rfl rfl ?_
       refine op_load Try.isAgg26 rfl (cell_own (hS.at_ 0 rfl) rfl) rfl ?_
       refine op_len Try.underlying26 rfl rfl ?_
       refine op_lss rfl rfl rfl ?_
       refine endF (XF.thenN ?_)
       refine condF rfl (fun hc => ?_) (fun hc => ?_)
       ·have hc39 := of_decide_eq_true hc; clear hc
        have hk : i < rl := by omega
        obtain ⟨r, hr⟩ : ∃ r, rs[i]? = some r := ⟨rs[i]'(by omega), by simp [show i < rs.length by omega]⟩
        obtain ⟨b, off, rfl, hcs⟩ := hrow.at_ hr
        have k1 := CellsAt.agree hS.agree (Nat.zero_le _) hcs
        have k2 := k1.2.2.2.2
        have hri := hin r (List.mem_of_getElem? hr)
        refine skipF ?_
        refine XF.thenN ?_
        refine seqF ?_
        refine blockF ?_
        refine seqF ?_
        refine regB (m := 8) followsM hS (by kernel_rfl) (by kernel_rfl) rfl ?_
        refine bl_cons 1 rfl (isV _) (stab_isV _) (rgV (li := [(1, _)]) rfl (w_free rfl) ⟨g_fr (by kernel_rfl) rfl, trivial⟩ (fun w hw => rn_loadA (vs := [_, _, _, _, _, _]) Try.isAgg28 Try.sizeOf28 rfl (CellsAt.agree (below_agree hw 0) (Nat.zero_le _) (CellsAt.own (j := 0) (m := 6) (hS.at_ 0 rfl) rfl))) (at_top rfl)) ?_
        refine bl_cons 2 rfl (isV _) (stab_isV _) (rgV (li := [(1, _)]) rfl (w_free rfl) ⟨g_fr (by kernel_rfl) rfl, trivial⟩ (fun w hw => rn_field (o' := 5) fa_28_3 rfl rfl) (at_top rfl)) ?_
        refine bl_cons 3 rfl (isV _) (stab_isV _) (rgV (li := [(43, _)]) rfl (w_free rfl) ⟨g_dep 1 (by kernel_rfl) (at_dep rfl rfl rfl), trivial⟩ (fun w hw => rn_load Try.isAgg26 rfl ((below_agree hw 0).cell (Nat.zero_le _) (cell_own (hS.at_ 0 rfl) rfl))) (at_top rfl)) ?_
        refine bl_cons 4 rfl (isV _) (stab_isV _) (rgV (li := [(4, _)]) rfl (w_free rfl) ⟨g_fr (by kernel_rfl) rfl, trivial⟩ (fun w hw => rn_move rfl) (at_top rfl)) ?_
        refine bl_cons 5 rfl (isV _) (stab_isV _) (rgV (li := [(44, _), (45, _)]) rfl (w_free rfl) ⟨g_dep 2 (by kernel_rfl) (at_dep rfl rfl rfl), g_dep 3 (by kernel_rfl) (at_dep rfl rfl rfl), trivial⟩ (fun w hw => rn_indexA  Try.underlying26 Try.sizeOf47 rfl rfl rfl (by omega) rfl) (at_top rfl)) ?_
        refine bl_cons 6 rfl (isV _) (stab_isV _) (rgV (li := [(46, _)]) rfl (w_free rfl) ⟨g_dep 4 (by kernel_rfl) (at_dep rfl rfl rfl), trivial⟩ (fun w hw => rn_loadA (vs := [_, _, _, _, _, _, _, _, _, _]) Try.isAgg47 Try.sizeOf47 rfl (CellsAt.agree (below_agree hw 0) (Nat.zero_le _) (by assumption))) (at_top rfl)) ?_
        refine bl_cons 7 rfl (isV (.bool (ruleB st sy r))) (stab_isV _) (rg_call [isV _, isV _] rfl goes_71 (w_free rfl) ⟨p_tmp (g_dep 0 (by kernel_rfl) (at_dep rfl rfl rfl)), p_tmp (g_dep 5 (by kernel_rfl) (at_dep rfl rfl rfl)), trivial⟩ (fun vs w' hb hh => by have e := holds_isV (us := [_, _]) hh; subst e; exact (ruleR_is ⟨s, st, sy, _, rl, rc, rs⟩ (hri.below (hS.below.trans (hb.mono hS.below.size)))).mono fun e w2 h => ⟨_, h.1, rfl, h.2⟩) (at_top rfl)) ?_
        refine bl_cons 8 rfl (isV _) (stab_isV _) (rgV (li := [(48, _)]) rfl (w_free rfl) ⟨g_dep 6 (by kernel_rfl) (at_dep rfl rfl rfl), trivial⟩ (fun w hw => rn_not rfl) (at_top rfl)) ?_
        refine bl_nil ?_
        intro W3 hbR hS'
        clear hS; have hS := hS'; clear hS'
        refine fin_v ?_
        refine fin_v ?_
        refine fin_v ?_
        refine fin_v ?_
        refine fin_v ?_
        refine fin_v ?_
        refine fin_v ?_
        refine fin_v ?_
        refine fin_nil ?_
        refine XF.thenN ?_
        refine condF rfl (fun hc => ?_) (fun hc => ?_)
        ·have hc49 := hc; clear hc
         refine seqF (regF ?_)
         refine op_assign rfl rfl ?_
         refine endF (XF.thenN ?_)
         refine retF ?_
         refine XF.blkR ?_
         refine XF.thenR ?_
         refine XF.thenR ?_
         refine XF.blkR ?_
         refine XF.thenR ?_
         refine XF.res (res1 Try.results41 rfl) ?_
         exact ⟨rint (by simp only [pdsE]; rw [if_neg h0, if_neg h1, if_neg h2, if_neg (by rw [all_false_at hr (by simpa using hc49)]; simp)]), hS.below⟩
        ·have hc49 := hc; clear hc
         refine skipF ?_
         refine XF.blkN ?_
         refine XF.thenN ?_
         refine regF ?_
         refine op_move rfl rfl ?_
         refine op_add rfl rfl (IntWalk.i64_in _ (by omega)) rfl ?_
         refine op_assign rfl rfl ?_
         refine endF ?_
         exact XF.round (rl - (i + 1)) [(1, _), (4, _)] (by omega) ⟨rfl, rfl, trivial⟩ ⟨i + 1, by omega, rfl, rfl, all_take_at hr hall (by simpa using hc49), hS.clear⟩
       ·have hc39 := of_decide_eq_false hc; clear hc
        rw [List.take_of_length_le (by omega)] at hall
        refine exitF ?_
        refine XF.thenX ?_
        refine XF.thenX ?_
        refine XF.blkX ?_
        refine XF.thenN ?_
        refine seqF ?_
        refine seqF (regF ?_)
        refine op_assign rfl rfl ?_
        refine endF (XF.thenN ?_)
        refine blockF ?_
        refine loopF (fun m l W => ∃ i : Nat, i ≤ rl ∧ m = rl - i ∧ l = [(1, .pointer (some ⟨B1, 0, none⟩)), (5, .int .i64 (i : Int))] ∧ (rs.take i).all (fun r => decide (chkW s r.x = 0)) = true ∧ St w [(B1, [.int .i64 s.f.tag, .int .i64 s.f.dim, .slice s.f.a s.f.len s.f.cap, .int .i64 st, .int .i64 sy, .slice ra rl rc], 28)] [] [] W) (rl - 0) ([(1, _), (5, _)]) ⟨rfl, rfl, trivial⟩ (⟨0, Nat.zero_le _, rfl, rfl, rfl, hS.clear⟩) ?_
        clear hS
        rintro m l W ⟨i, hi, rfl, rfl, hall2, hS⟩
        refine seqF ?_
        refine seqF (regF ?_)
        refine op_move rfl rfl ?_
        refine op_field (o' := 5) fa_28_3 rfl rfl rfl ?_
        refine op_load Try.isAgg26 rfl (cell_own (hS.at_ 0 rfl) rfl) rfl ?_
        refine op_len Try.underlying26 rfl rfl ?_
        refine op_lss rfl rfl rfl ?_
        refine endF (XF.thenN ?_)
        refine condF rfl (fun hc => ?_) (fun hc => ?_)
        ·have hc54 := of_decide_eq_true hc; clear hc
         have hk : i < rl := by omega
         obtain ⟨r, hr⟩ : ∃ r, rs[i]? = some r := ⟨rs[i]'(by omega), by simp [show i < rs.length by omega]⟩
         obtain ⟨b, off, rfl, hcs⟩ := hrow.at_ hr
         have k1 := CellsAt.agree hS.agree (Nat.zero_le _) hcs
         have k2 := k1.2.2.2.2
         have hri := hin r (List.mem_of_getElem? hr)
         refine skipF ?_
         refine XF.thenN ?_
         refine seqF ?_
         refine blockF ?_
         refine seqF ?_
         refine regB (m := 10) followsM hS (by kernel_rfl) (by kernel_rfl) rfl ?_
         refine bl_cons 1 rfl (isV _) (stab_isV _) (rgV (li := [(1, _)]) rfl (w_free rfl) ⟨g_fr (by kernel_rfl) rfl, trivial⟩ (fun w hw => rn_field (o' := 0) fa_28_0 rfl rfl) (at_top rfl)) ?_
         refine bl_cons 2 rfl (isV _) (stab_isV _) (rgV (li := [(57, _)]) rfl (w_free rfl) ⟨g_dep 0 (by kernel_rfl) (at_dep rfl rfl rfl), trivial⟩ (fun w hw => rn_loadA (vs := [_, _, _]) Try.isAgg25 Try.sizeOf25 rfl (CellsAt.agree (below_agree hw 0) (Nat.zero_le _) (CellsAt.own (j := 0) (m := 3) (hS.at_ 0 rfl) rfl))) (at_top rfl)) ?_
         refine bl_cons 3 rfl (isV _) (stab_isV _) (rgV (li := [(1, _)]) rfl (w_free rfl) ⟨g_fr (by kernel_rfl) rfl, trivial⟩ (fun w hw => rn_field (o' := 5) fa_28_3 rfl rfl) (at_top rfl)) ?_
         refine bl_cons 4 rfl (isV _) (stab_isV _) (rgV (li := [(59, _)]) rfl (w_free rfl) ⟨g_dep 2 (by kernel_rfl) (at_dep rfl rfl rfl), trivial⟩ (fun w hw => rn_load Try.isAgg26 rfl ((below_agree hw 0).cell (Nat.zero_le _) (cell_own (hS.at_ 0 rfl) rfl))) (at_top rfl)) ?_
         refine bl_cons 5 rfl (isV _) (stab_isV _) (rgV (li := [(5, _)]) rfl (w_free rfl) ⟨g_fr (by kernel_rfl) rfl, trivial⟩ (fun w hw => rn_move rfl) (at_top rfl)) ?_
         refine bl_cons 6 rfl (isV _) (stab_isV _) (rgV (li := [(60, _), (61, _)]) rfl (w_free rfl) ⟨g_dep 3 (by kernel_rfl) (at_dep rfl rfl rfl), g_dep 4 (by kernel_rfl) (at_dep rfl rfl rfl), trivial⟩ (fun w hw => rn_indexA  Try.underlying26 Try.sizeOf47 rfl rfl rfl (by omega) rfl) (at_top rfl)) ?_
         refine bl_cons 7 rfl (isV _) (stab_isV _) (rgV (li := [(62, _)]) rfl (w_free rfl) ⟨g_dep 5 (by kernel_rfl) (at_dep rfl rfl rfl), trivial⟩ (fun w hw => rn_field fa_47_4 rfl rfl) (at_top rfl)) ?_
         refine bl_cons 8 rfl (isV _) (stab_isV _) (rgV (li := [(63, _)]) rfl (w_free rfl) ⟨g_dep 6 (by kernel_rfl) (at_dep rfl rfl rfl), trivial⟩ (fun w hw => rn_loadA (vs := [_, _, _, _, _, _]) Try.isAgg45 Try.sizeOf45 rfl (CellsAt.agree (below_agree hw 0) (Nat.zero_le _) (k2))) (at_top rfl)) ?_
         refine bl_cons 9 rfl (isV (.int .i64 (chkW s r.x))) (stab_isV _) (rg_call [isV _, isV _] rfl goes_72 (w_free rfl) ⟨p_tmp (g_dep 1 (by kernel_rfl) (at_dep rfl rfl rfl)), p_tmp (g_dep 7 (by kernel_rfl) (at_dep rfl rfl rfl)), trivial⟩ (fun vs w' hb hh => by have e := holds_isV (us := [_, _]) hh; subst e; exact (checkR_genY ds d s r.x _ (SIn.below (hS.below.trans (hb.mono hS.below.size)) hs) (WIn.below (hS.below.trans (hb.mono hS.below.size)) hri.x)).mono fun e w2 h => ⟨_, h.1, rfl, h.2⟩) (at_top rfl)) ?_
         refine bl_cons 10 rfl (isV _) (stab_isV _) (rgV (li := [(65, _)]) rfl (w_free rfl) ⟨g_dep 8 (by kernel_rfl) (at_dep rfl rfl rfl), trivial⟩ (fun w hw => rn_assign rfl) (at_top rfl)) ?_
         refine bl_nil ?_
         intro W4 hbR hS'
         clear hS; have hS := hS'; clear hS'
         refine fin_v ?_
         refine fin_v ?_
         refine fin_v ?_
         refine fin_v ?_
         refine fin_v ?_
         refine fin_v ?_
         refine fin_v ?_
         refine fin_v ?_
         refine fin_v ?_
         refine fin_v ?_
         refine fin_nil ?_
         refine XF.thenN ?_
         refine seqF (regF ?_)
         refine op_move rfl rfl ?_
         refine op_neq rfl rfl rfl ?_
         refine endF (XF.thenN ?_)
         refine condF rfl (fun hc => ?_) (fun hc => ?_)
         ·have hc67 := of_decide_eq_true hc; clear hc
          refine seqF (regF ?_)
          refine op_move rfl rfl ?_
          refine op_assign rfl rfl ?_
          refine endF (XF.thenN ?_)
          refine retF ?_
          refine XF.blkR ?_
          refine XF.thenR ?_
          refine XF.thenR ?_
          refine XF.blkR ?_
          refine XF.thenR ?_
          refine XF.res (res1 Try.results41 rfl) ?_
          exact ⟨rint (by simp only [pdsE]; rw [if_neg h0, if_neg h1, if_neg h2, if_pos hall, wtE_at hr hall2 hc67]), hS.below⟩
         ·have hc67 := of_decide_eq_false hc; clear hc
          refine skipF ?_
          refine XF.blkN ?_
          refine XF.thenN ?_
          refine regF ?_
          refine op_move rfl rfl ?_
          refine op_add rfl rfl (IntWalk.i64_in _ (by omega)) rfl ?_
          refine op_assign rfl rfl ?_
          refine endF ?_
          exact XF.round (rl - (i + 1)) [(1, _), (5, _)] (by omega) ⟨rfl, rfl, trivial⟩ ⟨i + 1, by omega, rfl, rfl, all_take_at hr hall2 (by simpa using hc67), hS.clear⟩
        ·have hc54 := of_decide_eq_false hc; clear hc
         refine exitF ?_
         refine XF.thenX ?_
         refine XF.thenX ?_
         refine XF.blkX ?_
         refine XF.thenN ?_
         refine seqF (regF ?_)
         refine op_assign rfl rfl ?_
         refine endF (XF.thenN ?_)
         refine retF ?_
         refine XF.res (res1 Try.results41 rfl) ?_
         rw [List.take_of_length_le (by omega)] at hall2
         exact ⟨rint (by simp only [pdsE]; rw [if_neg h0, if_neg h1, if_neg h2, if_pos hall, wtE_all hall2]), hS.below⟩
theorem pdsA_is (ds d : Nat) (p : PV) (w : World) (h : PvIn w ds d p) : Calls Try.prog 30 #[p.val] w (fun e w' => e = .returned (.int .i64 (pdsE p)) ∧ Below w.heap.size w w') := pdsA_c ds d _ _ _ _ _ _ _ w h.s h.row h.len h.rin
theorem pdsR_is (ds d : Nat) (p : PV) (w : World) (h : PvIn w ds d p) : Calls Try.prog 41 #[p.val] w (fun e w' => e = .returned (.int .i64 (pdsE p)) ∧ Below w.heap.size w w') := pdsR_c ds d _ _ _ _ _ _ _ w h.s h.row h.len h.rin
end Go.Proofs.Ytpkcaabbcoiiiaa
namespace Go.Proofs.Ytpkcaabbcoiiiaa
open Go Go.RowKit
theorem confA_c (P0 : PV) (p : Int) (wa : Option Addr) (wl wc : Nat) (ws : List Int) (w : World) (hrow : Row w wa ws) (hlen : ws.length = wl) :
  Calls Try.prog 74 #[P0.val, .agg #[.int .i64 p, .slice wa wl wc]] w (fun e w' => e = .returned (.bool (confB P0 ⟨p, wa, wl, wc, ws⟩)) ∧ Below w.heap.size w w') := by
 refine enterF (args := [P0.val, .agg #[.int .i64 p, .slice wa wl wc]]) Try.func74 rfl Try.ntmps74 rfl ?_
 have hS := St.start w
 refine seqF (regF ?_)
 refine op_box (cs := [_, _, _, _, _, _]) hS rfl rfl rfl ?_
 clear hS; intro B1 W1 hS
 refine op_box (cs := [_, _]) hS rfl rfl rfl ?_
 clear hS; intro B2 W2 hS
 refine op_assign rfl rfl ?_
 refine endF (XF.thenN ?_)
 refine seqF ?_
 refine seqF (regF ?_)
 refine op_field (o' := 0) fa_49_0 rfl rfl rfl ?_
 refine op_load Try.isAgg3 rfl (cell_own (hS.at_ 0 rfl) rfl) rfl ?_
 refine op_lss rfl rfl rfl ?_
 refine op_move rfl rfl ?_
 refine op_cases (d := 10) rfl (fun hc => ?_) (fun hc => ?_)
 ·have hg10 := of_decide_eq_true hc; clear hc
  have e1 : inQ p P0.st = false := by simp [inQ]; omega
  refine op_notF (d := 10) rfl rfl rfl rfl ?_
  refine op_notF (d := 10) rfl rfl rfl rfl ?_
  refine op_notF (d := 10) rfl rfl rfl rfl ?_
  refine op_notF (d := 10) rfl rfl rfl rfl ?_
  refine op_notF (d := 10) rfl rfl rfl rfl ?_
  refine op_pickT rfl rfl rfl ?_
  refine op_move rfl rfl ?_
  refine op_notF (d := 17) rfl rfl rfl rfl ?_
  refine op_notF (d := 17) rfl rfl rfl rfl ?_
  refine op_notF (d := 17) rfl rfl rfl rfl ?_
  refine op_notF (d := 17) rfl rfl rfl rfl ?_
  refine op_pickT rfl rfl rfl ?_
  refine endF (XF.thenN ?_)
  refine condT rfl ?_
  refine seqF (regF ?_)
  refine op_assign rfl rfl ?_
  refine endF (XF.thenN ?_)
  refine retF ?_
  refine XF.thenR ?_
  refine XF.res (res1 Try.results74 rfl) ?_
  exact ⟨rbool (by simp [confB, e1]), hS.below⟩
 ·have hg10 := of_decide_eq_false hc; clear hc
  refine op_wantedF (d := 10) rfl rfl ?_
  refine op_field (o' := 0) fa_49_0 rfl rfl rfl ?_
  refine op_wantedF (d := 10) rfl rfl ?_
  refine op_load Try.isAgg3 rfl (cell_own (hS.at_ 0 rfl) rfl) rfl ?_
  refine op_wantedF (d := 10) rfl rfl ?_
  refine op_field (o' := 3) fa_28_1 rfl rfl rfl ?_
  refine op_wantedF (d := 10) rfl rfl ?_
  refine op_load Try.isAgg3 rfl (cell_own (hS.at_ 1 rfl) rfl) rfl ?_
  refine op_wantedF (d := 10) rfl rfl ?_
  refine op_geq rfl rfl rfl ?_
  refine op_pickF rfl rfl rfl ?_
  refine op_move rfl rfl ?_
  refine op_cases (d := 17) rfl (fun hc => ?_) (fun hc => ?_)
  ·have hg17 := of_decide_eq_true hc; clear hc
   have e1 : inQ p P0.st = false := by simp [inQ]; omega
   refine op_notF (d := 17) rfl rfl rfl rfl ?_
   refine op_notF (d := 17) rfl rfl rfl rfl ?_
   refine op_notF (d := 17) rfl rfl rfl rfl ?_
   refine op_notF (d := 17) rfl rfl rfl rfl ?_
   refine op_pickT rfl rfl rfl ?_
   refine endF (XF.thenN ?_)
   refine condT rfl ?_
   refine seqF (regF ?_)
   refine op_assign rfl rfl ?_
   refine endF (XF.thenN ?_)
   refine retF ?_
   refine XF.thenR ?_
   refine XF.res (res1 Try.results74 rfl) ?_
   exact ⟨rbool (by simp [confB, e1]), hS.below⟩
  ·have hg17 := of_decide_eq_false hc; clear hc
   have e1 : inQ p P0.st = true := by simp [inQ]; omega
   refine op_wantedF (d := 17) rfl rfl ?_
   refine op_field (o' := 1) fa_49_1 rfl rfl rfl ?_
   refine op_wantedF (d := 17) rfl rfl ?_
   refine op_load Try.isAgg29 rfl (cell_own (hS.at_ 0 rfl) rfl) rfl ?_
   refine op_wantedF (d := 17) rfl rfl ?_
   refine op_len Try.underlying29 rfl rfl ?_
   refine op_wantedF (d := 17) rfl rfl ?_
   refine op_gtr rfl rfl rfl ?_
   refine op_pickF rfl rfl rfl ?_
   refine endF (XF.thenN ?_)
   refine condF rfl (fun hc => ?_) (fun hc => ?_)
   ·have hc22 := of_decide_eq_true hc; clear hc
    have e4 : decide (wl ≤ 4096) = false := by simp; omega
    refine seqF (regF ?_)
    refine op_assign rfl rfl ?_
    refine endF (XF.thenN ?_)
    refine retF ?_
    refine XF.thenR ?_
    refine XF.res (res1 Try.results74 rfl) ?_
    exact ⟨rbool (by simp [confB, e4]), hS.below⟩
   ·have hc22 := of_decide_eq_false hc; clear hc
    have e4 : decide (wl ≤ 4096) = true := by simp; omega
    refine skipF ?_
    refine XF.thenN ?_
    refine seqF ?_
    refine seqF (regF ?_)
    refine op_field (o' := 1) fa_49_1 rfl rfl rfl ?_
    refine op_load Try.isAgg29 rfl (cell_own (hS.at_ 0 rfl) rfl) rfl ?_
    refine op_len Try.underlying29 rfl rfl ?_
    refine op_move rfl rfl ?_
    refine endF (XF.thenN ?_)
    refine blockF ?_
    refine loopF (fun m l W => ∃ i : Nat, i ≤ wl ∧ m = wl - i ∧ l = [(2, .pointer (some ⟨B1, 0, none⟩)), (24, .slice wa wl wc), (25, .int .i64 (wl : Int)), (26, .int .i64 (i : Int))] ∧ (ws.take i).all (fun y => inQ y P0.sy) = true ∧ St w [(B2, [.int .i64 p, .slice wa wl wc], 49), (B1, P0.six, 28)] [] [] W) (wl - 0) ([(2, _), (24, _), (25, _), (26, _)]) ⟨rfl, rfl, rfl, rfl, trivial⟩ (⟨0, Nat.zero_le _, rfl, rfl, rfl, hS.clear⟩) ?_
    clear hS
    rintro m l W ⟨i, hi, rfl, rfl, hall, hS⟩
    refine seqF (regF ?_)
    refine op_lss rfl rfl rfl ?_
    refine endF (XF.thenN ?_)
    refine seqF ?_
    refine condF rfl (fun hc => ?_) (fun hc => ?_)
    ·have hc27 := of_decide_eq_true hc; clear hc
     have hk : i < wl := by omega
     obtain ⟨b, off, y, rfl, hy, hyc⟩ := hrow.at1 (show i < ws.length by omega)
     have k1 := hS.old hyc
     refine skipF ?_
     refine XF.thenN ?_
     refine seqF ?_
     refine blockF ?_
     refine seqF (regF ?_)
     refine op_indexA  Try.underlying29 Try.sizeOf3 rfl rfl rfl (by omega) rfl rfl ?_
     refine op_load Try.isAgg3 rfl (by first | assumption | exact hS.old (by assumption)) rfl ?_
     refine op_assign rfl rfl ?_
     refine endF (XF.thenN ?_)
     refine seqF (regF ?_)
     refine op_move rfl rfl ?_
     refine op_lss rfl rfl rfl ?_
     refine op_move rfl rfl ?_
     refine op_cases (d := 32) rfl (fun hc => ?_) (fun hc => ?_)
     ·have hg32 := of_decide_eq_true hc; clear hc
      have e5 : inQ y P0.sy = false := by simp [inQ]; omega
      refine op_notF (d := 32) rfl rfl rfl rfl ?_
      refine op_notF (d := 32) rfl rfl rfl rfl ?_
      refine op_notF (d := 32) rfl rfl rfl rfl ?_
      refine op_notF (d := 32) rfl rfl rfl rfl ?_
      refine op_pickT rfl rfl rfl ?_
      refine endF (XF.thenN ?_)
      refine condT rfl ?_
      refine seqF (regF ?_)
      refine op_assign rfl rfl ?_
      refine endF (XF.thenN ?_)
      refine retF ?_
      refine XF.blkR ?_
      refine XF.thenR ?_
      refine XF.thenR ?_
      refine XF.blkR ?_
      refine XF.thenR ?_
      refine XF.res (res1 Try.results74 rfl) ?_
      exact ⟨rbool (by simp only [confB]; rw [all_false_at hy e5]; simp), hS.below⟩
     ·have hg32 := of_decide_eq_false hc; clear hc
      refine op_wantedF (d := 32) rfl rfl ?_
      refine op_move rfl rfl ?_
      refine op_wantedF (d := 32) rfl rfl ?_
      refine op_field (o' := 4) fa_28_2 rfl rfl rfl ?_
      refine op_wantedF (d := 32) rfl rfl ?_
      refine op_load Try.isAgg3 rfl (cell_own (hS.at_ 1 rfl) rfl) rfl ?_
      refine op_wantedF (d := 32) rfl rfl ?_
      refine op_geq rfl rfl rfl ?_
      refine op_pickF rfl rfl rfl ?_
      refine endF (XF.thenN ?_)
      refine condF rfl (fun hc => ?_) (fun hc => ?_)
      ·have hc37 := of_decide_eq_true hc; clear hc
       have e5 : inQ y P0.sy = false := by simp [inQ]; omega
       refine seqF (regF ?_)
       refine op_assign rfl rfl ?_
       refine endF (XF.thenN ?_)
       refine retF ?_
       refine XF.blkR ?_
       refine XF.thenR ?_
       refine XF.thenR ?_
       refine XF.blkR ?_
       refine XF.thenR ?_
       refine XF.res (res1 Try.results74 rfl) ?_
       exact ⟨rbool (by simp only [confB]; rw [all_false_at hy e5]; simp), hS.below⟩
      ·have hc37 := of_decide_eq_false hc; clear hc
       have e5 : inQ y P0.sy = true := by simp [inQ]; omega
       refine skipF ?_
       refine XF.blkN ?_
       refine XF.thenN ?_
       refine regF ?_
       refine op_add rfl rfl (IntWalk.i64_in _ (by omega)) rfl ?_
       refine op_move rfl rfl ?_
       refine endF ?_
       exact XF.round (wl - (i + 1)) [(2, _), (24, _), (25, _), (26, _)] (by omega) ⟨rfl, rfl, rfl, rfl, trivial⟩ ⟨i + 1, by omega, rfl, rfl, all_take_at hy hall e5, hS.clear⟩
    ·have hc27 := of_decide_eq_false hc; clear hc
     refine exitF ?_
     refine XF.thenX ?_
     refine XF.thenX ?_
     refine XF.blkX ?_
     refine XF.thenN ?_
     refine seqF (regF ?_)
     refine op_assign rfl rfl ?_
     refine endF (XF.thenN ?_)
     refine retF ?_
     refine XF.res (res1 Try.results74 rfl) ?_
     rw [List.take_of_length_le (by omega)] at hall
     exact ⟨rbool (by simp [confB, e1, e4, hall]), hS.below⟩
theorem confA_is (p : PV) (c : CV) (w : World) (h : CIn w c) : Calls Try.prog 74 #[p.val, c.val] w (fun e w' => e = .returned (.bool (confB p c)) ∧ Below w.heap.size w w') := confA_c p _ _ _ _ _ w h.row h.len
theorem stepA_is (ds d : Nat) (p : PV) (c : CV) (w : World) (hp : PvIn w ds d p) (hcf : CIn w c) :
  Calls Try.prog 45 #[p.val, c.val] w (fun e w' => e = .returned (.int .i64 (stepE p c)) ∧ Below w.heap.size w w') := by
 refine enterF (args := [p.val, c.val]) Try.func45 rfl Try.ntmps45 rfl ?_
 have hS := St.start w
 refine seqF (regF ?_)
 refine op_box (cs := [_, _, _, _, _, _]) hS rfl rfl rfl ?_
 clear hS; intro B1 W1 hS
 refine op_box (cs := [_, _]) hS rfl rfl rfl ?_
 clear hS; intro B2 W2 hS
 refine op_assign rfl rfl ?_
 refine endF (XF.thenN ?_)
 refine seqF ?_
 refine seqF (regF ?_)
 refine op_loadA (vs := [_, _, _, _, _, _]) Try.isAgg28 Try.sizeOf28 rfl (CellsAt.own (j := 0) (m := 6) (hS.at_ 1 rfl) rfl) rfl ?_
 refine op_call (vs := [_]) hS goes_30 rfl (pdsA_is ds d p _ (hp.below hS.below)) rfl ?_
 rintro e W3 ⟨rfl, hb⟩
 refine ⟨_, rfl, hb, fun hS' => ?_⟩
 clear hS; have hS := hS'; clear hS' hb
 refine op_assign rfl rfl ?_
 refine endF (XF.thenN ?_)
 refine seqF (regF ?_)
 refine op_move rfl rfl ?_
 refine op_neq rfl rfl rfl ?_
 refine endF (XF.thenN ?_)
 refine condF rfl (fun hc => ?_) (fun hc => ?_)
 ·have hc9 := of_decide_eq_true hc; clear hc
  refine seqF (regF ?_)
  refine op_move rfl rfl ?_
  refine op_assign rfl rfl ?_
  refine endF (XF.thenN ?_)
  refine retF ?_
  refine XF.thenR ?_
  refine XF.res (res1 Try.results45 rfl) ?_
  exact ⟨rint (by simp only [stepE]; rw [if_pos hc9]), hS.below⟩
 ·have hc9 := of_decide_eq_false hc; clear hc
  refine skipF ?_
  refine XF.thenN ?_
  refine seqF ?_
  refine seqF (regF ?_)
  refine op_loadA (vs := [_, _, _, _, _, _]) Try.isAgg28 Try.sizeOf28 rfl (CellsAt.own (j := 0) (m := 6) (hS.at_ 1 rfl) rfl) rfl ?_
  refine op_loadA (vs := [_, _]) Try.isAgg49 Try.sizeOf49 rfl (CellsAt.own (j := 0) (m := 2) (hS.at_ 0 rfl) rfl) rfl ?_
  refine op_call (vs := [_, _]) hS goes_74 rfl (confA_is p c _ (hcf.below hS.below)) rfl ?_
  rintro e W4 ⟨rfl, hb⟩
  refine ⟨_, rfl, hb, fun hS' => ?_⟩
  clear hS; have hS := hS'; clear hS' hb
  refine op_not rfl rfl ?_
  refine endF (XF.thenN ?_)
  refine condF rfl (fun hc => ?_) (fun hc => ?_)
  ·have hc14 := hc; clear hc
   refine seqF (regF ?_)
   refine op_assign rfl rfl ?_
   refine endF (XF.thenN ?_)
   refine retF ?_
   refine XF.thenR ?_
   refine XF.res (res1 Try.results45 rfl) ?_
   exact ⟨rint (by simp only [stepE]; rw [if_neg hc9, if_neg (by simpa using hc14)]), hS.below⟩
  ·have hc14 := hc; clear hc
   refine skipF ?_
   refine XF.thenN ?_
   refine seqF (regF ?_)
   refine op_assign rfl rfl ?_
   refine endF (XF.thenN ?_)
   refine retF ?_
   refine XF.res (res1 Try.results45 rfl) ?_
   exact ⟨rint (by simp only [stepE]; rw [if_neg hc9, if_pos (by simpa using hc14)]), hS.below⟩
end Go.Proofs.Ytpkcaabbcoiiiaa
namespace Go.Proofs.Ytpkcaabbcoiiiaa
open Go Go.RowKit
theorem okW_plain {f : SF} {ps : List SV} {x : WV} (hp : plainB f.tag f.dim f.len = true) (ho : okW (.mk f ps) x = true) : pwOk f.tag f.dim x.f = true := by
 have h : (if plainB f.tag f.dim f.len = true then pwOk f.tag f.dim x.f else (match (generalizing := false) ps with | [p, q] => pairOk p q x.f x.ps | _ => false)) = true := ho
 rw [if_pos hp] at h
 exact h
theorem space_of {w : World} {d : Nat} {s : SV} (hs : SIn w d s) (hse : spaceE s = 0) : ∃ S : PS, S.ok ∧ SIs w S s.f ∧ ∀ (x : WV) (e : Nat), WIn w e x → okW s x = true → ∃ y, XIs w S x.f y := by
 match d, s, hs with
 | d + 1, .mk f ps, hs =>
  by_cases hp : plainB f.tag f.dim f.len = true
  ·obtain ⟨t, n, a, l, c⟩ := f
   dsimp only at hp
   obtain rfl : l = 0 := (plainB_tag hp).1
   refine ⟨.one t n, hp, ⟨a, c, rfl⟩, fun x e hx ho => ?_⟩
   match e, x, hx, ho with
   | e + 1, .mk g qs, hx, ho =>
    exact ⟨.one g.pf, PIs.of hp hx.1 (okW_plain (f := ⟨t, n, a, 0, c⟩) hp ho)⟩
  ·have hse' : (if plainB f.tag f.dim f.len = true then (0 : Int) else if f.tag = 5 ∧ f.dim = 0 ∧ ps.length = 2 ∧ ps.all SV.pl = true then 0 else 50) = 0 := hse
   rw [if_neg hp] at hse'
   split at hse'
   ·rename_i hq
    obtain ⟨h5, h0, h2, hall⟩ := hq
    obtain ⟨t, n, a, l, c⟩ := f
    dsimp only at h5 h0 hp
    subst h5; subst h0
    obtain ⟨p, q, rfl⟩ := two_of h2
    have hl : 2 = l := hs.1
    subst hl
    simp only [List.all_cons, List.all_nil, Bool.and_true, Bool.and_eq_true] at hall
    obtain ⟨_, b, off, ha, _, hp3, hq3, _, _⟩ := hs.two
    dsimp only at ha
    subst ha
    obtain ⟨⟨pt, pn, pa, pl, pc⟩, pps⟩ := p
    obtain ⟨⟨qt, qn, qa, ql, qc⟩, qps⟩ := q
    have e1 : plainB pt pn pl = true := hall.1
    have e2 : plainB qt qn ql = true := hall.2
    obtain rfl : pl = 0 := (plainB_tag e1).1
    obtain rfl : ql = 0 := (plainB_tag e2).1
    refine ⟨.two pt pn qt qn, ⟨e1, e2⟩, ⟨b, off, c, pa, pc, qa, qc, rfl, hp3, hq3⟩, fun x e hx ho => ?_⟩
    match e, x, hx, ho with
    | e + 1, .mk g qs, hx, ho =>
     have ho' : (if plainB 5 0 2 = true then pwOk 5 0 g else pairOk (.mk ⟨pt, pn, pa, 0, pc⟩ pps) (.mk ⟨qt, qn, qa, 0, qc⟩ qps) g qs) = true := ho
     rw [if_neg (show ¬ plainB 5 0 2 = true from hp)] at ho'
     unfold pairOk at ho'
     simp only [Bool.and_eq_true, Bool.not_eq_true', decide_eq_true_eq] at ho'
     obtain ⟨hbare, hz, h2q, o1, o2⟩ := ho'
     obtain ⟨x1, x2, rfl⟩ := two_of h2q
     obtain ⟨hpl, wb, wo, hpa, _, h6, h7, hx1, hx2⟩ := hx.two
     have hat := hx.1
     have hg : g.c = 0 ∧ g.g = 0 ∧ g.rl = 0 ∧ g.cl = 0 := by
      simp only [bareB, onlyB, hz, Bool.not_false, Bool.true_and, Bool.and_eq_true, Bool.or_eq_true, decide_eq_true_eq] at hbare
      obtain ⟨k1, k2, k3, _⟩ := hbare
      exact ⟨k1.resolve_left (by decide), (k2.resolve_left (by decide)).1, (k2.resolve_left (by decide)).2, k3.resolve_left (by decide)⟩
     have hr0 : g.rows = [] := List.eq_nil_of_length_eq_zero (by have := hat.rl; omega)
     have hc0 : g.cells = [] := List.eq_nil_of_length_eq_zero (by have := hat.cl; omega)
     refine ⟨.two x1.f.pf x2.f.pf, ?_, hg.2.2.1, hg.2.2.2, hpl, wb, wo, x1.f, x2.f, hpa, h6, h7, PIs.of e1 (WIn.at_ hx1) o1, PIs.of e2 (WIn.at_ hx2) o2⟩
     show (⟨g.z, g.c, g.g, g.rows, g.cells⟩ : PF) = pC 0
     unfold pC
     rw [hz, hg.1, hg.2.1, hr0, hc0]
   ·cases hse'
section
variable {n : Nat} {Q : Exit → Act → World → Prop} {l : Fr} {W : World} {ops : Array Oper} {L : List Asr} {i d : Nat} {ty : TypeId} {pos : String} {aft : Array Edge} {gd : Option (Nat × Bool)} {S : PS} {x y z : PX} {p q r : Operand}
end
section
variable {w : World} {S : PS} {sf : SF} {x y z : PX} {vs : List Value}
end
end Go.Proofs.Ytpkcaabbcoiiiaa
namespace Go.Proofs.Ytpkcaabbcoiiiaa
open Go Go.RowKit
section
variable {P : Program} {ops : Array Oper} {Q : Exit → Act → World → Prop} {σ : Type}
structure RInvG (ops : Array Oper) (t0 : Array Value) (d0 : List Deferred) (G : σ → World → Prop) (I : σ → Nat → Value → World → Prop) (V : σ → Array Bool → Prop) (s : σ) (L : Array Bool) (a : Act) (w : World) : Prop where
 size : a.tmps.size = t0.size
 defers : a.defers = d0
 frame : ∀ t, freeT ops t = true → a.tmps.getD t undef = t0.getD t undef
 glob : G s w
 cons : V s L
 done : ∀ i d, (ops[i]?).bind (·.dst) = some d → L.getD i false = true → I s i (a.tmps.getD d undef) w
def ClosedG (ops : Array Oper) (L : Array Bool) : Prop := ∀ j, L.getD j false = true → ∀ x ∈ aft ops j, L.getD x false = true
def ReadyG (ops : Array Oper) (L : Array Bool) (i : Nat) : Prop := L.getD i false = false ∧ ∀ x ∈ aft ops i, L.getD x false = true
def GStep (P : Program) (ops : Array Oper) (Q : Exit → Act → World → Prop) (t0 : Array Value) (G : σ → World → Prop) (I : σ → Nat → Value → World → Prop) (V : σ → Array Bool → Prop) (i : Nat) : Prop :=
 ∀ s L (a : Act) w, (∀ t, freeT ops t = true → a.eval (.tmp t) = t0.getD t undef) → G s w → V s L → L.size = ops.size → ClosedG ops L → ReadyG ops L i → (∀ j d, waitsFor ops i j d = true → I s j (a.eval (.tmp d)) w) →
  wpOp P ops Q i (fun a' w' => ∃ s' v, a' = a.put ((ops[i]?).bind (·.dst)) v ∧ V s' (L.setIfInBounds i true) ∧ G s' w' ∧ (∀ d, (ops[i]?).bind (·.dst) = some d → I s' i v w') ∧ (∀ j d, (ops[j]?).bind (·.dst) = some d → I s j (a.tmps.getD d undef) w → I s' j (a.tmps.getD d undef) w')) a w
def tailT (ops : Array Oper) (k : Nat) : Bool := (List.range ops.size).all fun j => decide (j < k) || (List.range j).all fun i => (earlyL ops j).contains i
theorem tail_early {k j i : Nat} (h : tailT ops k = true) (hj : j < ops.size) (hk : k ≤ j) (hi : i < j) : i ∈ earlyL ops j := by
 have h1 := List.all_eq_true.1 h j (List.mem_range.2 hj)
 rw [Bool.or_eq_true, decide_eq_true_eq] at h1
 rcases h1 with h1 | h1
 ·omega
 ·exact List.contains_iff_mem.1 (List.all_eq_true.1 h1 i (List.mem_range.2 hi))
theorem ready_g {L : Array Bool} {i : Nat} (h : i ∈ Region.ready .any ops L) (hs : L.size = ops.size) : i < ops.size ∧ ReadyG ops L i := by
 obtain ⟨h1, o, ho, hdep⟩ := mem_ready.1 h
 have his : i < ops.size := (Array.getElem?_eq_some_iff.1 ho).1
 refine ⟨his, ?_, fun x hx => ?_⟩
 ·rw [Array.getD_eq_getD_getElem?, Array.getElem?_eq_getElem (by omega)] at h1 ⊢
  simpa using h1
 ·obtain ⟨e, he, h5, h6⟩ := aft_mem ho hx
  have h7 := hdep e he h6
  rw [h5] at h7
  exact h7
theorem cnt_getD {L : Array Bool} {i : Nat} (hi : i < L.size) (h : L.getD i false = false) : L.toList[i]? = some false := by
 rw [Array.getD_eq_getD_getElem?, Array.getElem?_eq_getElem hi] at h
 rw [Array.getElem?_toList, Array.getElem?_eq_getElem hi]
 simpa using h
theorem ClosedG.next {L : Array Bool} {i : Nat} (h : ClosedG ops L) (hr : ReadyG ops L i) (hi : i < L.size) : ClosedG ops (L.setIfInBounds i true) := fun j hj x hx => by
 have hx2 : L.getD x false = true := by
  by_cases hji : j = i
  ·subst hji; exact hr.2 x hx
  ·rw [getD_set_ne false (Ne.symm hji)] at hj
   exact h j hj x hx
 by_cases hxi : x = i
 ·subst hxi
  rw [Array.getD_eq_getD_getElem?, Array.getElem?_setIfInBounds_self_of_lt hi]; rfl
 ·rw [getD_set_ne false (Ne.symm hxi)]; exact hx2
theorem ready_early {L : Array Bool} {i : Nat} (h : ClosedG ops L) (hr : ReadyG ops L i) : ∀ x ∈ earlyL ops i, L.getD x false = true :=
 early_done (D := fun x => L.getD x false = true) hr.2 (fun j hj x hx => h j hj x hx)
theorem tail_run (ht : ∀ n, tidyR ops n = true → True) {k : Nat} (hl : tailT ops k = true) {n0 : Nat} (htd : tidyR ops n0 = true) : ∀ (m j fuel : Nat) (L : Array Bool) (a : Act) (w : World), ops.size = j + m → k ≤ j → m ≤ fuel → L.size = ops.size → ClosedG ops L → (∀ i, i < j → L.getD i false = true) → (∀ i, j ≤ i → L.getD i false = false) →
  wpList P ops Q (ops.toList.drop j) a w → wpAny P .any ops Q fuel L a w
 | 0, j, fuel, L, a, w, hm, hk, hf, hs, hc, hd, hn, h => by
  have hnil : Region.ready .any ops L = [] := by
   cases hr : Region.ready .any ops L with
   | nil => rfl
   | cons i rest =>
    obtain ⟨h1, h2⟩ := ready_g (by rw [hr]; exact List.mem_cons_self) hs
    have h3 := h2.1
    rw [hd i (by omega)] at h3
    cases h3
  rw [List.drop_of_length_le (by simp; omega)] at h
  cases fuel with
  | zero => exact ⟨hnil, h⟩
  | succ fuel => exact ⟨fun _ => h, by rw [hnil]; simp⟩
 | m + 1, j, 0, L, a, w, hm, hk, hf, hs, hc, hd, hn, h => by omega
 | m + 1, j, fuel + 1, L, a, w, hm, hk, hf, hs, hc, hd, hn, h => by
  have hj : j < ops.size := by omega
  have only : ∀ i ∈ Region.ready .any ops L, i = j := fun i hi => by
   obtain ⟨h1, h2⟩ := ready_g hi hs
   rcases Nat.lt_trichotomy i j with h3 | h3 | h3
   ·have h4 := h2.1
    rw [hd i h3] at h4; cases h4
   ·exact h3
   ·have := ready_early hc h2 j (tail_early hl h1 (by omega) h3)
    rw [hn j (Nat.le_refl _)] at this; cases this
  refine ⟨fun hr => ?_, fun i hi => ?_⟩
  ·have := ready_nil htd hs hr j hj
   have h2 := hn j (Nat.le_refl _)
   rw [Array.getD_eq_getD_getElem?, Array.getElem?_eq_getElem (by omega)] at this h2
   simp at this h2
   rw [this] at h2; cases h2
  ·obtain ⟨h1, h2⟩ := ready_g hi hs
   obtain rfl := only i hi
   have e : ops.toList.drop i = ops[i] :: ops.toList.drop (i + 1) := by
    rw [List.drop_eq_getElem_cons (by simpa using hj)]; simp
   rw [e] at h
   have key : wpOp P ops Q i (fun a' w' => wpList P ops Q (ops.toList.drop (i + 1)) a' w') a w := by
    unfold wpOp
    rw [Array.getElem?_eq_getElem hj]
    exact h
   refine wpOp_mono ?_ key
   intro a' w' hq
   refine tail_run ht hl htd m (i + 1) fuel _ a' w' (by omega) (by omega) (by omega) (by simpa using hs) (hc.next h2 (by omega)) (fun x hx => ?_) (fun x hx => ?_) hq
   ·by_cases hxi : x = i
    ·subst hxi
     rw [Array.getD_eq_getD_getElem?, Array.getElem?_setIfInBounds_self_of_lt (by omega)]; rfl
    ·rw [getD_set_ne false (Ne.symm hxi)]; exact hd x (by omega)
   ·rw [getD_set_ne false (by omega)]; exact hn x (by omega)
theorem region_ghost {t0 : Array Value} {d0 : List Deferred} {G : σ → World → Prop} {I : σ → Nat → Value → World → Prop} {V : σ → Array Bool → Prop} {k : Nat} (hk : k < ops.size) (hl : tailT ops k = true) (ht : tidyR ops t0.size = true)
  (hstep : ∀ i, i < k → GStep P ops Q t0 G I V i)
  (hfin : ∀ s L a w, RInvG ops t0 d0 G I V s L a w → (∀ i, i < k → L.getD i false = true) → (∀ i, k ≤ i → L.getD i false = false) → wpList P ops Q (ops.toList.drop k) a w) :
  ∀ (fuel : Nat) (s : σ) (L : Array Bool) (a : Act) (w : World), L.size = ops.size → L.toList.count false ≤ fuel → ClosedG ops L → (∀ i, k ≤ i → L.getD i false = false) → RInvG ops t0 d0 G I V s L a w → wpAny P .any ops Q fuel L a w := by
 intro fuel
 induction fuel with
 | zero =>
  intro s L a w hs hc hcl hn h
  have := cnt_set _ _ (cnt_getD (by omega) (hn k (Nat.le_refl _)))
  omega
 | succ fuel ih =>
  intro s L a w hs hc hcl hn h
  by_cases hall : ∀ i, i < k → L.getD i false = true
  ·have hcnt : ops.size - k ≤ L.toList.count false := by
    have key : ∀ (l : List Bool) (k : Nat), (∀ i, k ≤ i → i < l.length → l[i]? = some false) → l.length - k ≤ l.count false := by
     intro l
     induction l with
     | nil => intro k _; simp
     | cons b l ihl =>
      intro k hk
      cases k with
      | zero =>
       have h0 := hk 0 (Nat.le_refl _) (by simp)
       simp at h0; subst h0
       have := ihl 0 (fun i _ hi => by have := hk (i + 1) (by omega) (by simpa using hi); simpa using this)
       simp at this ⊢; omega
      | succ k =>
       have := ihl k (fun i hi hi2 => by have := hk (i + 1) (by omega) (by simpa using hi2); simpa using this)
       rw [List.count_cons]; simp; omega
    have := key L.toList k (fun i h1 h2 => cnt_getD (by simpa using h2) (hn i h1))
    simpa [hs] using this
   exact tail_run (fun _ _ => trivial) hl ht (ops.size - k) k (fuel + 1) L a w (by omega) (Nat.le_refl _) (by omega) hs hcl hall hn (hfin s L a w h hall hn)
  ·refine ⟨fun hr => ?_, fun i hi => ?_⟩
   ·exfalso; apply hall
    intro i hi
    have h1 := ready_nil ht hs hr i (by omega)
    rw [Array.getD_eq_getD_getElem?, Array.getElem?_eq_getElem (by omega)] at h1 ⊢
    simpa using h1
   ·obtain ⟨his, hr⟩ := ready_g hi hs
    have hik : i < k := by
     rcases Nat.lt_or_ge i k with h1 | h1
     ·exact h1
     ·exfalso; apply hall
      intro x hx
      exact ready_early hcl hr x (tail_early hl his h1 (by omega))
    have hc1 := cnt_set _ _ (cnt_getD (by omega) hr.1)
    refine wpOp_mono ?_ (hstep i hik s L a w (fun t ht => h.frame t ht) h.glob h.cons hs hcl hr (fun j d hw => ?_))
    ·rintro a' w' ⟨s', v, rfl, hV, hG, hI, hst⟩
     refine ih s' _ _ _ (by simpa using hs) ?_ (hcl.next hr (by omega)) (fun x hx => by rw [getD_set_ne false (by omega)]; exact hn x hx) ⟨by rw [put_size]; exact h.size, by rw [put_defers]; exact h.defers, fun t hf => ?_, hG, hV, fun j d hd hj => ?_⟩
     ·rw [Array.toList_setIfInBounds]; omega
     ·rw [put_other ?_]
      ·exact h.frame t hf
      ·intro hd
       obtain ⟨o, ho, hd⟩ := Option.bind_eq_some_iff.1 hd
       have := Array.all_eq_true'.1 hf o (Array.mem_of_getElem? ho)
       simp [hd] at this
     ·by_cases hji : j = i
      ·subst hji
       rw [put_at hd (by rw [h.size]; exact (tidy_dst ht hd).1)]
       exact hI d hd
      ·rw [getD_set_ne false (Ne.symm hji)] at hj
       rw [put_other (fun e => hji ((tidy_dst ht e).2 j hd))]
       exact hst j d hd (h.done j d hd hj)
    ·have : j ∈ aft ops i := by
      unfold waitsFor at hw
      unfold aft
      cases ho : ops[i]? with
      | none => simp [ho] at hw
      | some o =>
       simp only [ho, Bool.and_eq_true, beq_iff_eq] at hw
       obtain ⟨e, he, h2⟩ := Array.any_eq_true'.1 hw.1
       simp only [Bool.and_eq_true, beq_iff_eq] at h2
       exact List.mem_map.2 ⟨e, List.mem_filter.2 ⟨Array.mem_toList_iff.2 he, h2.2⟩, h2.1⟩
     have hd : (ops[j]?).bind (·.dst) = some d := by
      unfold waitsFor at hw
      simp only [Bool.and_eq_true, beq_iff_eq] at hw
      exact hw.2
     exact h.done j d hd (hr.2 j this)
end
structure Sg where
 ev : Option Value
 bs : List (Nat × Nat)
def OE (ca : Nat → Option Value → List Value) (ta : Nat → TypeId) (Os : Option Value → Own) (s : Sg) : Own := s.bs.map (fun q => (q.2, ca q.1 s.ev, ta q.1)) ++ Os s.ev
def XB (O : Own) (G : Grows) (b : Nat) : Prop := (∃ p ∈ O, p.1 = b) ∨ (∃ g ∈ G, g.v.ownBlock = some b)
def SameX (lo : Nat) (X : Nat → Prop) (w w' : World) : Prop := (w'.os = w.os ∧ w'.tape = w.tape ∧ w'.output = w.output) ∧ w.heap.size ≤ w'.heap.size ∧ ∀ b, lo ≤ b → b < w.heap.size → ¬ X b → w'.heap[b]? = w.heap[b]?
def AwS (lo : Nat) (X : Nat → Prop) (p : Asr) : Asr := fun v w => ∀ w', SameX lo X w w' → p v w'
section
variable {lo : Nat} {X X' : Nat → Prop} {w w' w'' : World} {p : Asr} {v c : Value}
theorem SameX.refl (lo : Nat) (X : Nat → Prop) (w : World) : SameX lo X w w := ⟨⟨rfl, rfl, rfl⟩, Nat.le_refl _, fun _ _ _ _ => rfl⟩
theorem sameX_of (h : Below w.heap.size w w') : SameX lo X w w' := ⟨⟨h.os, h.tape, h.output⟩, h.size, fun b _ hb _ => h.block b hb⟩
theorem SameX.trans (h : SameX lo X w w') (k : SameX lo X' w' w'') (hx : ∀ b, X' b → X b ∨ w.heap.size ≤ b) : SameX lo X w w'' :=
 ⟨⟨k.1.1.trans h.1.1, k.1.2.1.trans h.1.2.1, k.1.2.2.trans h.1.2.2⟩, Nat.le_trans h.2.1 k.2.1, fun b h1 h2 h3 => (k.2.2 b h1 (Nat.lt_of_lt_of_le h2 h.2.1) (fun hb => (hx b hb).elim h3 (fun h4 => by omega))).trans (h.2.2 b h1 h2 h3)⟩
theorem SameX.mono (h : SameX 0 X w w') : SameX lo X w w' := ⟨h.1, h.2.1, fun b _ hb hx => h.2.2 b (Nat.zero_le _) hb hx⟩
theorem AwS.here (h : AwS lo X p v w) : p v w := h w (SameX.refl _ _ _)
theorem AwS.next (h : AwS lo X p v w) (hs : SameX 0 X w w') (hx : ∀ b, X' b → X b ∨ w.heap.size ≤ b) : AwS lo X' p v w' := fun w2 h2 => h w2 (hs.mono.trans h2 hx)
theorem awS_isV : AwS lo X (isV c) c w := fun _ _ => rfl
end
section
variable {P : Program} {n : Nat} {Q : Exit → Act → World → Prop} {l : Fr} {w0 W : World} {ops : Array Oper} {os : List Oper} {K : List (Nat × World)} {L : List Asr} {i : Nat}
variable {al : List Nat} {ca : Nat → Option Value → List Value} {ta : Nat → TypeId} {Os : Option Value → Own} {Gs : Option Value → Grows} {lo ef jy : Nat} {s : Sg}
theorem St.drops {O : Own} {G : Grows} {w : World} : ∀ (A : Own), St w0 (A ++ O) G K w → St w0 O G K w
 | [], h => h
 | _ :: A, h => St.drops A h.tail
def GG (w0 : World) (K : List (Nat × World)) (lo : Nat) (ca : Nat → Option Value → List Value) (ta : Nat → TypeId) (Os : Option Value → Own) (Gs : Option Value → Grows) (s : Sg) (w : World) : Prop := St w0 (OE ca ta Os s) (Gs s.ev) K w ∧ lo ≤ w.heap.size ∧ ∀ q ∈ s.bs, lo ≤ q.2
def VG (al : List Nat) (ef : Nat) (s : Sg) (L : Array Bool) : Prop := (∀ a ∈ al, L.getD a false = true ↔ ∃ B, (a, B) ∈ s.bs) ∧ (∀ q ∈ s.bs, q.1 ∈ al) ∧ s.bs.Pairwise (fun p q => p.1 ≠ q.1) ∧ (L.getD ef false = true ↔ s.ev.isSome = true)
def IG (al : List Nat) (ef jy lo : Nat) (ca : Nat → Option Value → List Value) (ta : Nat → TypeId) (Os : Option Value → Own) (Gs : Option Value → Grows) (L : List Asr) (s : Sg) (i : Nat) (v : Value) (w : World) : Prop :=
 (i ∈ al → ∃ B, (i, B) ∈ s.bs ∧ v = .pointer (some ⟨B, 0, none⟩)) ∧ (i = ef → s.ev = some v) ∧ (i = jy → ∀ y, s.ev = some y → v = y) ∧ (i ∉ al → i ≠ ef → AwS lo (XB (OE ca ta Os s) (Gs s.ev)) (atI L i) v w)
def Tr (ops : Array Oper) (jy : Nat) (ca : Nat → Option Value → List Value) (ta : Nat → TypeId) (Os : Option Value → Own) (Gs : Option Value → Grows) (s s' : Sg) (a : Act) (w w' : World) : Prop :=
 SameX 0 (XB (OE ca ta Os s) (Gs s.ev)) w w' ∧ (∀ b, XB (OE ca ta Os s') (Gs s'.ev) b → XB (OE ca ta Os s) (Gs s.ev) b ∨ w.heap.size ≤ b) ∧ (∀ q ∈ s.bs, q ∈ s'.bs) ∧ (s'.ev = s.ev ∨ (s.ev = none ∧ ∃ y, s'.ev = some y ∧ ∀ d, (ops[jy]?).bind (·.dst) = some d → a.eval (.tmp d) = y))
theorem Tr.refl {a : Act} {w w' : World} (h : Below w.heap.size w w') : Tr ops jy ca ta Os Gs s s a w w' := ⟨sameX_of h, fun b hb => .inl hb, fun q hq => hq, .inl rfl⟩
def SG (P : Program) (n : Nat) (ops : Array Oper) (Q : Exit → Act → World → Prop) (l : Fr) (w0 : World) (K : List (Nat × World)) (lo : Nat) (al : List Nat) (ef jy : Nat) (ca : Nat → Option Value → List Value) (ta : Nat → TypeId) (Os : Option Value → Own) (Gs : Option Value → Grows) (L : List Asr) (i : Nat) : Prop :=
 ∀ t0, Has n l t0 → ∀ s LB (a : Act) w, (∀ t, freeT ops t = true → a.eval (.tmp t) = t0.tmps.getD t undef) → GG w0 K lo ca ta Os Gs s w → VG al ef s LB → LB.size = ops.size → ClosedG ops LB → ReadyG ops LB i → (∀ j d, waitsFor ops i j d = true → IG al ef jy lo ca ta Os Gs L s j (a.eval (.tmp d)) w) →
  wpOp P ops Q i (fun a' w' => ∃ s' v, a' = a.put ((ops[i]?).bind (·.dst)) v ∧ VG al ef s' (LB.setIfInBounds i true) ∧ GG w0 K lo ca ta Os Gs s' w' ∧ Tr ops jy ca ta Os Gs s s' a w w' ∧ (∀ d, (ops[i]?).bind (·.dst) = some d → IG al ef jy lo ca ta Os Gs L s' i v w')) a w
theorem SG.step (h : SG P n ops Q l w0 K lo al ef jy ca ta Os Gs L i) : ∀ a, Has n l a → GStep P ops Q a.tmps (GG w0 K lo ca ta Os Gs) (IG al ef jy lo ca ta Os Gs L) (VG al ef) i := fun t0 h0 s LB a w hF hG hV hs hc hr hD => by
 refine wpOp_mono ?_ (h t0 h0 s LB a w hF hG hV hs hc hr hD)
 rintro a' w' ⟨s', v, h1, h2, h3, ⟨t1, t2, t3, t4⟩, h5⟩
 refine ⟨s', v, h1, h2, h3, h5, fun j d hd hj => ⟨fun hj1 => ?_, fun hj1 => ?_, fun hj1 y hy => ?_, fun h6 h7 => (hj.2.2.2 h6 h7).next t1 t2⟩⟩
 ·obtain ⟨B, hB, e⟩ := hj.1 hj1
  exact ⟨B, t3 _ hB, e⟩
 ·rcases t4 with t4 | ⟨t4, _⟩
  ·rw [t4]; exact hj.2.1 hj1
  ·have := hj.2.1 hj1; rw [t4] at this; cases this
 ·rcases t4 with t4 | ⟨t4, y', t5, t6⟩
  ·rw [t4] at hy; exact hj.2.2.1 hj1 y hy
  ·rw [t5] at hy; cases hy
   subst hj1
   exact t6 d hd
theorem SG.ext {L1 L2 : List Asr} (ht : tidyR ops n = true) (hag : ∀ j, j ≤ i → atI L1 j = atI L2 j) (h : SG P n ops Q l w0 K lo al ef jy ca ta Os Gs L1 i) : SG P n ops Q l w0 K lo al ef jy ca ta Os Gs L2 i := fun t0 h0 s LB a w hF hG hV hs hc hr hD => by
 have hlt : ∀ j d, waitsFor ops i j d = true → j < i := fun j d hw => by
  cases ho : ops[i]? with
  | none => simp [waitsFor, ho] at hw
  | some o =>
   simp only [waitsFor, ho, Bool.and_eq_true, beq_iff_eq] at hw
   obtain ⟨e, he, h2⟩ := Array.any_eq_true'.1 hw.1
   simp only [Bool.and_eq_true, beq_iff_eq] at h2
   rw [← h2.1]; exact tidy_after ht ho e he h2.2
 have h2 := h t0 h0 s LB a w hF hG hV hs hc hr (fun j d hw => by unfold IG; rw [hag j (Nat.le_of_lt (hlt j d hw))]; exact hD j d hw)
 unfold IG at h2
 rw [hag i (Nat.le_refl _)] at h2
 exact h2
def earlyE (ops : Array Oper) (ef i : Nat) : Bool := Nat.ble ops.size ef || (earlyL ops ef).contains i
def earlyJ (ops : Array Oper) (ef jy i : Nat) : Bool := !Nat.beq i jy || earlyE ops ef i
theorem earlyJ_of (h : earlyJ ops ef jy i = true) : i = jy → earlyE ops ef i = true := fun e => by
 unfold earlyJ at h
 rw [e, Nat.beq_refl] at h
 rw [e]; exact h
theorem ev_none {L : Array Bool} (hV : VG al ef s L) (hs : L.size = ops.size) (hc : ClosedG ops L) (hi : L.getD i false = false) (he : earlyE ops ef i = true) : s.ev = none := by
 cases hev : s.ev with
 | none => rfl
 | some v =>
  have hd : L.getD ef false = true := hV.2.2.2.2 (by rw [hev]; rfl)
  unfold earlyE at he
  rw [Bool.or_eq_true] at he
  rcases he with he | he
  ·have h1 : ops.size ≤ ef := Nat.le_of_ble_eq_true he
   rw [Array.getD_eq_getD_getElem?, Array.getElem?_eq_none (by omega)] at hd
   cases hd
  ·have := early_done (D := fun x => L.getD x false = true) (hc ef hd) (fun j hj x hx => hc j hj x hx) i (List.contains_iff_mem.1 he)
   rw [hi] at this; cases this
theorem deps_has {t0 : Act} (h0 : Has n l t0) {a : Act} {w : World} (hF : ∀ t, freeT ops t = true → a.eval (.tmp t) = t0.tmps.getD t undef) (hD : ∀ j d, waitsFor ops i j d = true → IG al ef jy lo ca ta Os Gs L s j (a.eval (.tmp d)) w)
  (hn : ∀ j d, waitsFor ops i j d = true → j ∈ al ∨ j = ef → atI L j = anyA) : ∀ j d, waitsFor ops i j d = true → atI L j (a.eval (.tmp d)) w := fun j d hw => by
 by_cases h1 : j ∈ al ∨ j = ef
 ·rw [hn j d hw h1]; trivial
 ·rw [not_or] at h1
  exact ((hD j d hw).2.2.2 h1.1 h1.2).here
def NoAsr (al : List Nat) (ef : Nat) (L : List Asr) : Prop := ∀ j, j ∈ al ∨ j = ef → atI L j = anyA
theorem vg_other {L : Array Bool} (hV : VG al ef s L) (hi : i ∉ al) (he : i ≠ ef) : VG al ef s (L.setIfInBounds i true) :=
 ⟨fun a ha => by rw [getD_set_ne false (fun e => hi (by rw [e]; exact ha))]; exact hV.1 a ha, hV.2.1, hV.2.2.1, by rw [getD_set_ne false he]; exact hV.2.2.2⟩
variable {d : Nat} {op : Op} {ty : TypeId} {pos : String} {aft_ : Array Edge} {v : Value} {gd : Option (Nat × Bool)}
theorem sg_base (hal : i ∉ al) (hie : i ≠ ef) (hij : i = jy → earlyE ops ef i = true) (hi : ops[i]? = some ⟨some d, op, ty, pos, aft_, gd⟩) (hNo : NoAsr al ef L)
  (h : ∀ (t0 a : Act) s w, Has n l t0 → (∀ t, freeT ops t = true → a.eval (.tmp t) = t0.tmps.getD t undef) → GG w0 K lo ca ta Os Gs s w → (earlyE ops ef i = true → s.ev = none) → (∀ j d, waitsFor ops i j d = true → IG al ef jy lo ca ta Os Gs L s j (a.eval (.tmp d)) w) → (∀ j d, waitsFor ops i j d = true → atI L j (a.eval (.tmp d)) w) →
   wpOp P ops Q i (fun a' w' => ∃ v, a' = a.put (some d) v ∧ AwS lo (XB (OE ca ta Os s) (Gs s.ev)) (atI L i) v w' ∧ Below w.heap.size w w') a w) : SG P n ops Q l w0 K lo al ef jy ca ta Os Gs L i := fun t0 h0 s LB a w hF hG hV hs hc hr hD => by
 refine wpOp_mono ?_ (h t0 a s w h0 hF hG (fun he => ev_none hV hs hc hr.1 he) hD (deps_has h0 hF hD fun j d _ hj => hNo j hj))
 rintro a' w' ⟨v, rfl, hA, hb⟩
 refine ⟨s, v, by rw [hi]; rfl, vg_other hV hal hie, ⟨hG.1.grow hb, Nat.le_trans hG.2.1 hb.size, hG.2.2⟩, Tr.refl hb, fun _ _ => ⟨fun h => absurd h hal, fun h => absurd h hie, (fun h y hy => by rw [ev_none hV hs hc hr.1 (hij h)] at hy; cases hy), fun _ _ => hA⟩⟩
theorem wp_val {o : Oper} {a : Act} {w w' : World} {K' : Act → World → Prop} (hi : ops[i]? = some o) (hw : Region.wanted o (yielded ops a.tmps) = true) (hr : (execOp a.eval o).run P w = .ok (.value v) w') (hK : K' (a.put o.dst v) w') : wpOp P ops Q i K' a w := by
 unfold wpOp
 simp only [hi, hw, if_true]
 refine .inl ?_
 unfold Oper.wp
 rw [hr]
 exact hK
theorem sgV (li : Fr) (hal : al.contains i = false) (hie : Nat.beq i ef = false) (hij : earlyJ ops ef jy i = true) (hi : ops[i]? = some ⟨some d, op, ty, pos, aft_, gd⟩) (hNo : NoAsr al ef L) (hw : Wants ops L i ⟨some d, op, ty, pos, aft_, gd⟩) (hli : AllO n ops l L i li)
  (hr : ∀ ev w, (earlyE ops ef i = true → ev = none) → St w0 (Os ev) (Gs ev) K w → Runs P li ⟨some d, op, ty, pos, #[], none⟩ w v w) (hI : atI L i = isV v) : SG P n ops Q l w0 K lo al ef jy ca ta Os Gs L i :=
 sg_base (fun h => by rw [List.contains_iff_mem.2 h] at hal; cases hal) (fun e => by rw [e, Nat.beq_refl] at hie; cases hie) (earlyJ_of hij) hi hNo fun t0 a s w h0 hF hG he hD hD' => by
  have hS : St w0 (Os s.ev) (Gs s.ev) K w := St.drops _ hG.1
  exact wp_val hi (hw.yes hD') (by rw [execOp_guard a.eval _ _ _ _ pos _ #[] _ none]; exact hr s.ev w he hS a.eval (allO_has h0 hF hD' hli)) ⟨v, rfl, by rw [hI]; exact awS_isV, Below.refl _ _⟩
theorem sg_call {f : FuncId} {xs : List Operand} {ts : Array TypeId} (ps : List Asr) (hal : al.contains i = false) (hie : Nat.beq i ef = false) (hij : earlyJ ops ef jy i = true) (hi : ops[i]? = some ⟨some d, .call { callee := .value (.func f), args := xs.toArray, argTypes := ts }, ty, pos, aft_, gd⟩) (hNo : NoAsr al ef L) (hgo : goesIn P f = true)
  (hw : Wants ops L i ⟨some d, .call { callee := .value (.func f), args := xs.toArray, argTypes := ts }, ty, pos, aft_, gd⟩) (hp : AllP n ops l L i xs ps)
  {p : Asr} (hc : ∀ vs ev w, (earlyE ops ef i = true → ev = none) → St w0 (Os ev) (Gs ev) K w → lo ≤ w.heap.size → Holds ps vs w → Calls P f vs.toArray w (GivesN p w)) (hI : atI L i = p) : SG P n ops Q l w0 K lo al ef jy ca ta Os Gs L i :=
 sg_base (fun h => by rw [List.contains_iff_mem.2 h] at hal; cases hal) (fun e => by rw [e, Nat.beq_refl] at hie; cases hie) (earlyJ_of hij) hi hNo fun t0 a s w h0 hF hG he hD hD' => by
  have hS : St w0 (Os s.ev) (Gs s.ev) K w := St.drops _ hG.1
  have h1 := hc (xs.map a.eval) s.ev w he hS hG.2.1 (allP_holds h0 hF hD' hp)
  rw [show (xs.map a.eval).toArray = xs.toArray.map a.eval by simp] at h1
  unfold wpOp
  simp only [hi, hw.yes hD', if_true]
  refine .inl ?_
  unfold Oper.wp
  rw [run_call P a.eval w f xs.toArray ts _ rfl rfl hgo, Oper.upon_enter]
  refine h1.mono ?_
  rintro e w' ⟨v, rfl, hv, hb⟩
  refine ⟨v, by simp, ?_, hb⟩
  rw [hI]
  intro w2 h2
  refine hv w2 ⟨h2.2.1, fun b h3 h4 => h2.2.2 b (Nat.le_trans hG.2.1 h3) h4 (fun hx => ?_)⟩
  rcases hx with ⟨q, hq, rfl⟩ | ⟨g, hg, hgb⟩
  ·have := lt_of_heap (hG.1.own q hq).2; omega
  ·have := (hG.1.glt hg hgb).2; omega
theorem sg_eff {o : Oper} (hal : al.contains ef = false) (hij : Nat.beq ef jy = false) (hi : ops[ef]? = some o)
  (h : ∀ (t0 a : Act) bs w, Has n l t0 → (∀ t, freeT ops t = true → a.eval (.tmp t) = t0.tmps.getD t undef) → GG w0 K lo ca ta Os Gs ⟨none, bs⟩ w → bs.Pairwise (fun p q => p.1 ≠ q.1) → (∀ j d, waitsFor ops ef j d = true → IG al ef jy lo ca ta Os Gs L ⟨none, bs⟩ j (a.eval (.tmp d)) w) →
   wpOp P ops Q ef (fun a' w' => ∃ v y, a' = a.put o.dst v ∧ (∀ d, o.dst = some d → v = y) ∧ St w0 (OE ca ta Os ⟨some y, bs⟩) (Gs (some y)) K w' ∧ SameX 0 (XB (OE ca ta Os ⟨none, bs⟩) (Gs none)) w w' ∧ (∀ b, XB (OE ca ta Os ⟨some y, bs⟩) (Gs (some y)) b → XB (OE ca ta Os ⟨none, bs⟩) (Gs none) b ∨ w.heap.size ≤ b) ∧ (∀ d, (ops[jy]?).bind (·.dst) = some d → a.eval (.tmp d) = y)) a w) : SG P n ops Q l w0 K lo al ef jy ca ta Os Gs L ef := fun t0 h0 s LB a w hF hG hV hs hc hr hD => by
 have hal' : ef ∉ al := fun h => by rw [List.contains_iff_mem.2 h] at hal; cases hal
 obtain ⟨ev, bs⟩ := s
 have hev : ev = none := by
  cases ev with
  | none => rfl
  | some v => have := hV.2.2.2.2 rfl; rw [hr.1] at this; cases this
 subst hev
 refine wpOp_mono ?_ (h t0 a bs w h0 hF hG hV.2.2.1 hD)
 rintro a' w' ⟨v, y, rfl, hvy, hSt, hsame, hX, hy⟩
 refine ⟨⟨some y, bs⟩, v, by rw [hi]; rfl, ⟨fun a ha => by rw [getD_set_ne false (fun e => hal' (by rw [e]; exact ha))]; exact hV.1 a ha, hV.2.1, hV.2.2.1, ?_⟩, ⟨hSt, Nat.le_trans hG.2.1 hsame.2.1, hG.2.2⟩, ⟨hsame, hX, fun q hq => hq, .inr ⟨rfl, y, rfl, hy⟩⟩, fun d hd => ⟨fun h => absurd h hal', fun _ => ?_, fun h => absurd hij (by rw [h, Nat.beq_refl]; decide), fun _ h => absurd rfl h⟩⟩
 ·rw [Array.getD_eq_getD_getElem?, Array.getElem?_setIfInBounds_self_of_lt (by rw [hs]; exact (Array.getElem?_eq_some_iff.1 hi).1)]
  exact ⟨fun _ => rfl, fun _ => rfl⟩
 ·rw [hi] at hd
  rw [hvy d hd]
theorem St.perm {O O' : Own} {G : Grows} {w : World} (h : St w0 O G K w) (hp : O.Perm O') : St w0 O' G K w where
 below := h.below
 own := fun p hp' => h.own p (hp.mem_iff.2 hp')
 dist := h.dist.perm hp (fun h => Ne.symm h)
 kept := fun q hq => ⟨(h.kept q hq).1, fun p hp' => (h.kept q hq).2 p (hp.mem_iff.2 hp')⟩
 rows := fun g hg => ⟨(h.rows g hg).1, fun b hb => ⟨fun p hp' => ((h.rows g hg).2 b hb).1 p (hp.mem_iff.2 hp'), ((h.rows g hg).2 b hb).2⟩⟩
 gdist := h.gdist
def dropF (ds : List Nat) : Fr → Fr
 | [] => []
 | p :: l => bif ds.contains p.1 then dropF ds l else p :: dropF ds l
theorem look_dropF {ds : List Nat} {t : Nat} {v : Value} : ∀ {l : Fr}, look (dropF ds l) t = some v → t ∉ ds → look l t = some v
 | [], h, _ => by cases h
 | p :: l, h, ht => by
  unfold dropF at h
  unfold look
  cases hc : ds.contains p.1 with
  | true =>
   rw [hc, cond_true] at h
   cases hb : Nat.beq p.1 t with
   | true =>
    rw [Nat.eq_of_beq_eq_true hb] at hc
    exact absurd (List.contains_iff_mem.1 hc) ht
   | false => rw [cond_false]; exact look_dropF h ht
  | false =>
   rw [hc, cond_false] at h
   unfold look at h
   cases hb : Nat.beq p.1 t with
   | true => rw [hb, cond_true] at h; rw [cond_true]; exact h
   | false => rw [hb, cond_false] at h; rw [cond_false]; exact look_dropF h ht
theorem look_dropF_not {ds : List Nat} {t : Nat} {v : Value} : ∀ {l : Fr}, look (dropF ds l) t = some v → t ∉ ds
 | [], h => by cases h
 | p :: l, h => by
  unfold dropF at h
  cases hc : ds.contains p.1 with
  | true => rw [hc, cond_true] at h; exact look_dropF_not h
  | false =>
   rw [hc, cond_false] at h
   unfold look at h
   cases hb : Nat.beq p.1 t with
   | true =>
    intro hm
    rw [← Nat.eq_of_beq_eq_true hb] at hm
    rw [List.contains_iff_mem.2 hm] at hc; cases hc
   | false => rw [hb, cond_false] at h; exact look_dropF_not h
def finL (al : List Nat) (ef jy lo : Nat) (X : Nat → Prop) (Bf : Nat → Nat) (y : Value) : Nat → List Asr → List Asr
 | _, [] => []
 | j, q :: L => (bif al.contains j then isV (.pointer (some ⟨Bf j, 0, none⟩)) else bif Nat.beq j ef then isV y else bif Nat.beq j jy then (fun v w => v = y ∧ AwS lo X q v w) else AwS lo X q) :: finL al ef jy lo X Bf y (j + 1) L
theorem atI_finL {X : Nat → Prop} {Bf : Nat → Nat} {y : Value} : ∀ (L : List Asr) (j i : Nat), i < L.length → atI (finL al ef jy lo X Bf y j L) i = (bif al.contains (i + j) then isV (.pointer (some ⟨Bf (i + j), 0, none⟩)) else bif Nat.beq (i + j) ef then isV y else bif Nat.beq (i + j) jy then (fun v w => v = y ∧ AwS lo X (atI L i) v w) else AwS lo X (atI L i))
 | [], j, i, h => by simp at h
 | q :: L, j, 0, h => by rw [Nat.zero_add]; rfl
 | q :: L, j, i + 1, h => by
  show atI (finL al ef jy lo X Bf y (j + 1) L) i = _
  rw [atI_finL L (j + 1) i (by simpa using h), show i + 1 + j = i + (j + 1) by omega]
  rfl
theorem cuts : ∀ (Bs : List Nat) (lo : Nat) (w : World), ∃ Ks : List (Nat × World), (∀ q ∈ Ks, lo ≤ q.1 ∧ Agree q.1 q.2 w ∧ ∀ B ∈ Bs, B < q.1 ∨ q.2.heap.size ≤ B) ∧ (∃ q ∈ Ks, q.2 = w) ∧ ∀ b, lo ≤ b → b < w.heap.size → b ∉ Bs → ∃ q ∈ Ks, q.1 ≤ b ∧ b < q.2.heap.size
 | [], lo, w => ⟨[(lo, w)], fun q hq => by
   simp only [List.mem_cons, List.not_mem_nil, or_false] at hq
   subst hq
   exact ⟨Nat.le_refl _, Agree.refl _ _, fun B hB => by cases hB⟩, ⟨(lo, w), List.mem_cons_self, rfl⟩, fun b h1 h2 _ => ⟨(lo, w), List.mem_cons_self, h1, h2⟩⟩
 | B :: Bs, lo, w => by
  by_cases hB : B < w.heap.size
  ·obtain ⟨A, hA, hA1⟩ := cut_world w (B := B) (lo := lo) (Nat.le_of_lt hB)
   obtain ⟨K1, k1, _, k2⟩ := cuts Bs lo A
   obtain ⟨K2, k3, ⟨q0, k5, k6⟩, k4⟩ := cuts Bs (max lo (B + 1)) w
   refine ⟨K1 ++ K2, fun q hq => ?_, ⟨q0, List.mem_append_right _ k5, k6⟩, fun b h1 h2 h3 => ?_⟩
   ·rcases List.mem_append.1 hq with hq | hq
    ·obtain ⟨e1, e2, e3⟩ := k1 q hq
     refine ⟨e1, e2.trans (hA1.mono e1), fun B' hB' => ?_⟩
     rcases List.mem_cons.1 hB' with rfl | hB'
     ·right; rw [← hA]; exact e2.1
     ·exact e3 B' hB'
    ·obtain ⟨e1, e2, e3⟩ := k3 q hq
     refine ⟨by omega, e2, fun B' hB' => ?_⟩
     rcases List.mem_cons.1 hB' with rfl | hB'
     ·left; omega
     ·exact e3 B' hB'
   ·have h4 : b ≠ B := fun e => h3 (by rw [e]; exact List.mem_cons_self)
    have h5 : b ∉ Bs := fun e => h3 (List.mem_cons_of_mem _ e)
    rcases Nat.lt_or_ge b B with h6 | h6
    ·obtain ⟨q, hq, h7⟩ := k2 b h1 (by omega) h5
     exact ⟨q, List.mem_append_left _ hq, h7⟩
    ·obtain ⟨q, hq, h7⟩ := k4 b (by omega) h2 h5
     exact ⟨q, List.mem_append_right _ hq, h7⟩
  ·obtain ⟨K1, k1, k5, k2⟩ := cuts Bs lo w
   refine ⟨K1, fun q hq => ?_, k5, fun b h1 h2 h3 => k2 b h1 h2 (fun e => h3 (List.mem_cons_of_mem _ e))⟩
   obtain ⟨e1, e2, e3⟩ := k1 q hq
   refine ⟨e1, e2, fun B' hB' => ?_⟩
   rcases List.mem_cons.1 hB' with rfl | hB'
   ·right; have := e2.1; omega
   ·exact e3 B' hB'
theorem St.more {O : Own} {G : Grows} {w : World} (h : St w0 O G K w) (Ks : List (Nat × World)) (hk : ∀ q ∈ Ks, Agree q.1 q.2 w ∧ (∀ p ∈ O, p.1 < q.1 ∨ q.2.heap.size ≤ p.1) ∧ ∀ g ∈ G, ∀ b, g.v.ownBlock = some b → b < q.1 ∨ q.2.heap.size ≤ b) : St w0 O G (Ks ++ K) w where
 below := h.below
 own := h.own
 dist := h.dist
 kept := fun q hq => by
  rcases List.mem_append.1 hq with hq | hq
  ·exact ⟨(hk q hq).1, (hk q hq).2.1⟩
  ·exact h.kept q hq
 rows := fun g hg => ⟨(h.rows g hg).1, fun b hb => ⟨((h.rows g hg).2 b hb).1, fun q hq => by
  rcases List.mem_append.1 hq with hq | hq
  ·exact (hk q hq).2.2 g hg b hb
  ·exact ((h.rows g hg).2 b hb).2 q hq⟩⟩
 gdist := h.gdist
theorem atI_len : ∀ {L : List Asr} {j : Nat}, L.length ≤ j → atI L j = anyA
 | [], _, _ => rfl
 | _ :: L, 0, h => by simp at h
 | _ :: L, j + 1, h => atI_len (L := L) (by simpa using h)
def BLS (P : Program) (n : Nat) (ops : Array Oper) (Q : Exit → Act → World → Prop) (l : Fr) (w0 : World) (K : List (Nat × World)) (lo : Nat) (al : List Nat) (ef jy : Nat) (ca : Nat → Option Value → List Value) (ta : Nat → TypeId) (Os : Option Value → Own) (Gs : Option Value → Grows) (Goal : List Asr → Prop) : Nat → List Asr → Nat → Prop
 | 0, Lr, _ => Goal Lr
 | m + 1, Lr, k => ∃ q, ((k ∈ al ∨ k = ef) → q = anyA) ∧ (NoAsr al ef (q :: Lr).reverse → SG P n ops Q l w0 K lo al ef jy ca ta Os Gs (q :: Lr).reverse k) ∧ BLS P n ops Q l w0 K lo al ef jy ca ta Os Gs Goal m (q :: Lr) (k + 1)
variable {Goal : List Asr → Prop}
theorem bls_nil {Lr : List Asr} {k : Nat} (h : Goal Lr) : BLS P n ops Q l w0 K lo al ef jy ca ta Os Gs Goal 0 Lr k := h
theorem bls_cons {m k : Nat} {Lr : List Asr} (k' : Nat) (hk : k + 1 = k') (hne : (al.contains k || Nat.beq k ef) = false) (q : Asr) (h : NoAsr al ef (q :: Lr).reverse → SG P n ops Q l w0 K lo al ef jy ca ta Os Gs (q :: Lr).reverse k) (hr : BLS P n ops Q l w0 K lo al ef jy ca ta Os Gs Goal m (q :: Lr) k') : BLS P n ops Q l w0 K lo al ef jy ca ta Os Gs Goal (m + 1) Lr k := by
 subst hk
 refine ⟨q, fun hc => ?_, h, hr⟩
 rw [Bool.or_eq_false_iff] at hne
 rcases hc with hc | hc
 ·rw [List.contains_iff_mem.2 hc] at hne; cases hne.1
 ·rw [hc, Nat.beq_refl] at hne; cases hne.2
theorem bls_any {m k : Nat} {Lr : List Asr} (k' : Nat) (hk : k + 1 = k') (h : SG P n ops Q l w0 K lo al ef jy ca ta Os Gs (anyA :: Lr).reverse k) (hr : BLS P n ops Q l w0 K lo al ef jy ca ta Os Gs Goal m (anyA :: Lr) k') : BLS P n ops Q l w0 K lo al ef jy ca ta Os Gs Goal (m + 1) Lr k := by
 subst hk; exact ⟨anyA, fun _ => rfl, fun _ => h, hr⟩
theorem bls_run (ht : tidyR ops n = true) : ∀ (m k : Nat) (Lr : List Asr), Lr.length = k → NoAsr al ef Lr.reverse → (∀ i, i < k → SG P n ops Q l w0 K lo al ef jy ca ta Os Gs Lr.reverse i) → BLS P n ops Q l w0 K lo al ef jy ca ta Os Gs Goal m Lr k →
  ∃ Lr', Lr'.length = k + m ∧ (∀ i, i < k + m → SG P n ops Q l w0 K lo al ef jy ca ta Os Gs Lr'.reverse i) ∧ Goal Lr'
 | 0, k, Lr, hl, hs, hg, h => ⟨Lr, hl, hg, h⟩
 | m + 1, k, Lr, hl, hs, hg, ⟨q, hq, hr, hn⟩ => by
  have hap : ∀ j, j < k → atI Lr.reverse j = atI (q :: Lr).reverse j := fun j hj => by rw [List.reverse_cons, atI_append (by simp; omega)]
  have hs' : NoAsr al ef (q :: Lr).reverse := fun j hj => by
   rcases Nat.lt_trichotomy j k with h1 | h1 | h1
   ·rw [← hap j h1]; exact hs j hj
   ·subst h1; rw [at_top hl]; exact hq hj
   ·exact atI_len (by simp; omega)
  obtain ⟨L', h1, h3, h4⟩ := bls_run ht m (k + 1) (q :: Lr) (by simp [hl]) hs' (fun i hi => by
   by_cases hik : i = k
   ·subst hik; exact hr hs'
   ·exact SG.ext ht (fun j hj => hap j (by omega)) (hg i (by omega))) hn
  exact ⟨L', by omega, fun i hi => h3 i (by omega), h4⟩
theorem fin_hasS {a : Act} {Kk : Fr → World → Prop} {G : Prop} : ∀ (os : List Oper) (L : List Asr) (l : Fr), (∀ i d, i < os.length → (os[i]?).bind (·.dst) = some d → atI L i (a.tmps.getD d undef) W) → (∀ i, i < os.length → (os[i]?).bind (·.dst) = none → ∃ v, atI L i v W) → a.tmps.size = n → a.defers = [] →
  (∀ t v, look l t = some v → (∀ o ∈ os, o.dst ≠ some t) → a.tmps.getD t undef = v) → (hK : ∀ l', Kk l' W → Has n l' a → G) → FinI os L l Kk W → G
 | [], L, l, hI, _, hs, hd, hl, hK, h => hK l h ⟨hs, hd, fun t v hv => hl t v hv (fun o ho => by cases ho)⟩
 | o :: os, L, l, hI, hN, hs, hd, hl, hK, h => by
  cases hod : o.dst with
  | none =>
   obtain ⟨v, hv⟩ := hN 0 (by simp) (by simp [hod])
   have h1 := h v hv
   rw [hod] at h1
   refine fin_hasS os L.tail _ (fun i e hi he => by rw [atI_tail]; exact hI (i + 1) e (by simpa using hi) (by simpa using he)) (fun i hi he => by rw [atI_tail]; exact hN (i + 1) (by simpa using hi) (by simpa using he)) hs hd ?_ hK h1
   intro t v hv hno
   refine hl t v hv (fun o' ho' => ?_)
   rcases List.mem_cons.1 ho' with rfl | ho'
   ·rw [hod]; simp
   ·exact hno o' ho'
  | some d =>
   have h0 := hI 0 d (by simp) (by simp [hod])
   have h1 := h _ h0
   refine fin_hasS os L.tail _ (fun i e hi he => by rw [atI_tail]; exact hI (i + 1) e (by simpa using hi) (by simpa using he)) (fun i hi he => by rw [atI_tail]; exact hN (i + 1) (by simpa using hi) (by simpa using he)) hs hd ?_ hK h1
   intro t v hv hno
   rw [hod] at hv
   simp only [List.cons_append, List.nil_append] at hv
   unfold look at hv
   cases hb : Nat.beq d t with
   | true =>
    simp only [hb, cond_true, Option.some.injEq] at hv
    rw [← Nat.eq_of_beq_eq_true hb]; exact hv
   | false =>
    simp only [hb, cond_false] at hv
    refine hl t v hv (fun o' ho' => ?_)
    rcases List.mem_cons.1 ho' with rfl | ho'
    ·rw [hod]; intro e; rw [Option.some.inj e, Nat.beq_refl] at hb; cases hb
    ·exact hno o' ho'
def bAt (bs : List (Nat × Nat)) (a : Nat) : Nat := ((bs.find? (fun q => Nat.beq q.1 a)).map (·.2)).getD 0
theorem bAt_mem : ∀ {bs : List (Nat × Nat)} {a : Nat}, (∃ B, (a, B) ∈ bs) → (a, bAt bs a) ∈ bs
 | [], _, ⟨B, h⟩ => by cases h
 | q :: bs, a, ⟨B, h⟩ => by
  unfold bAt
  rw [List.find?_cons]
  cases hb : Nat.beq q.1 a with
  | true =>
   have := Nat.eq_of_beq_eq_true hb
   subst this
   exact List.mem_cons_self
  | false =>
   rcases List.mem_cons.1 h with h | h
   ·rw [← h, Nat.beq_refl] at hb; cases hb
   ·exact List.mem_cons_of_mem _ (bAt_mem ⟨B, h⟩)
theorem bAt_uniq {bs : List (Nat × Nat)} (hp : bs.Pairwise (fun p q => p.1 ≠ q.1)) {p q : Nat × Nat} (h1 : p ∈ bs) (h2 : q ∈ bs) (he : p.1 = q.1) : p = q := by
 induction hp with
 | nil => cases h1
 | cons ha hb ih =>
  rcases List.mem_cons.1 h1 with h3 | h3 <;> rcases List.mem_cons.1 h2 with h4 | h4
  ·rw [h3, h4]
  ·subst h3; exact absurd he (ha _ h4)
  ·subst h4; exact absurd he.symm (ha _ h3)
  ·exact ih h3 h4
end
end Go.Proofs.Ytpkcaabbcoiiiaa
namespace Go.Proofs.Ytpkcaabbcoiiiaa
open Go Go.RowKit
section
variable {P : Program} {n : Nat} {Q : Exit → Act → World → Prop} {l : Fr} {w0 W : World} {ops : Array Oper} {os : List Oper} {K : List (Nat × World)} {L : List Asr} {i : Nat} {O : Own} {G : Grows}
variable {al : List Nat} {zc : Nat → List Value} {ta : Nat → TypeId} {lo ef jy : Nat} {d : Nat} {ty : TypeId} {pos : String} {aft_ : Array Edge} {v : Value}
def caNo (zc : Nat → List Value) (a : Nat) : Option Value → List Value := fun _ => zc a
def gsNo (G : Grows) : Option Value → Grows := fun _ => G
theorem setMany_other {B b : Nat} (hb : b ≠ B) : ∀ (vs : List Value) (j : Nat) (w : World), (setMany w B j vs).heap[b]? = w.heap[b]?
 | [], _, _ => rfl
 | v :: vs, j, w => by unfold setMany; rw [setMany_other hb vs (j + 1)]; exact Below.heap_setCell _ _ _ _ hb
theorem setMany_rest : ∀ (vs : List Value) (B j : Nat) (w : World), ((setMany w B j vs).os = w.os ∧ (setMany w B j vs).tape = w.tape ∧ (setMany w B j vs).output = w.output) ∧ (setMany w B j vs).heap.size = w.heap.size
 | [], _, _, _ => ⟨⟨rfl, rfl, rfl⟩, rfl⟩
 | v :: vs, B, j, w => by
  unfold setMany
  obtain ⟨⟨h1, h2, h3⟩, h4⟩ := setMany_rest vs B (j + 1) (w.setCell ⟨B, j, none⟩ v)
  exact ⟨⟨h1, h2, h3⟩, h4.trans (by simp [World.setCell])⟩
theorem setMany_sameX {B j : Nat} {vs : List Value} {w : World} {X : Nat → Prop} (hX : X B) : SameX 0 X w (setMany w B j vs) :=
 ⟨(setMany_rest vs B j w).1, Nat.le_of_eq (setMany_rest vs B j w).2.symm, fun b _ _ hb => setMany_other (fun e => hb (by rw [e]; exact hX)) vs j w⟩
theorem storeAt_many {T : TypeId} {B j m : Nat} {vs cs : List Value} {U : TypeId} {w : World} {y : Value} (hsz : ∀ w, (sizeOf T).run P w = .ok m w) (hc : y.cells = vs.toArray) (hl : vs.length = m) (h1 : vs.all Value.oneCell' = true) (hB : w.heap[B]? = some (.cells cs.toArray U (0, 0))) (hj : j + m ≤ cs.length) :
  (Instr.storeAt T (.pointer (some ⟨B, j, none⟩)) y).run P w = .ok () (setMany w B j vs) := by
 subst hl
 have hst := run_storeMany (P := P) vs 0 j w cs hB (by omega) (fun u hu => List.all_eq_true.1 h1 u hu)
 rw [Nat.add_zero] at hst
 simp [Instr.storeAt, Instr.sureAddr, storeVar, hsz, hc, hst]
theorem wp_store {o : Oper} {a : Act} {w w' : World} {T : TypeId} {x y : Operand} {K' : Act → World → Prop} (hi : ops[i]? = some o) (ho : o.op = .store T x y) (hod : o.dst = none) (hog : o.guard = none) (hr : (Instr.storeAt T (a.eval x) (a.eval y)).run P w = .ok () w') (hK : K' a w') : wpOp P ops Q i K' a w := by
 unfold wpOp
 simp only [hi, wanted_free hog, if_true]
 refine .inl ?_
 obtain ⟨dst, op, ty, pos, aft, gd⟩ := o
 simp only at ho hod
 subst ho; subst hod
 unfold Oper.wp execOp
 simp only [Sem.run_bind, hr, Result.andThen_ok, Sem.run_pure, Oper.upon_skip]
 exact hK
end
end Go.Proofs.Ytpkcaabbcoiiiaa
namespace Go.Proofs.Ytpkcaabbcoiiiaa
open Go Go.RowKit
theorem ownsRow_sl {w : World} {base size n : Nat} {e : TypeId} {v : Value} {xs : List Value} (h : w.ownsRow base e size v n xs) : ∃ a c, v = .slice a n c ∧ n ≤ c := by
 rcases h.2 with ⟨rfl, rfl⟩ | ⟨g, cap, cur, rfl, _, _, hn, _⟩
 ·exact ⟨none, 0, rfl, Nat.le_refl _⟩
 ·exact ⟨_, cap, rfl, hn⟩
theorem ownsRow_at {w : World} {base size n : Nat} {e : TypeId} {v : Value} {xs : List Value} (h : w.ownsRow base e size v n xs) (hn : 0 < n) : ∃ b c, v = .slice (some ⟨b, 0, none⟩) n c ∧ base ≤ b := by
 rcases h.2 with ⟨rfl, rfl⟩ | ⟨g, cap, cur, rfl, hb, _, _, _⟩
 ·omega
 ·exact ⟨_, cap, rfl, hb⟩
theorem ownsRow_base {w : World} {base base' size n : Nat} {e : TypeId} {v : Value} {xs : List Value} (h : w.ownsRow base e size v n xs) (hb : base' ≤ base) : w.ownsRow base' e size v n xs :=
 ⟨h.1, h.2.imp id fun ⟨g, cap, cur, e, hg, k⟩ => ⟨g, cap, cur, e, Nat.le_trans hb hg, k⟩⟩
theorem ownsRow_agree {w W : World} {lo size n : Nat} {e : TypeId} {v : Value} {xs : List Value} (h : w.ownsRow lo e size v n xs) (hg : Agree lo w W) : W.ownsRow lo e size v n xs := by
 refine ⟨h.1, ?_⟩
 rcases h.2 with h2 | ⟨g, cap, cur, rfl, hb, hh, k⟩
 ·exact .inl h2
 ·exact .inr ⟨g, cap, cur, rfl, hb, (hg.2 g hb (lt_of_heap hh)).trans hh, k⟩
theorem ownsRow_cells {w : World} {base size n : Nat} {e : TypeId} {a : Option Addr} {c : Nat} {xs : List Value} (h : w.ownsRow base e size (.slice a n c) n xs) : (a = none ∧ n = 0) ∨ ∃ b, a = some ⟨b, 0, none⟩ ∧ base ≤ b ∧ ∀ (j : Nat) u, xs[j]? = some u → w.cell? ⟨b, j, none⟩ = some u := by
 rcases h.2 with ⟨e1, e2⟩ | ⟨g, cap, cur, e1, hb, hh, hn, hm, hs, ht⟩
 ·cases e1; exact .inl ⟨rfl, e2⟩
 ·cases e1
  refine .inr ⟨g, rfl, hb, fun j u hj => ?_⟩
  rw [← ht, List.getElem?_take] at hj
  split at hj
  ·simp only [World.cell?, hh]
   simpa using hj
  ·cases hj
theorem castL {os : List Oper} {L L' : List Asr} {l : Fr} {K : Fr → World → Prop} {W : World} (h : L = L') (k : FinI os L' l K W) : FinI os L l K W := h ▸ k
theorem fin_sV {os : List Oper} {L : List Asr} {l : Fr} {W : World} {lo : Nat} {X : Nat → Prop} {c : Value} {K : Fr → World → Prop} {dst : Nat} {op : Op} {ty : TypeId} {pos : String} {aft : Array Edge} {g : Option (Nat × Bool)} (h : FinI os L ((dst, c) :: l) K W) : FinI (⟨some dst, op, ty, pos, aft, g⟩ :: os) (AwS lo X (isV c) :: L) l K W := fun v hv => by
 have : v = c := hv.here
 subst this; exact h
theorem fin_0 {os : List Oper} {L : List Asr} {l : Fr} {W : World} {p : Asr} {K : Fr → World → Prop} {op : Op} {ty : TypeId} {pos : String} {aft : Array Edge} {g : Option (Nat × Bool)} (h : FinI os L l K W) : FinI (⟨none, op, ty, pos, aft, g⟩ :: os) (p :: L) l K W := fun _ _ => h
section
variable {w0 W : World} {O : Own} {G : Grows} {K : List (Nat × World)}
theorem St.castO {O' : Own} (h : St w0 O G K W) (e : O = O') : St w0 O' G K W := e ▸ h
theorem St.castG {G' : Grows} (h : St w0 O G K W) (e : G = G') : St w0 O G' K W := e ▸ h
def Held (w0 : World) (Kk : List (Nat × World)) (p : World → Prop) : Prop := ∀ {O2 : Own} {G2 : Grows} {K2 : List (Nat × World)} {W2 : World}, St w0 O2 G2 K2 W2 → (∀ q ∈ Kk, q ∈ K2) → p W2
theorem Held.now {p : World → Prop} (h : Held w0 K p) (hS : St w0 O G K W) : p W := h hS (fun q hq => hq)
theorem Held.more {p : World → Prop} {Kk Kl : List (Nat × World)} (h : Held w0 Kk p) (k : ∀ q ∈ Kk, q ∈ Kl) : Held w0 Kl p := fun h2 hk => h h2 (fun q hq => hk q (k q hq))
end
section
variable {P : Program} {n : Nat} {ops : Array Oper} {Q : Exit → Act → World → Prop} {l : Fr} {w0 W : World} {O : Own} {G : Grows} {K : List (Nat × World)} {os : List Oper} {d : Nat} {ty : TypeId} {pos : String} {aft : Array Edge}
theorem op_callX {f : FuncId} {args : Array Operand} {ts : Array TypeId} {vs : List Value} {R : Ending → World → Prop} (hgo : goesIn P f = true) (ha : args.toList.map (evL l) = vs.map some) (hc : Calls P f vs.toArray W R)
  (hd : Nat.blt d n = true)
  (h : ∀ e W', R e W' → ∃ v, e = .returned v ∧ OpsF P n ops Q os ((d, v) :: l) W') : OpsF P n ops Q (⟨some d, .call { callee := .value (.func f), args := args, argTypes := ts }, ty, pos, aft, none⟩ :: os) l W := fun a hl => by
 refine wpList_plain rfl fun K' hK => ?_
 unfold Oper.wp
 rw [run_call P a.eval W f args ts _ rfl rfl hgo, Oper.upon_enter]
 have hargs : args.map a.eval = vs.toArray := by
  have key : ∀ (xs : List Operand) (us : List Value), xs.map (evL l) = us.map some → xs.map a.eval = us := by
   intro xs
   induction xs with
   | nil => intro us h; cases us <;> simp at h ⊢
   | cons x xs ih =>
    intro us h
    cases us with
    | nil => simp at h
    | cons u us =>
     simp only [List.map_cons, List.cons.injEq] at h
     simp only [List.map_cons, hl.ev x u h.1, ih us h.2]
  apply Array.ext'
  rw [Array.toList_map, key _ _ ha]
 rw [hargs]
 refine hc.mono ?_
 intro e W' hRe
 obtain ⟨v, rfl, hn⟩ := h e W' hRe
 exact hK _ _ (hn _ (hl.put hd))
end
end Go.Proofs.Ytpkcaabbcoiiiaa
namespace Go.Proofs.Ytpkcaabbcoiiiaa
open Go Go.RowKit
section
variable {P : Program} {n : Nat} {Q : Exit → Act → World → Prop} {l : Fr} {w0 W : World} {ops : Array Oper} {os : List Oper} {K : List (Nat × World)} {L : List Asr} {i : Nat}
variable {O : Own} {Gs : List Value → Grows} {efs : List Nat} {lo : Nat} {s : List Value}
variable {d : Nat} {op : Op} {ty : TypeId} {pos : String} {aft_ : Array Edge} {v : Value} {gd : Option (Nat × Bool)}
variable {Goal : List Asr → Prop}
theorem hg0 {Gs : List Value → Grows} {gi : Nat} {g : GR} (h : (Gs [])[gi]? = some g) : ∀ s, s.length = 0 → (Gs s)[gi]? = some g := fun s hs => by rw [List.eq_nil_of_length_eq_zero hs]; exact h
theorem hg1 {Gs : List Value → Grows} {gi : Nat} {g : GR} (h : ∀ a, (Gs [a])[gi]? = some g) : ∀ s, s.length = 1 → (Gs s)[gi]? = some g := fun s hs => by obtain ⟨a, rfl⟩ := List.length_eq_one_iff.1 hs; exact h a
end
end Go.Proofs.Ytpkcaabbcoiiiaa
namespace Go.Proofs.Ytpkcaabbcoiiiaa
open Go Go.RowKit
section
variable {P : Program} {ops : Array Oper} {Q : Exit → Act → World → Prop} {σ : Type}
end
abbrev Sy := Nat → Option Value
structure AB where
 a : Nat
 T : TypeId
 zs : List Value
 st : Nat
section
variable {P : Program} {n : Nat} {Q : Exit → Act → World → Prop} {l : Fr} {w0 W : World} {ops opf : Array Oper} {os : List Oper} {K : List (Nat × World)} {L : List Asr} {i : Nat}
variable {Ob : Own} {al : List AB} {G : Sy → Grows} {E : List Nat} {lo : Nat} {s : Sy}
structure Kn (ops : Array Oper) (E : List Nat) (i : Nat) (s : Sy) : Prop where
 yes : ∀ e, E.contains e = true → (earlyL ops i).contains e = true → ∃ v, s e = some v
 no : ∀ e, (earlyL ops e).contains i = true → s e = none
 out : ∀ e, E.contains e = false → s e = none
 self : s i = none
variable {d : Nat} {op : Op} {ty : TypeId} {pos : String} {aft_ : Array Edge} {v : Value} {gd : Option (Nat × Bool)}
variable {Goal : List Asr → Prop}
end
end Go.Proofs.Ytpkcaabbcoiiiaa
namespace Go.Proofs.Ytpkcaabbcoiiiaa
open Go Go.RowKit
section
variable {P : Program} {n : Nat} {ops : Array Oper} {Q : Exit → Act → World → Prop} {l : Fr} {w0 W : World} {os : List Oper} {d : Nat} {ty : TypeId} {pos : String} {aft : Array Edge}
theorem rn_nilCheck {x : Operand} {p : Addr} (hx : evL l x = some (.pointer (some p))) : Runs P l ⟨some d, .nilCheck x, ty, pos, aft, none⟩ W (.pointer (some p)) W := fun ev he => by
 unfold execOp; simp only []; rw [he x _ hx]; rfl
theorem op_nilCheck {x : Operand} {p : Addr} (hx : evL l x = some (.pointer (some p))) (hd : Nat.blt d n = true) (h : OpsF P n ops Q os ((d, .pointer (some p)) :: l) W) : OpsF P n ops Q (⟨some d, .nilCheck x, ty, pos, aft, none⟩ :: os) l W := opV (rn_nilCheck hx) hd h
end
section
variable {P : Program} {n : Nat} {Q : Exit → Act → World → Prop} {l : Fr} {W : World} {ops : Array Oper} {os : List Oper} {d : Nat} {ty : TypeId} {pos : String} {aft : Array Edge} {x y : Operand} {k : IntKind} {a b : Int} {ts : Array TypeId}
end
def DepsH : List (Nat × Nat × Asr) → (Operand → Value) → World → Prop
 | [], _, _ => True
 | x :: xs, ev, w => x.2.2 (ev (.tmp x.2.1)) w ∧ DepsH xs ev w
def DepsL (ops : Array Oper) (L : List Asr) (i : Nat) : List (Nat × Nat × Asr) → Prop
 | [] => True
 | x :: xs => (waitsFor ops i x.1 x.2.1 = true ∧ atI L x.1 = x.2.2) ∧ DepsL ops L i xs
section
variable {P : Program} {ops opf : Array Oper} {Q : Exit → Act → World → Prop} {n : Nat} {l : Fr} {w0 W : World} {K : List (Nat × World)} {lo : Nat} {al : List AB} {Ob : Own} {G : Sy → Grows} {E : List Nat} {L : List Asr} {i : Nat}
variable {d : Nat} {op : Op} {ty : TypeId} {pos : String} {aft_ : Array Edge}
end
end Go.Proofs.Ytpkcaabbcoiiiaa
namespace Go.Proofs.Ytpkcaabbcoiiiaa
open Go Go.RowKit
theorem St.headSl {w0 W : World} {O : Own} {G : Grows} {K : List (Nat × World)} {v : Value} {n size : Nat} {xs : List Value} {e : TypeId} (h : St w0 O (⟨v, n, xs, e, size⟩ :: G) K W) : ∃ a c, v = .slice a n c := by
 obtain ⟨a, c, e9, _⟩ := ownsRow_sl (h.row 0 rfl)
 exact ⟨a, c, e9⟩
section
variable {w0 W : World} {O : Own} {G : Grows} {K : List (Nat × World)}
theorem ownsRow_blk {w : World} {base n b k : Nat} {e : TypeId} {size : Nat} {c : Nat} {xs : List Value} {x : Value} (h : w.ownsRow base e size (.slice (some ⟨b, 0, none⟩) n c) n xs) (hk : xs[k]? = some x) : w.cell? ⟨b, k, none⟩ = some x := by
 rcases ownsRow_cells h with ⟨h1, _⟩ | ⟨b2, h1, _, h3⟩
 ·cases h1
 ·cases h1; exact h3 k x hk
variable {P : Program} {n : Nat} {ops : Array Oper} {Q : Exit → Act → World → Prop} {l : Fr} {os : List Oper} {d : Nat} {ty : TypeId} {pos : String} {aft : Array Edge}
theorem St.oneV (h : St w0 O G K W) (i : Nat) (g : GR) (hi : G[i]? = some g) : g.v.oneCell' = true := by
 rcases (h.rows g (List.mem_of_getElem? hi)).1.2 with ⟨h1, _⟩ | ⟨_, _, _, h1, _⟩ <;> rw [h1] <;> rfl
end
section
variable {P : Program} {ops opf : Array Oper} {Q : Exit → Act → World → Prop} {n : Nat} {l : Fr} {w0 W : World} {K : List (Nat × World)} {lo : Nat} {al : List AB} {Ob : Own} {G : Sy → Grows} {E : List Nat} {L : List Asr} {i : Nat}
variable {d : Nat} {op : Op} {ty : TypeId} {pos : String} {aft_ : Array Edge}
end
end Go.Proofs.Ytpkcaabbcoiiiaa
namespace Go.Proofs.Ytpkcaabbcoiiiaa
open Go Go.RowKit
abbrev ringV (sf : SF) (f0 : WF) : Value := .agg #[.int .i64 sf.tag, .int .i64 sf.dim, .slice sf.a sf.len sf.cap, .bool f0.z, .int .i64 f0.c, .int .u64 (f0.g : Int), .slice f0.ra f0.rl f0.rc, .slice f0.ca f0.cl f0.cc, .slice f0.pa f0.pl f0.pc]
theorem ringOf_is (S : PS) (sf : SF) (w : World) (hs : SIs w S sf) (hok : S.ok) :
  Calls Try.prog 31 #[sf.val] w (fun e w' => ∃ f0 : WF, e = .returned (ringV sf f0) ∧ XNew w.heap.size w' S f0 (zeroX S) ∧ Below w.heap.size w w') := by
 refine enterF (args := [sf.val]) Try.func31 rfl Try.ntmps31 rfl ?_
 have hS := St.start w
 refine seqF (regF ?_)
 refine op_box (cs := [_, _, _]) hS rfl rfl rfl ?_
 clear hS; intro B1 W1 hS
 refine op_alloc (cs := [_, _, _, _, _, _, _, _, _]) hS Try.zeroValue84 rfl rfl ?_
 clear hS; intro B2 W2 hS
 refine endF (XF.thenN ?_)
 refine seqF (regF ?_)
 refine op_loadA (vs := [_, _, _]) Try.isAgg25 Try.sizeOf25 rfl (CellsAt.own (j := 0) (m := 3) (hS.at_ 1 rfl) rfl) rfl ?_
 have hsz := hS.below.size
 refine op_call (vs := [_]) hS goes_59 rfl (ZeroW_ok S sf _ (hs.below hS.below) hok) rfl ?_
 rintro e W3 ⟨f0, rfl, hn, hb⟩
 refine ⟨_, rfl, hb, fun hS' => ?_⟩
 clear hS; have hS := hS'; clear hS'
 refine op_move rfl rfl ?_
 refine op_extract rfl rfl rfl ?_
 refine op_extract rfl rfl rfl ?_
 refine op_alloc (cs := [_, _, _, _, _, _]) hS Try.zeroValue45 rfl rfl ?_
 clear hS; intro B4 W4 hS
 refine op_storeA (i := 0) (vs := [_, _, _, _, _, _]) (cs' := [_, _, _, _, _, _]) (O' := [_, _, _]) hS Try.sizeOf45 rfl rfl rfl rfl rfl rfl rfl ?_
 clear hS; intro W5 hS
 refine op_assign rfl rfl ?_
 refine endF (XF.thenN ?_)
 refine seqF (regF ?_)
 refine op_loadA (vs := [_, _, _]) Try.isAgg25 Try.sizeOf25 rfl (CellsAt.own (j := 0) (m := 3) (hS.at_ 2 rfl) rfl) rfl ?_
 refine op_loadA (vs := [_, _, _, _, _, _]) Try.isAgg45 Try.sizeOf45 rfl (CellsAt.own (j := 0) (m := 6) (hS.at_ 0 rfl) rfl) rfl ?_
 refine op_build (us := [(0, .agg (List.toArray [_, _, _])), (1, .agg (List.toArray [_, _, _, _, _, _]))]) rfl (bld_84_0_1 _ _ _ _ _ _ _ _ _) rfl ?_
 refine op_storeA (i := 1) (vs := [_, _, _, _, _, _, _, _, _]) (cs' := [_, _, _, _, _, _, _, _, _]) (O' := [_, _, _]) hS Try.sizeOf84 rfl rfl rfl rfl rfl rfl rfl ?_
 clear hS; intro W6 hS
 refine endF (XF.thenN ?_)
 refine retF ?_
 refine XF.res (resC1 (vs := [_, _, _, _, _, _, _, _, _]) Try.results31 Try.isAgg84 Try.sizeOf84 rfl (CellsAt.own (j := 0) (m := 9) (hS.at_ 1 rfl) rfl)) ?_
 exact ⟨f0, rfl, (hn.agree (hS.since 0 rfl)).mono hsz, hS.below⟩
theorem ringOne_is (S : PS) (sf : SF) (f0 : WF) (w : World) (hs : SIs w S sf) (hok : S.ok) :
  Calls Try.prog 63 #[ringV sf f0] w (WRet S (oneX S) w) := by
 refine enterF (args := [ringV sf f0]) Try.func63 rfl Try.ntmps63 rfl ?_
 have hS := St.start w
 refine seqF (regF ?_)
 refine op_box (cs := [_, _, _, _, _, _, _, _, _]) hS rfl rfl rfl ?_
 clear hS; intro B1 W1 hS
 refine op_alloc (cs := [_, _, _, _, _, _]) hS Try.zeroValue45 rfl rfl ?_
 clear hS; intro B2 W2 hS
 refine endF (XF.thenN ?_)
 refine seqF (regF ?_)
 refine op_field (o' := 0) fa_84_0 rfl rfl rfl ?_
 refine op_loadA (vs := [_, _, _]) Try.isAgg25 Try.sizeOf25 rfl (CellsAt.own (j := 0) (m := 3) (hS.at_ 1 rfl) rfl) rfl ?_
 have hsz := hS.below.size
 refine op_call (vs := [_]) hS goes_87 rfl (OneW_ok S sf _ (hs.below hS.below) hok) rfl ?_
 rintro e W3 ⟨f, rfl, hn, hb⟩
 refine ⟨_, rfl, hb, fun hS' => ?_⟩
 clear hS; have hS := hS'; clear hS'
 refine op_move rfl rfl ?_
 refine op_extract rfl rfl rfl ?_
 refine op_extract rfl rfl rfl ?_
 refine op_alloc (cs := [_, _, _, _, _, _]) hS Try.zeroValue45 rfl rfl ?_
 clear hS; intro B4 W4 hS
 refine op_storeA (i := 0) (vs := [_, _, _, _, _, _]) (cs' := [_, _, _, _, _, _]) (O' := [_, _, _]) hS Try.sizeOf45 rfl rfl rfl rfl rfl rfl rfl ?_
 clear hS; intro W5 hS
 refine op_assign rfl rfl ?_
 refine endF (XF.thenN ?_)
 refine seqF (regF ?_)
 refine op_loadA (vs := [_, _, _, _, _, _]) Try.isAgg45 Try.sizeOf45 rfl (CellsAt.own (j := 0) (m := 6) (hS.at_ 0 rfl) rfl) rfl ?_
 refine op_storeA (i := 1) (vs := [_, _, _, _, _, _]) (cs' := [_, _, _, _, _, _]) (O' := [_, _, _]) hS Try.sizeOf45 rfl rfl rfl rfl rfl rfl rfl ?_
 clear hS; intro W6 hS
 refine endF (XF.thenN ?_)
 refine retF ?_
 refine XF.res (resC1 (vs := [_, _, _, _, _, _]) Try.results63 Try.isAgg45 Try.sizeOf45 rfl (CellsAt.own (j := 0) (m := 6) (hS.at_ 1 rfl) rfl)) ?_
 exact ⟨f, rfl, (hn.agree (hS.since 0 rfl)).mono hsz, hS.below⟩
end Go.Proofs.Ytpkcaabbcoiiiaa
namespace Go.Proofs.Ytpkcaabbcoiiiaa
open Go Go.RowKit
abbrev StT := Int × List Int × PX
section
variable {S : PS} {px : RV → PX} {rs : List RV} {i : Int} {l : List Int} {k : Nat} {st st' : StT} {c : Int}
end
end Go.Proofs.Ytpkcaabbcoiiiaa
namespace Go.Proofs.Ytpkcaabbcoiiiaa
open Go Go.RowKit
structure Ready (w : World) (S : PS) (px : RV → PX) (p : PV) (c : CV) : Prop where
 chk : stepE p c = 0
 ok : S.ok
 si : SIs w S p.s.f
 w4 : ∀ r ∈ p.rs, r.wl ≤ 4096
 c4 : c.wl ≤ 4096
 x : ∀ r ∈ p.rs, XIs w S r.x.f (px r)
section
variable {w : World} {ds d : Nat} {S : PS} {px : RV → PX} {p : PV} {c : CV} {la : Option Addr} {ll lc : Nat} {is : List Int} {R : Option StT × Int × Int}
end
end Go.Proofs.Ytpkcaabbcoiiiaa
namespace Go.Proofs.Ytpkcaabbcoiiiaa
open Go Go.RowKit
structure PdsOk (w : World) (S : PS) (px : RV → PX) (p : PV) : Prop where
 chk : pdsE p = 0
 ok : S.ok
 si : SIs w S p.s.f
 x : ∀ r ∈ p.rs, XIs w S r.x.f (px r)
 rl : p.rl ≤ 16384
 w4 : ∀ r ∈ p.rs, r.wl ≤ 4096
 st : 0 ≤ p.st ∧ p.st ≤ 4096
 sy : 0 ≤ p.sy ∧ p.sy ≤ 4096
 rule : ∀ r ∈ p.rs, ruleB p.st p.sy r = true
theorem pdsOk_of {w : World} {ds d : Nat} {p : PV} (hp : PvIn w ds d p) (h : pdsE p = 0) : ∃ S px, PdsOk w S px p := by
 have h2 : spaceE p.s = 0 ∧ p.rl ≤ 16384 ∧ (0 ≤ p.st ∧ p.st ≤ 4096) ∧ (0 ≤ p.sy ∧ p.sy ≤ 4096) ∧ p.rs.all (ruleB p.st p.sy) = true ∧ wtE p.s p.rs = 0 := by
  have hd := h
  unfold pdsE at hd
  split at hd
  ·rename_i hn; exact absurd hd hn
  ·rename_i hn
   split at hd
   ·cases hd
   ·rename_i hr
    split at hd
    ·cases hd
    ·rename_i ho
     split at hd
     ·rename_i ha; exact ⟨Decidable.of_not_not hn, by omega, by omega, by omega, ha, hd⟩
     ·cases hd
 obtain ⟨hs, hrl, hst, hsy, hr, hw⟩ := h2
 obtain ⟨S, hok, hsi, hx⟩ := space_of hp.s hs
 have hall : ∀ r ∈ p.rs, chkW p.s r.x = 0 := by
  have key : ∀ rs : List RV, wtE p.s rs = 0 → ∀ r ∈ rs, chkW p.s r.x = 0 := by
   intro rs
   induction rs with
   | nil => intro _ r hr; cases hr
   | cons a rs ih =>
    intro hz r hr
    unfold wtE at hz
    split at hz
    ·rename_i h0
     rcases List.mem_cons.1 hr with rfl | hr
     ·exact h0
     ·exact ih hz r hr
    ·rename_i h0; exact absurd hz h0
  exact key _ hw
 have hex : ∀ r, ∃ x, r ∈ p.rs → XIs w S r.x.f x := fun r => by
  by_cases hm : r ∈ p.rs
  ·have h0 := hall r hm
   have hokw : okW p.s r.x = true := by
    unfold chkW at h0
    rw [if_pos hs] at h0
    split at h0
    ·assumption
    ·cases h0
   obtain ⟨x, hxx⟩ := hx r.x d (hp.rin r hm).x hokw
   exact ⟨x, fun _ => hxx⟩
  ·exact ⟨zeroX S, fun h => absurd h hm⟩
 refine ⟨S, fun r => Classical.choose (hex r), h, hok, hsi, fun r hm => Classical.choose_spec (hex r) hm, hrl, fun r hm => ?_, hst, hsy, fun r hm => List.all_eq_true.1 hr r hm⟩
 have := List.all_eq_true.1 hr r hm
 unfold ruleB at this
 simp only [Bool.and_eq_true, decide_eq_true_eq] at this
 exact this.2.2.2.1
end Go.Proofs.Ytpkcaabbcoiiiaa
namespace Go.Proofs.Ytpkcaabbcoiiiaa
open Go Go.RowKit
section
variable {P : Program} {n : Nat} {ops : Array Oper} {Q : Exit → Act → World → Prop} {l : Fr} {W : World} {os : List Oper}
theorem op_unF {dst : Nat} {op : Op} {ty : TypeId} {pos : String} {aft : Array Edge} {g d : Nat} {b : Bool} (hd : (ops[g]?).bind (·.dst) = some d) (hv : look l d = some undef) (hn : Nat.blt dst n = true)
  (h : OpsF P n ops Q os ((dst, undef) :: l) W) : OpsF P n ops Q (⟨some dst, op, ty, pos, aft, some (g, b)⟩ :: os) l W := fun a ha => by
 have h2 := ha.at_ d _ hv
 have hw : Region.wanted ⟨some dst, op, ty, pos, aft, some (g, b)⟩ (yielded ops a.tmps) = false := by
  cases hx : a.tmps[d]? with
  | none => simp [Region.wanted, yielded, hd, hx]
  | some x =>
   simp only [Act.eval, Array.getD_eq_getD_getElem?, hx] at h2
   simp at h2
   subst h2
   simp [Region.wanted, yielded, hd, hx, undef]
 unfold wpList
 rw [hw]
 exact h _ (ha.put hn)
end
end Go.Proofs.Ytpkcaabbcoiiiaa
namespace Go.Proofs.Ytpkcaabbcoiiiaa
open Go Go.RowKit
structure TV where
 f : Int
 g : Int
 t : Int
 x : WV
abbrev TV.nine (r : TV) : List Value := [.int .i64 r.f, .int .i64 r.g, .int .i64 r.t, .bool r.x.f.z, .int .i64 r.x.f.c, .int .u64 (r.x.f.g : Int), .slice r.x.f.ra r.x.f.rl r.x.f.rc, .slice r.x.f.ca r.x.f.cl r.x.f.cc, .slice r.x.f.pa r.x.f.pl r.x.f.pc]
def TRow (w : World) (a : Option Addr) (ts : List TV) : Prop :=
 ts = [] ∨ ∃ b off, a = some ⟨b, off, none⟩ ∧ ∀ (i : Nat) r, ts[i]? = some r → CellsAt w b (off + i * 9) r.nine
structure AV where
 s : SV
 st : Int
 sy : Int
 fa : Option Addr
 fl : Nat
 fc : Nat
 fs : List Int
 ta : Option Addr
 tl : Nat
 tc : Nat
 ts : List TV
abbrev AV.seven (a : AV) : List Value := [.int .i64 a.s.f.tag, .int .i64 a.s.f.dim, .slice a.s.f.a a.s.f.len a.s.f.cap, .int .i64 a.st, .int .i64 a.sy, .slice a.fa a.fl a.fc, .slice a.ta a.tl a.tc]
abbrev AV.val (a : AV) : Value := .agg #[.int .i64 a.s.f.tag, .int .i64 a.s.f.dim, .slice a.s.f.a a.s.f.len a.s.f.cap, .int .i64 a.st, .int .i64 a.sy, .slice a.fa a.fl a.fc, .slice a.ta a.tl a.tc]
structure AIn (w : World) (ds d : Nat) (a : AV) : Prop where
 s : SIn w ds a.s
 frow : Row w a.fa a.fs
 flen : a.fs.length = a.fl
 trow : TRow w a.ta a.ts
 tlen : a.ts.length = a.tl
 tin : ∀ t ∈ a.ts, WIn w d t.x
 fmax : a.fl ≤ 9223372036854775807
 tmax : a.tl ≤ 9223372036854775807
theorem TRow.at_ {w : World} {a : Option Addr} {rs : List TV} (h : TRow w a rs) {i : Nat} {r : TV} (hi : rs[i]? = some r) : ∃ b off, a = some ⟨b, off, none⟩ ∧ CellsAt w b (off + i * 9) r.nine := by
 rcases h with rfl | ⟨b, off, ha, hc⟩
 ·simp at hi
 ·exact ⟨b, off, ha, hc i r hi⟩
theorem TRow.below {w w' : World} {a : Option Addr} {rs : List TV} (h : TRow w a rs) (hb : Below w.heap.size w w') : TRow w' a rs := by
 rcases h with h | ⟨b, off, rfl, hc⟩
 ·exact .inl h
 ·exact .inr ⟨b, off, rfl, fun i r hi => CellsAt.agree (below_agree hb 0) (Nat.zero_le _) (hc i r hi)⟩
theorem AIn.below {w w' : World} {ds d : Nat} {a : AV} (h : AIn w ds d a) (hb : Below w.heap.size w w') : AIn w' ds d a := ⟨SIn.below hb h.s, h.frow.below hb, h.flen, h.trow.below hb, h.tlen, fun t ht => WIn.below hb (h.tin t ht), h.fmax, h.tmax⟩
def finOk (st : Int) (fs : List Int) (i : Nat) : Bool := inQ (fs.getD i 0) st && (decide (i = 0) || decide (fs.getD (i - 1) 0 < fs.getD i 0))
def finB (st : Int) (fs : List Int) : Bool := (List.range fs.length).all (finOk st fs)
theorem finB_of {st : Int} {fs : List Int} (h : ∀ j, j < fs.length → finOk st fs j = true) : finB st fs = true := List.all_eq_true.2 fun j hj => h j (List.mem_range.1 hj)
theorem finB_no {st : Int} {fs : List Int} {i : Nat} (hi : i < fs.length) (h : finOk st fs i = false) : finB st fs = false := by
 cases hb : finB st fs with
 | false => rfl
 | true =>
  have := List.all_eq_true.1 hb i (List.mem_range.2 hi)
  rw [h] at this; cases this
theorem getD_at {fs : List Int} {i : Nat} {y : Int} (h : fs[i]? = some y) : fs.getD i 0 = y := by
 rw [List.getD_eq_getElem?_getD, h]; rfl
theorem finOk_out {st : Int} {fs : List Int} {i : Nat} {y : Int} (h : fs[i]? = some y) (hq : inQ y st = false) : finOk st fs i = false := by
 unfold finOk; rw [getD_at h, hq]; rfl
theorem finOk_zero {st : Int} {fs : List Int} {i : Nat} {y : Int} (h : fs[i]? = some y) (hq : inQ y st = true) (hi : i = 0) : finOk st fs i = true := by
 unfold finOk; rw [getD_at h, hq, decide_eq_true hi]; rfl
theorem finOk_pos {st : Int} {fs : List Int} {i : Nat} {y z : Int} (h : fs[i]? = some y) (hz : fs[i - 1]? = some z) (hq : inQ y st = true) (hi : 0 < i) : finOk st fs i = decide (z < y) := by
 unfold finOk; rw [getD_at h, getD_at hz, hq, decide_eq_false (show ¬ i = 0 by omega)]; rfl
theorem fin_next {st : Int} {fs : List Int} {i : Nat} (h : ∀ j, j < i → finOk st fs j = true) (hi : finOk st fs i = true) : ∀ j, j < i + 1 → finOk st fs j = true := fun j hj => by
 rcases Nat.lt_or_ge j i with h1 | h1
 ·exact h j h1
 ·rw [show j = i by omega]; exact hi
def trB (st sy : Int) (t : TV) : Bool := inQ t.f st && (inQ t.t st && (decide (-1 ≤ t.g) && decide (t.g < sy)))
def ashapeB (st sy : Int) (fs : List Int) (ts : List TV) : Bool := if st < 0 ∨ 4096 < st ∨ sy < 0 ∨ 4096 < sy then false else finB st fs && ts.all (trB st sy)
def autoE (a : AV) : Int :=
 if spaceE a.s ≠ 0 then spaceE a.s else if 65536 < a.tl then 3 else if ashapeB a.st a.sy a.fs a.ts = false then 100 else if a.ts.all (fun t => decide (chkW a.s t.x = 0)) = true then 0 else 51
theorem chkW_51 {s : SV} {x : WV} (hs : spaceE s = 0) (h : chkW s x ≠ 0) : chkW s x = 51 := by
 unfold chkW at h ⊢
 rw [if_pos hs] at h ⊢
 split
 ·rename_i h2; rw [if_pos h2] at h; exact absurd rfl h
 ·rfl
def qtrB (st : Int) (t : TV) : Bool := decide (0 ≤ t.g) && decide (st ≤ t.t)
def queryE (p : PV) (a : AV) (r : Bool) : Int :=
 if pdsE p ≠ 0 then pdsE p else if autoE a ≠ 0 then autoE a else if r = false ∨ a.sy ≠ p.sy ∨ a.st < p.st then 140 else if a.ts.all (qtrB p.st) = true then 0 else 140
theorem sameSp9 {w : World} {S T : PS} {f g : SF} (h : SIs w S f) (h2 : SIs w T g) : ∃ s t : SV, s.f = f ∧ t.f = g ∧ SIn w 2 s ∧ SIn w 2 t ∧ smS 3 s = true ∧ (eqS 2 s t = true ↔ S = T) := by
 have one : ∀ {t n : Int} {f : SF}, SIs w (.one t n) f → ∃ (a : Option Addr) (c : Nat), f = ⟨t, n, a, 0, c⟩ ∧ SIn w 2 (.mk ⟨t, n, a, 0, c⟩ []) := by
  rintro t n f ⟨a, c, rfl⟩
  exact ⟨a, c, rfl, rfl, .inl rfl, by simp⟩
 have key : ∀ {t n u m : Int} {f : SF}, SIs w (.two t n u m) f → ∃ (b off c c1 c2 : Nat) (a1 a2 : Option Addr), f = ⟨5, 0, some ⟨b, off, none⟩, 2, c⟩ ∧ SIn w 2 (.mk ⟨5, 0, some ⟨b, off, none⟩, 2, c⟩ [.mk ⟨t, n, a1, 0, c1⟩ [], .mk ⟨u, m, a2, 0, c2⟩ []]) := by
  rintro t n u m f ⟨b, off, c, a1, c1, a2, c2, rfl, h1, h2⟩
  refine ⟨b, off, c, c1, c2, a1, a2, rfl, rfl, .inr ⟨b, off, rfl, fun i p hi => ?_⟩, ?_⟩
  ·match i, hi with
   | 0, hi => simp at hi; subst hi; simpa [SV.f] using h1
   | 1, hi => simp at hi; subst hi; simpa [SV.f] using h2
  ·intro p hp
   simp at hp
   rcases hp with rfl | rfl <;> exact ⟨rfl, .inl rfl, by simp⟩
 cases S with
 | one t n =>
  obtain ⟨a, c, rfl, k1⟩ := one h
  cases T with
  | one t2 n2 =>
   obtain ⟨a', c', rfl, k2⟩ := one h2
   exact ⟨_, _, rfl, rfl, k1, k2, by simp [smS, SV.f], by simp [eqS]⟩
  | two t2 n2 u2 m2 =>
   obtain ⟨b', off', c', c1', c2', a1', a2', rfl, k2⟩ := key h2
   exact ⟨_, _, rfl, rfl, k1, k2, by simp [smS, SV.f], by simp [eqS]⟩
 | two t n u m =>
  obtain ⟨b, off, c, c1, c2, a1, a2, rfl, k1⟩ := key h
  cases T with
  | one t2 n2 =>
   obtain ⟨a', c', rfl, k2⟩ := one h2
   exact ⟨_, _, rfl, rfl, k1, k2, by simp [smS, SV.f], by simp [eqS]⟩
  | two t2 n2 u2 m2 =>
   obtain ⟨b', off', c', c1', c2', a1', a2', rfl, k2⟩ := key h2
   refine ⟨_, _, rfl, rfl, k1, k2, by simp [smS, SV.f], ?_⟩
   simp [eqS, and_assoc]
theorem sameSpR9 {w : World} {S T : PS} {f g : SF} (h : SIs w S f) (h2 : SIs w T g) (r : Bool) (hr : r = true ↔ S = T) : Calls Try.prog 43 #[f.val, g.val] w fun e w' => e = .returned (.bool r) ∧ Below w.heap.size w w' := by
 obtain ⟨s, t, rfl, rfl, k1, k2, k3, k4⟩ := sameSp9 h h2
 have h9 := sameSpaceR_is 2 3 s t w k1 k2 k3
 rw [show eqS 2 s t = r from Bool.eq_iff_iff.2 (k4.trans hr.symm)] at h9
 exact h9
theorem sameSpA9 {w : World} {S T : PS} {f g : SF} (h : SIs w S f) (h2 : SIs w T g) (r : Bool) (hr : r = true ↔ S = T) : Calls Try.prog 40 #[f.val, g.val] w fun e w' => e = .returned (.bool r) ∧ Below w.heap.size w w' := by
 obtain ⟨s, t, rfl, rfl, k1, k2, k3, k4⟩ := sameSp9 h h2
 have h9 := sameSpaceA_is 2 3 s t w k1 k2 k3
 rw [show eqS 2 s t = r from Bool.eq_iff_iff.2 (k4.trans hr.symm)] at h9
 exact h9
end Go.Proofs.Ytpkcaabbcoiiiaa
namespace Go.Proofs.Ytpkcaabbcoiiiaa
open Go Go.RowKit
theorem bs_23_1 (v00 : Value) (v01 : Value) (v02 : Value) : Instr.fill (fun i => some (i * 3, 3)) ((Array.range (1 * 3)).map ((Value.cells (.agg #[.int .i64 0, .int .i64 0, .slice none 0 0]))[· % (Value.cells (.agg #[.int .i64 0, .int .i64 0, .slice none 0 0])).size]!)) [(0, .agg #[v00, v01, v02])] = some (List.toArray [v00, v01, v02]) := by kernel_rfl
theorem goes_32 : goesIn Try.prog 32 = true := by kernel_rfl
theorem inf_25 : Try.prog.info? 25 = some Try.t25 := by kernel_rfl
abbrev bare3 (q : SF) : List Value := [.int .i64 q.tag, .int .i64 q.dim, .slice none 0 0]
theorem copySpace1 (t n : Int) (a : Option Addr) (c : Nat) (w : World) :
  Calls Try.prog 32 #[.agg #[.int .i64 t, .int .i64 n, .slice a 0 c]] w (fun e w' => e = .returned (.agg #[.int .i64 t, .int .i64 n, .slice none 0 0]) ∧ Below w.heap.size w w') := by
 refine enterF (args := [.agg #[.int .i64 t, .int .i64 n, .slice a 0 c]]) Try.func32 rfl Try.ntmps32 rfl ?_
 have hS := St.start w
 refine seqF (regF ?_)
 refine op_box (cs := [_, _, _]) hS rfl rfl rfl ?_
 clear hS; intro B1 W1 hS
 refine op_alloc (cs := [_, _, _]) hS Try.zeroValue25 rfl rfl ?_
 clear hS; intro B2 W2 hS
 refine endF (XF.thenN ?_)
 refine seqF (regF ?_)
 refine op_assign rfl rfl ?_
 refine endF (XF.thenN ?_)
 refine seqF ?_
 refine seqF (regF ?_)
 refine op_field (o' := 2) fa_25_2 rfl rfl rfl ?_
 refine op_load Try.isAgg23 rfl (cell_own (hS.at_ 1 rfl) rfl) rfl ?_
 refine op_len Try.underlying23 rfl rfl ?_
 refine op_move rfl rfl ?_
 refine endF (XF.thenN ?_)
 refine blockF ?_
 refine loopF (fun m l W => l = [(1, .pointer (some ⟨B1, 0, none⟩)), (2, .pointer (some ⟨B2, 0, none⟩)), (3, .slice none 0 0), (8, .int .i64 0), (9, .int .i64 0)] ∧ St w [(B2, [.int .i64 0, .int .i64 0, .slice none 0 0], 25), (B1, [.int .i64 t, .int .i64 n, .slice a 0 c], 25)] [] [] W) (0) ([(1, _), (2, _), (3, _), (8, _), (9, _)]) ⟨rfl, rfl, rfl, rfl, rfl, trivial⟩ (⟨rfl, hS.clear⟩) ?_
 clear hS
 rintro m l W ⟨rfl, hS⟩
 refine seqF (regF ?_)
 refine op_lss rfl rfl rfl ?_
 refine endF (XF.thenN ?_)
 refine seqF ?_
 refine condF rfl (fun hc => absurd (of_decide_eq_true hc) (by decide)) (fun hc => ?_)
 have hc := of_decide_eq_false hc
 refine exitF ?_
 refine XF.thenX ?_
 refine XF.thenX ?_
 refine XF.blkX ?_
 refine XF.thenN ?_
 refine seqF (regF ?_)
 refine op_move rfl rfl ?_
 refine op_field (o' := 2) fa_25_2 rfl rfl rfl ?_
 refine op_store (i := 1) (cs' := [_, _, _]) (O' := [_, _]) hS Try.sizeOf23 rfl rfl rfl rfl rfl rfl rfl ?_
 clear hS; intro W3 hS
 refine endF (XF.thenN ?_)
 refine seqF (regF ?_)
 refine op_loadA (vs := [_, _, _]) Try.isAgg25 Try.sizeOf25 rfl (CellsAt.own (j := 0) (m := 3) (hS.at_ 1 rfl) rfl) rfl ?_
 refine op_storeA (i := 0) (vs := [_, _, _]) (cs' := [_, _, _]) (O' := [_, _]) hS Try.sizeOf25 rfl rfl rfl rfl rfl rfl rfl ?_
 clear hS; intro W4 hS
 refine endF (XF.thenN ?_)
 refine retF ?_
 refine XF.res (resC1 (vs := [_, _, _]) Try.results32 Try.isAgg25 Try.sizeOf25 rfl (CellsAt.own (j := 0) (m := 3) (hS.at_ 0 rfl) rfl)) ?_
 exact ⟨rfl, hS.below⟩
theorem copySpace2 (tag dim : Int) (sa : Option Addr) (slen scap : Nat) (fs : List SF) (w : World) (hrow : ∀ (i : Nat) q, fs[i]? = some q → ∃ b off, sa = some ⟨b, off, none⟩ ∧ S3 w b (off + i * 3) q) (hlen : fs.length = slen) (h0 : ∀ q ∈ fs, q.len = 0) (hm : slen ≤ 2) :
  Calls Try.prog 32 #[.agg #[.int .i64 tag, .int .i64 dim, .slice sa slen scap]] w (fun e w' => ∃ v, e = .returned (.agg #[.int .i64 tag, .int .i64 dim, v]) ∧ w'.ownsRow w.heap.size 25 3 v slen (fs.flatMap bare3) ∧ Below w.heap.size w w') := by
 refine enterF (args := [.agg #[.int .i64 tag, .int .i64 dim, .slice sa slen scap]]) Try.func32 rfl Try.ntmps32 rfl ?_
 have hS := St.start w
 refine seqF (regF ?_)
 refine op_box (cs := [_, _, _]) hS rfl rfl rfl ?_
 clear hS; intro B1 W1 hS
 refine op_alloc (cs := [_, _, _]) hS Try.zeroValue25 rfl rfl ?_
 clear hS; intro B2 W2 hS
 refine endF (XF.thenN ?_)
 refine seqF (regF ?_)
 refine op_assign rfl rfl ?_
 refine endF (XF.thenN ?_)
 refine seqF ?_
 refine seqF ?_
 have hS := hS.newG 25 3
 refine regF ?_
 refine op_field (o' := 2) fa_25_2 rfl rfl rfl ?_
 refine op_load Try.isAgg23 rfl (cell_own (hS.at_ 1 rfl) rfl) rfl ?_
 refine op_len Try.underlying23 rfl rfl ?_
 refine op_move rfl rfl ?_
 refine endF (XF.thenN ?_)
 refine blockF ?_
 refine loopF (fun m l W => ∃ (i : Nat) (v : Value), i ≤ slen ∧ m = slen - i ∧ l = [(1, .pointer (some ⟨B1, 0, none⟩)), (2, .pointer (some ⟨B2, 0, none⟩)), (3, v), (7, .slice sa slen scap), (8, .int .i64 (slen : Int)), (9, .int .i64 (i : Int))] ∧ St w [(B2, [.int .i64 0, .int .i64 0, .slice none 0 0], 25), (B1, [.int .i64 tag, .int .i64 dim, .slice sa slen scap], 25)] [⟨v, i, (fs.take i).flatMap bare3, 25, 3⟩] [] W) (slen - 0) ([(1, _), (2, _), (3, _), (7, _), (8, _), (9, _)]) ⟨rfl, rfl, rfl, rfl, rfl, rfl, trivial⟩ (⟨0, _, Nat.zero_le _, rfl, rfl, hS.clear⟩) ?_
 clear hS
 rintro m l W ⟨i, v, hi, rfl, rfl, hS⟩
 refine seqF (regF ?_)
 refine op_lss rfl rfl rfl ?_
 refine endF (XF.thenN ?_)
 refine seqF ?_
 refine condF rfl (fun hc => ?_) (fun hc => ?_)
 ·have hc10 := of_decide_eq_true hc; clear hc
  have hk : i < slen := by omega
  obtain ⟨q, hq⟩ : ∃ q, fs[i]? = some q := ⟨fs[i]'(by omega), by simp [show i < fs.length by omega]⟩
  obtain ⟨b, off, rfl, hs3⟩ := hrow i q hq
  obtain ⟨t9, d9, a9, l9, c9⟩ := q
  obtain rfl : l9 = 0 := h0 _ (List.mem_of_getElem? hq)
  have k1 : CellsAt W b (off + i * 3) [.int .i64 t9, .int .i64 d9, .slice a9 0 c9] := CellsAt.agree hS.agree (Nat.zero_le _) hs3.cells
  refine skipF ?_
  refine XF.thenN ?_
  refine seqF ?_
  refine blockF ?_
  refine seqF (regF ?_)
  refine op_indexA  Try.underlying23 Try.sizeOf25 rfl rfl rfl (by omega) rfl rfl ?_
  refine op_loadA (vs := [_, _, _]) Try.isAgg25 Try.sizeOf25 rfl (k1) rfl ?_
  refine op_alloc (cs := [_, _, _]) hS Try.zeroValue25 rfl rfl ?_
  clear hS; intro B3 W3 hS
  refine op_storeA (i := 0) (vs := [_, _, _]) (cs' := [_, _, _]) (O' := [_, _, _]) hS Try.sizeOf25 rfl rfl rfl rfl rfl rfl rfl ?_
  clear hS; intro W4 hS
  refine endF (XF.thenN ?_)
  refine regF ?_
  refine op_move rfl rfl ?_
  refine op_loadA (vs := [_, _, _]) Try.isAgg25 Try.sizeOf25 rfl (CellsAt.own (j := 0) (m := 3) (hS.at_ 0 rfl) rfl) rfl ?_
  refine op_call (vs := [_]) hS goes_32 rfl (copySpace1 t9 d9 a9 c9 _) rfl ?_
  rintro e W5 ⟨rfl, hb⟩
  refine ⟨_, rfl, hb, fun hS' => ?_⟩
  clear hS; have hS := hS'; clear hS' hb
  refine op_buildSlice (us := [(0, .agg (List.toArray [_, _, _]))]) hS Try.underlying23 Try.sizeOf25 Try.zeroValue25 rfl rfl rfl (bs_23_1 _ _ _) rfl ?_
  clear hS; intro B6 W6 hS
  refine op_append (i := 0) (news := [_, _, _]) hS Try.underlying23 inf_25 rfl rfl (by show 0 < 3; decide) rfl rfl rfl rfl rfl (CellsAt.own (j := 0) (m := 3) (hS.at_ 0 rfl) rfl) rfl rfl (by dsimp only; simp only [maxLen]; omega) (by dsimp only; show _ * 40 ≤ _; omega) rfl ?_
  clear hS; intro v7 W7 hS
  refine op_assign rfl rfl ?_
  refine endF ?_
  refine XF.blkN ?_
  refine XF.thenN ?_
  refine regF ?_
  refine op_add rfl rfl (IntWalk.i64_in _ (by omega)) rfl ?_
  refine op_move rfl rfl ?_
  refine endF ?_
  exact XF.round (slen - (i + 1)) [(1, _), (2, _), (3, _), (7, _), (8, _), (9, _)] (by omega) ⟨rfl, rfl, rfl, rfl, rfl, rfl, trivial⟩ ⟨i + 1, _, by omega, rfl, rfl, hS.tail.tail.clear.castG (by simp [List.take_add_one, hq, bare3])⟩
 ·have hc10 := of_decide_eq_false hc; clear hc
  have hil : i = slen := by omega
  rw [List.take_of_length_le (by omega), hil] at hS
  obtain ⟨a9, c9, rfl⟩ := hS.headSl
  refine exitF ?_
  refine XF.thenX ?_
  refine XF.thenX ?_
  refine XF.blkX ?_
  refine XF.thenN ?_
  refine seqF (regF ?_)
  refine op_move rfl rfl ?_
  refine op_field (o' := 2) fa_25_2 rfl rfl rfl ?_
  refine op_store (i := 1) (cs' := [_, _, _]) (O' := [_, _]) hS Try.sizeOf23 rfl rfl rfl rfl rfl rfl rfl ?_
  clear hS; intro W8 hS
  refine endF (XF.thenN ?_)
  refine seqF (regF ?_)
  refine op_loadA (vs := [_, _, _]) Try.isAgg25 Try.sizeOf25 rfl (CellsAt.own (j := 0) (m := 3) (hS.at_ 1 rfl) rfl) rfl ?_
  refine op_storeA (i := 0) (vs := [_, _, _]) (cs' := [_, _, _]) (O' := [_, _]) hS Try.sizeOf25 rfl rfl rfl rfl rfl rfl rfl ?_
  clear hS; intro W9 hS
  refine endF (XF.thenN ?_)
  refine retF ?_
  refine XF.res (resC1 (vs := [_, _, _]) Try.results32 Try.isAgg25 Try.sizeOf25 rfl (CellsAt.own (j := 0) (m := 3) (hS.at_ 0 rfl) rfl)) ?_
  exact ⟨_, rfl, hS.row 0 rfl, hS.below⟩
end Go.Proofs.Ytpkcaabbcoiiiaa
namespace Go.Proofs.Ytpkcaabbcoiiiaa
open Go Go.RowKit
section
variable {P : Program} {n : Nat} {Q : Exit → Act → World → Prop} {l : Fr} {w0 W : World} {ops : Array Oper} {os : List Oper} {O : Own} {G : Grows} {K : List (Nat × World)} {L L2 : List Asr} {i : Nat} {ty : TypeId} {pos : String}
def lastC (ops : Array Oper) (k : Nat) : Bool := decide (k + 1 = ops.size) && (List.range k).all fun j => (earlyL ops k).contains j
theorem lastC_size {k : Nat} (h : lastC ops k = true) : k + 1 = ops.size := by
 unfold lastC at h
 exact of_decide_eq_true (Bool.and_eq_true_iff.1 h).1
theorem lastC_all {k : Nat} {o : Oper} {LB : Array Bool} (h : lastC ops k = true) (ho : ops[k]? = some o) (hdep : ∀ e ∈ o.after, Region.binds .any e = true → LB.getD e.on false = true) (hcl : ∀ j, LB.getD j false = true → ∀ x ∈ aft ops j, LB.getD x false = true) : ∀ j, j < k → LB.getD j false = true := fun j hj => by
 unfold lastC at h
 have h2 := List.all_eq_true.1 (Bool.and_eq_true_iff.1 h).2 j (List.mem_range.2 hj)
 refine early_done (D := fun x => LB.getD x false = true) (fun x hx => ?_) hcl j (List.contains_iff_mem.1 h2)
 obtain ⟨e, he, h5, h6⟩ := aft_mem ho hx
 have h7 := hdep e he h6
 rw [h5] at h7
 exact h7
theorem closed_step {o : Oper} {LB : Array Bool} (hi : i < LB.size) (ho : ops[i]? = some o) (hdep : ∀ e ∈ o.after, Region.binds .any e = true → LB.getD e.on false = true) (hcl : ∀ j, LB.getD j false = true → ∀ x ∈ aft ops j, LB.getD x false = true) : ∀ j, (LB.setIfInBounds i true).getD j false = true → ∀ x ∈ aft ops j, (LB.setIfInBounds i true).getD x false = true := fun j hj x hx => by
 have hx2 : LB.getD x false = true := by
  by_cases hji : j = i
  ·subst hji
   obtain ⟨e, he, h5, h6⟩ := aft_mem ho hx
   have h7 := hdep e he h6
   rw [h5] at h7
   exact h7
  ·rw [getD_set_ne false (Ne.symm hji)] at hj
   exact hcl j hj x hx
 by_cases hxi : x = i
 ·subst hxi
  rw [Array.getD_eq_getD_getElem?, Array.getElem?_setIfInBounds_self_of_lt hi]; rfl
 ·rw [getD_set_ne false (Ne.symm hxi)]; exact hx2
theorem region_lastSC {k : Nat} {dn : Nat → Bool} {t0 : Array Value} {d0 : List Deferred} {G : World → Prop} {I : Nat → Value → World → Prop} (hl : lastC ops k = true) (ht : tidyR ops t0.size = true) (hst : ∀ i v w w', G w → I i v w → Below w.heap.size w w' → I i v w')
  (hstep : ∀ i, i < k → dn i = false → RStep P ops Q t0 G I i) (hfin : RFin ops t0 d0 G I k (wpOp P ops Q k (Q .normal))) :
  ∀ (fuel : Nat) (L : Array Bool) (a : Act) (w : World), L.size = ops.size → L.getD k true = false → (∀ i, dn i = true → L.getD i false = true) → L.toList.count false ≤ fuel → (∀ j, L.getD j false = true → ∀ x ∈ aft ops j, L.getD x false = true) → RInv ops t0 d0 G I L a w → wpAny P .any ops Q fuel L a w := by
 have hk : k + 1 = ops.size := lastC_size hl
 have cnt : ∀ (L : Array Bool) i, L.getD i true = false → L.toList[i]? = some false := fun L i h1 => by
  rw [Array.getD_eq_getD_getElem?] at h1
  rw [Array.getElem?_toList]
  cases hL : L[i]? with
  | none => rw [hL] at h1; cases h1
  | some b => rw [hL] at h1; simpa using h1
 intro fuel
 induction fuel with
 | zero =>
  intro L a w hs hlk hlp hc hcl h
  have := cnt_set _ _ (cnt L k hlk)
  omega
 | succ fuel ih =>
  intro L a w hs hlk hlp hc hcl h
  refine ⟨fun hr => ?_, fun i hi => ?_⟩
  ·rw [ready_nil ht hs hr k (by omega)] at hlk
   cases hlk
  ·obtain ⟨h1, o, ho, hdep⟩ := mem_ready.1 hi
   have his : i < ops.size := (Array.getElem?_eq_some_iff.1 ho).1
   have hc1 := cnt_set _ _ (cnt L i h1)
   have hip : dn i = false := by
    cases hd : dn i with
    | false => rfl
    | true =>
     have h3 := hlp i hd
     have h2 := cnt L i h1
     rw [Array.getElem?_toList] at h2
     rw [Array.getD_eq_getD_getElem?, h2] at h3
     cases h3
   by_cases hik : i = k
   ·subst hik
    have hall : ∀ j, j < i → L.getD j false = true := lastC_all hl ho (fun e he hb => hdep e he hb) hcl
    refine wpOp_mono ?_ (hfin a w h.size h.defers h.frame h.glob fun j d hj hd => h.done j d hd (hall j hj))
    intro a' w' hq
    have hnil : Region.ready .any ops (L.setIfInBounds i true) = [] := by
     cases hr : Region.ready .any ops (L.setIfInBounds i true) with
     | nil => rfl
     | cons j rest =>
      have hj : j ∈ Region.ready .any ops (L.setIfInBounds i true) := by rw [hr]; exact List.mem_cons_self
      obtain ⟨h5, o', ho', _⟩ := mem_ready.1 hj
      have hjs : j < ops.size := (Array.getElem?_eq_some_iff.1 ho').1
      by_cases hji : j = i
      ·subst hji
       rw [Array.getD_eq_getD_getElem?, Array.getElem?_eq_getElem (by simpa using (by omega : j < L.size))] at h5
       simp at h5
      ·rw [getD_set_ne true (Ne.symm hji)] at h5
       have h6 := hall j (by omega)
       rw [Array.getD_eq_getD_getElem?] at h5 h6
       rw [Array.getElem?_eq_getElem (by omega)] at h5 h6
       simp at h5 h6
       rw [h5] at h6
       cases h6
    cases fuel with
    | zero => exact ⟨hnil, hq⟩
    | succ fuel => exact ⟨fun _ => hq, by rw [hnil]; simp⟩
   ·refine wpOp_mono ?_ (hstep i (by omega) hip a w h.frameE h.glob (h.deps hi))
    rintro a' w' ⟨⟨v, rfl, hI⟩, hG, hB⟩
    refine ih _ _ _ (by simpa using hs) (by rw [getD_set_ne true hik]; exact hlk) (fun j hj => ?_) ?_ (closed_step (by omega) ho (fun e he hb => hdep e he hb) hcl) (h.next ht h1 hst hI hG hB)
    ·have hij : i ≠ j := fun e => by subst e; rw [hip] at hj; cases hj
     rw [getD_set_ne false hij]; exact hlp j hj
    ·rw [Array.toList_setIfInBounds]
     omega
theorem region_appendC {k p dp : Nat} {t0 : Array Value} {d0 : List Deferred} {late : Nat → Bool} {o : Oper} {RA : World → Value → World → Prop} (hl : lastC ops k = true) (ht : tidyR ops t0.size = true) (hst : StabL L) (hst2 : StabL L2) (hpk : p < k) (hp : ops[p]? = some o) (hod : o.dst = some dp) (hog : o.guard = none)
  (hearly : ∀ j, j < k → j ≠ p → late j = false → j ∈ earlyL ops p)
  (hstep : ∀ i, i < k → i ≠ p → RStep P ops Q t0 (fun w => Below W.heap.size W w) (atI L) i)
  (happ : ∀ (a : Act) (w : World), (∀ t, freeT ops t = true → a.eval (.tmp t) = t0.getD t undef) → Below W.heap.size W w → (∀ j d, waitsFor ops p j d = true → atI L j (a.eval (.tmp d)) w) → ∃ v w', (execOp a.eval o).run P w = .ok (.value v) w' ∧ RA w v w')
  (hL2p : atI L2 p = anyA) (hpure : ∀ i, i < k → i ≠ p → ∀ v w w', atI L i v w → atI L2 i v w')
  (hlate : ∀ v' W2 i, i < k → i ≠ p → late i = true → RStep P ops Q t0 (fun w => w = W2) (IP L2 p v') i)
  (hfin : ∀ A v' W2, Below W.heap.size W A → RA A v' W2 → RFin ops t0 d0 (fun w => w = W2) (IP L2 p v') k (wpOp P ops Q k (Q .normal))) :
  ∀ (fuel : Nat) (LB : Array Bool) (a : Act) (w : World), LB.size = ops.size → LB.getD k true = false → LB.toList.count false ≤ fuel → LB.getD p true = false → (∀ j, LB.getD j false = true → ∀ x ∈ aft ops j, LB.getD x false = true) → RInv ops t0 d0 (fun w => Below W.heap.size W w) (atI L) LB a w → wpAny P .any ops Q fuel LB a w := by
 have hl0 := hl
 have hk : k + 1 = ops.size := lastC_size hl
 have cnt : ∀ (L : Array Bool) i, L.getD i true = false → L.toList[i]? = some false := fun L i h1 => by
  rw [Array.getD_eq_getD_getElem?] at h1
  rw [Array.getElem?_toList]
  cases hL : L[i]? with
  | none => rw [hL] at h1; cases h1
  | some b => rw [hL] at h1; simpa using h1
 intro fuel
 induction fuel with
 | zero =>
  intro LB a w hs hlk hc hlp hcl h
  have := cnt_set _ _ (cnt LB k hlk)
  omega
 | succ fuel ih =>
  intro LB a w hs hlk hc hlp hcl h
  refine ⟨fun hr => ?_, fun i hi => ?_⟩
  ·rw [ready_nil ht hs hr k (by omega)] at hlk
   cases hlk
  ·obtain ⟨h1, o', ho, hdep⟩ := mem_ready.1 hi
   have his : i < ops.size := (Array.getElem?_eq_some_iff.1 ho).1
   have hc1 := cnt_set _ _ (cnt LB i h1)
   by_cases hik : i = k
   ·subst hik
    have h3 := lastC_all hl ho (fun e he hb => hdep e he hb) hcl p hpk
    have h4 := cnt LB p hlp
    rw [Array.getElem?_toList] at h4
    rw [Array.getD_eq_getD_getElem?, h4] at h3
    cases h3
   ·by_cases hip : i = p
    ·subst hip
     rw [hp] at ho
     have ho' := (Option.some.inj ho).symm
     subst ho'
     obtain ⟨v', w', hr, hRA⟩ := happ a w h.frameE h.glob (h.deps hi)
     have step : wpOp P ops Q i (fun a2 w2 => a2 = a.put (some dp) v' ∧ w2 = w') a w := by
      unfold wpOp
      simp only [hp, wanted_free hog, if_true]
      refine .inl ?_
      unfold Oper.wp
      rw [hr]
      exact ⟨by rw [hod], rfl⟩
     refine wpOp_mono ?_ step
     rintro a2 w2 ⟨rfl, rfl⟩
     have hdst : (ops[i]?).bind (·.dst) = some dp := by rw [hp]; exact hod
     refine region_lastSC (t0 := t0) (d0 := d0) (dn := fun j => decide (j = i) || (decide (j < k) && !late j)) (G := fun w => w = w2) (I := IP L2 i v') hl0 ht ?_ ?_ (hfin _ _ _ h.glob hRA) fuel _ _ _ (by simpa using hs) (by rw [getD_set_ne true hik]; exact hlk) ?_ ?_ (closed_step (by omega) hp (fun e he hb => hdep e he hb) hcl) ?_
     ·rintro j v w1 w3 _ ⟨h5, h6⟩ hb
      exact ⟨h5, atI_stab hst2 _ _ _ _ h6 hb⟩
     ·intro j hj hd
      simp only [Bool.or_eq_false_iff, decide_eq_false_iff_not, Bool.and_eq_false_iff, Bool.not_eq_false'] at hd
      refine hlate v' w2 j hj hd.1 ?_
      rcases hd.2 with h5 | h5
      ·exact absurd hj h5
      ·exact h5
     ·intro j hd
      simp only [Bool.or_eq_true, decide_eq_true_eq, Bool.and_eq_true, Bool.not_eq_true'] at hd
      by_cases hji : j = i
      ·subst hji
       rw [Array.getD_eq_getD_getElem?, Array.getElem?_setIfInBounds_self_of_lt (by omega)]; rfl
      ·rcases hd with hd | ⟨hd1, hd2⟩
       ·exact absurd hd hji
       ·rw [getD_set_ne false (Ne.symm hji)]
        refine early_done (D := fun x => LB.getD x false = true) (fun x hx => ?_) (fun j hj x hx => hcl j hj x hx) j (hearly j hd1 hji hd2)
        obtain ⟨e, he, h5, h6⟩ := aft_mem hp hx
        have h7 := hdep e he h6
        rw [h5] at h7
        exact h7
     ·rw [Array.toList_setIfInBounds]; omega
     ·refine ⟨by rw [put_size]; exact h.size, by rw [put_defers]; exact h.defers, fun t hf => ?_, rfl, fun j d hd hj => ?_⟩
      ·rw [put_other ?_]
       ·exact h.frame t hf
       ·intro e
        have := Array.all_eq_true'.1 hf _ (Array.mem_of_getElem? hp)
        simp at this
        exact this (hod.trans e)
      ·by_cases hji : j = i
       ·subst hji
        rw [hdst] at hd
        rw [put_at hd (by rw [h.size]; exact (tidy_dst ht (hdst.trans hd)).1)]
        exact ⟨fun _ => rfl, by rw [hL2p]; trivial⟩
       ·rw [getD_set_ne false (Ne.symm hji)] at hj
        rw [put_other (fun e => hji ((tidy_dst ht (hdst.trans e)).2 j hd))]
        have hjk : j < k := by
         obtain ⟨o2, ho2, _⟩ := Option.bind_eq_some_iff.1 hd
         have h5 := (Array.getElem?_eq_some_iff.1 ho2).1
         have h6 : j ≠ k := fun e => by
          subst e
          have h4 := cnt LB j hlk
          rw [Array.getElem?_toList] at h4
          rw [Array.getD_eq_getD_getElem?, h4] at hj
          cases hj
         omega
        exact ⟨fun e => absurd e hji, hpure j hjk hji _ _ _ (h.done j d hd hj)⟩
    ·refine wpOp_mono ?_ (hstep i (by omega) hip a w h.frameE h.glob (h.deps hi))
     rintro a' w' ⟨⟨v, rfl, hI⟩, hG, hB⟩
     refine ih _ _ _ (by simpa using hs) (by rw [getD_set_ne true hik]; exact hlk) ?_ (by rw [getD_set_ne true hip]; exact hlp) (fun j hj x hx => ?_) (h.next ht h1 (fun i v w w' _ h hb => atI_stab hst i v w w' h hb) hI hG hB)
     ·rw [Array.toList_setIfInBounds]
      omega
     ·have hx2 : LB.getD x false = true := by
       by_cases hji : j = i
       ·subst hji
        obtain ⟨e, he, h5, h6⟩ := aft_mem ho hx
        have h7 := hdep e he h6
        rw [h5] at h7
        exact h7
       ·rw [getD_set_ne false (Ne.symm hji)] at hj
        exact hcl j hj x hx
      by_cases hxi : x = i
      ·subst hxi
       rw [Array.getD_eq_getD_getElem?, Array.getElem?_setIfInBounds_self_of_lt (by omega)]; rfl
      ·rw [getD_set_ne false (Ne.symm hxi)]; exact hx2
theorem regBPC {id dp p k : Nat} {o : Oper} {t e tx tz : TypeId} {inf : TypeInfo} {z : Value} {gi m : Nat} {g : GR} {aftp : Array Edge} (hm : P.follows .mixedOrders = true) (hS : St w0 O G K W) (hk : os[k]? = some o) (hlen : os.length = k + 1) (hl : lastC os.toArray k = true) (ht : tidyR os.toArray n = true) (hdst : (os.take k).all (fun o => o.dst.isSome) = true) (hfree : ∀ d, o.dst = some d → look l d = none)
  (hp : os[p]? = some ⟨some dp, .call { callee := .builtin .append, args := #[.tmp tx, .tmp tz], argTypes := #[t, t] }, ty, pos, aftp, none⟩) (hpk : Nat.blt p k = true)
  (hU : P.underlying t = some (.slice e)) (hinf : P.info? e = some inf) (hz : inf.zero = some z) (hzs : z.cells.size = inf.size) (hsz : 0 < inf.size)
  (hi : G[gi]? = some g) (he : g.e = e) (hgs : g.size = inf.size) (h63 : g.n + m ≤ maxLen) (hbytes : (g.n + m) * inf.bytes ≤ 140737488355328)
  (h : BLP P n os.toArray Q l W p (fun Lr L2r => ∃ (py : Asr) (q : List Value → World → Prop), OpG n os.toArray l Lr.reverse p tx (isV g.v) ∧ OpG n os.toArray l Lr.reverse p tz py ∧ RowOf m inf.size q py ∧
   ∀ A v' news W', Below W.heap.size W A → q news A → St w0 O (G.set gi ⟨v', g.n + m, g.xs ++ news, e, g.size⟩) ((W.heap.size, A) :: K) W' → FinI (os.take k) (pvL v' p 0 L2r.reverse) l (fun l' W' => OpsF P n os.toArray Q [o] l' W') W') k [] [] 0) : CodeF P n (.region id os.toArray true) Q l W := by
 obtain ⟨Lr, L2r, h1, h2, h3, h4, h5, py, q, hx, hy, hpy, hfin⟩ := blp_run p ht k 0 [] [] rfl rfl (fun p hp => by cases hp) (fun p hp => by cases hp) (fun i hi => by omega) h
 have hpk' : p < k := Nat.lt_of_lt_of_le (Nat.lt_succ_self _) (Nat.le_of_ble_eq_true hpk)
 subst he
 rw [Nat.zero_add] at h1 h2 h5
 have hpo : os.toArray[p]? = some ⟨some dp, .call { callee := .builtin .append, args := #[.tmp tx, .tmp tz], argTypes := #[t, t] }, ty, pos, aftp, none⟩ := by simpa using hp
 have hko : os.toArray[k]? = some o := by simpa using hk
 have hL2p : atI L2r.reverse p = anyA := by
  rcases (h5 p hpk').2 with h6 | h6
  ·exact h6.2
  ·exact absurd rfl h6.1
 intro a ha
 refine wp_region_any hm (region_appendC (W := W) (t0 := a.tmps) (d0 := a.defers) (L := Lr.reverse) (L2 := L2r.reverse) (late := fun j => !earlyR os.toArray p j)
  (RA := fun A v' W' => ∃ news, q news A ∧ St w0 O (G.set gi ⟨v', g.n + m, g.xs ++ news, g.e, g.size⟩) ((W.heap.size, A) :: K) W') hl (by rw [ha.size]; exact ht) (stabL_of fun q hq => h3 q (List.mem_reverse.1 hq)) (stabL_of fun q hq => h4 q (List.mem_reverse.1 hq)) hpk' hpo rfl rfl ?_ ?_ ?_ hL2p ?_ ?_ ?_ _ _ _ _ (by simp) ?_ (count_rep _) ?_ (fun j hj => by rw [Array.getD_eq_getD_getElem?, Array.getElem?_replicate] at hj; split at hj <;> simp at hj) (inv_zero ((Below.refl _ _).drew)))
 ·intro j hj hjp he
  simp only [Bool.not_eq_false'] at he
  exact List.contains_iff_mem.1 he
 ·intro i hi hip
  rcases (h5 i hi).2 with h6 | h6
  ·exact absurd h6.1 hip
  ·exact h6.2.1 a ha
 ·intro b w hF hG hD
  have ex : b.eval (.tmp tx) = g.v := hx a ha b w hF hD
  obtain ⟨bb, oo, c, cs, ey, hc, hcl, h1c, hq⟩ := hpy _ w (hy a ha b w hF hD)
  have hS2 := hS.call hG
  have hrow := hS2.row gi hi
  rw [hgs] at hrow
  obtain ⟨v', W', hr, k2, k3, k4⟩ := append_own2 (P := P) (w := w) w0.heap.size t ty g.e inf z hU hinf hz hzs hsz g.v g.n g.xs hrow ⟨bb, oo, none⟩ m c cs hcl (fun j u hj => by rw [Addr.add_lit]; exact hc.get j u hj) (fun u hu => List.all_eq_true.1 h1c u hu) h63 hbytes hS2.below.size
  rw [← hgs] at k2
  refine ⟨v', W', ?_, cs, hq, hS2.setG gi hi k2 k3 k4⟩
  unfold execOp
  simp only [resolve, invoke, builtin, Sem.run_bind, Sem.run_pure, Result.andThen_ok, List.map_toArray, List.map_cons, List.map_nil, ex, ey, hr]
 ·intro i hi hip v w w' hv
  exact (h5 i hi).1 v w w' hv
 ·intro v' W2 i hi hip hlt
  rcases (h5 i hi).2 with h6 | h6
  ·exact absurd h6.1 hip
  ·rcases h6.2.2 with h7 | h7
   ·rw [h7] at hlt; cases hlt
   ·exact h7 v' W2 a ha
 ·rintro A v' W2 hB ⟨news, hq, hS2⟩
  intro a' W' hs hd hf hG hI
  subst hG
  have hdst' : ∀ o ∈ os.take k, ∃ d, o.dst = some d := fun o ho => Option.isSome_iff_exists.1 (List.all_eq_true.1 hdst o ho)
  have htk : (os.take k).length = k := by simp; omega
  refine fin_has (os.take k) (pvL v' p 0 L2r.reverse) l (fun i d hi hd' => ?_) (hs.trans ha.size) (hd.trans ha.defers) ?_ hdst' (fun l' h ha' => ?_) (hfin A v' news W' hB hq hS2)
  ·have hik : i < k := by omega
   have h6 := hI i d hik (by rw [List.getElem?_take, if_pos hik] at hd'; simpa using hd')
   rw [atI_pvL L2r.reverse 0 i (by simp; omega)]
   by_cases hip : i + 0 = p
   ·rw [if_pos hip]; exact h6.1 hip
   ·rw [if_neg hip]; exact h6.2
  ·intro t' v hv hno
   rw [hf t' (by
    unfold freeT; rw [Array.all_eq_true']; intro o' ho'
    have ho2 : o' ∈ os := by simpa using ho'
    obtain ⟨j, hj⟩ := List.getElem?_of_mem ho2
    by_cases hjk : j < k
    ·have : o' ∈ os.take k := List.mem_of_getElem? (by rw [List.getElem?_take, if_pos hjk]; exact hj)
     simpa using hno o' this
    ·have hjl := (List.getElem?_eq_some_iff.1 hj).1
     have : j = k := by omega
     subst this
     rw [hk] at hj
     have e2 := Option.some.inj hj
     subst e2
     cases hx : o.dst with
     | none => simp
     | some d => simp; intro e; subst e; rw [hfree d hx] at hv; cases hv)]
   exact ha.at_ t' v hv
  ·have h6 := h a' ha'
   unfold wpOp
   rw [hko]
   exact h6
 ·rw [Array.getD_eq_getD_getElem?, Array.getElem?_replicate, if_pos (by simp; omega)]; rfl
 ·rw [Array.getD_eq_getD_getElem?, Array.getElem?_replicate, if_pos (by simp; omega)]; rfl
end
end Go.Proofs.Ytpkcaabbcoiiiaa
namespace Go.Proofs.Ytpkcaabbcoiiiaa
open Go Go.RowKit
def isSpN (lo : Nat) (S : PS) : Asr := fun v w => ∃ s2 : SF, v = s2.val ∧ ∀ W2, Agree lo w W2 → SIs W2 S s2
theorem copySp_is (S : PS) (sf : SF) (w : World) (hs : SIs w S sf) {lo : Nat} (hlo : lo ≤ w.heap.size) : Calls Try.prog 32 #[sf.val] w (GivesN (isSpN lo S) w) := by
 cases S with
 | one t n =>
  obtain ⟨a, c, rfl⟩ := hs
  refine (copySpace1 t n a c w).mono fun e w' ⟨he, hb⟩ => ⟨_, he, fun w3 hg => ⟨⟨t, n, none, 0, 0⟩, rfl, fun W2 h2 => ⟨none, 0, rfl⟩⟩, hb⟩
 | two t n u m =>
  obtain ⟨b, off, c, a1, c1, a2, c2, rfl, h1, h2⟩ := hs
  refine (copySpace2 5 0 (some ⟨b, off, none⟩) 2 c [⟨t, n, a1, 0, c1⟩, ⟨u, m, a2, 0, c2⟩] w (fun i q hq => ?_) rfl (fun q hq => ?_) (Nat.le_refl _)).mono ?_
  ·match i, hq with
   | 0, hq => cases hq; exact ⟨b, off, rfl, by rw [Nat.zero_mul, Nat.add_zero]; exact h1⟩
   | 1, hq => cases hq; exact ⟨b, off, rfl, by rw [Nat.one_mul]; exact h2⟩
   | i + 2, hq => simp at hq
  ·simp at hq; rcases hq with rfl | rfl <;> rfl
  ·rintro e w' ⟨v, he, hr, hb⟩
   refine ⟨_, he, fun w3 hg => ?_, hb⟩
   obtain ⟨b9, c9, rfl, _⟩ := ownsRow_at hr (by omega)
   refine ⟨⟨5, 0, some ⟨b9, 0, none⟩, 2, c9⟩, rfl, fun W2 h3 => ?_⟩
   have h4 := ownsRow_agree (ownsRow_base (ownsRow_agree hr hg) hlo) h3
   have hc : ∀ (j : Nat) x, ([SF.mk t n a1 0 c1, ⟨u, m, a2, 0, c2⟩].flatMap bare3)[j]? = some x → W2.cell? ⟨b9, j, none⟩ = some x := fun j x hj => ownsRow_blk h4 hj
   exact ⟨b9, 0, c9, none, 0, none, 0, rfl, ⟨hc 0 _ rfl, hc 1 _ rfl, hc 2 _ rfl⟩, ⟨hc 3 _ rfl, hc 4 _ rfl, hc 5 _ rfl⟩⟩
end Go.Proofs.Ytpkcaabbcoiiiaa
namespace Go.Proofs.Ytpkcaabbcoiiiaa
open Go Go.RowKit
section
variable {P : Program} {ops : Array Oper} {Q : Exit → Act → World → Prop} {n : Nat} {l : Fr} {W : World} {L : List Asr} {i : Nat}
variable {d : Nat} {op : Op} {ty : TypeId} {pos : String} {aft_ : Array Edge}
theorem rgPs (ds : List (Nat × Nat × Asr)) (hi : ops[i]? = some ⟨some d, op, ty, pos, aft_, none⟩) {q : Asr} (hds : DepsL ops L i ds)
  (hr : ∀ (ev : Operand → Value) w, Below W.heap.size W w → DepsH ds ev w → ∃ v, (execOp ev ⟨some d, op, ty, pos, #[], none⟩).run P w = .ok (.value v) w ∧ q v w) (hI : atI L i = q) : RG P n ops Q l W L i :=
 fun a ha => st_value hi (w_free rfl) fun b w hF hG hD => by
  have key : ∀ (ds : List (Nat × Nat × Asr)), DepsL ops L i ds → DepsH ds b.eval w := by
   intro ds
   induction ds with
   | nil => intro _; trivial
   | cons x xs ih =>
    intro h
    refine ⟨?_, ih h.2⟩
    have h1 := hD x.1 x.2.1 h.1.1
    rw [h.1.2] at h1
    exact h1
  obtain ⟨v, h2, h3⟩ := hr b.eval w hG (key ds hds)
  exact ⟨v, w, by rw [execOp_guard b.eval _ _ _ _ pos _ #[] _ none]; exact h2, by rw [hI]; exact h3, Below.refl _ _⟩
end
section
variable {ops : Array Oper} {Q : Exit → Act → World → Prop} {n : Nat} {l : Fr} {W : World} {L : List Asr} {i : Nat} {d : Nat} {ty : TypeId} {pos : String} {aft_ : Array Edge}
end
end Go.Proofs.Ytpkcaabbcoiiiaa
namespace Go.Proofs.Ytpkcaabbcoiiiaa
open Go Go.RowKit
abbrev nineP (f g t : Int) (x : WF) : List Value := [.int .i64 f, .int .i64 g, .int .i64 t, .bool x.z, .int .i64 x.c, .int .u64 (x.g : Int), .slice x.ra x.rl x.rc, .slice x.ca x.cl x.cc, .slice x.pa x.pl x.pc]
abbrev mkC (sf : SF) (f0 : WF) (sq : SF) (st sy : Int) (vf vt : Value) : List Value := [.int .i64 sf.tag, .int .i64 sf.dim, .slice sf.a sf.len sf.cap, .bool f0.z, .int .i64 f0.c, .int .u64 (f0.g : Int), .slice f0.ra f0.rl f0.rc, .slice f0.ca f0.cl f0.cc, .slice f0.pa f0.pl f0.pc, .int .i64 sq.tag, .int .i64 sq.dim, .slice sq.a sq.len sq.cap, .int .i64 st, .int .i64 sy, vf, vt]
def isTrP (lo : Nat) (f g t : Int) (S : PS) (x : PX) : Asr := fun v w => ∃ wf : WF, v = .agg (nineP f g t wf).toArray ∧ XNew lo w S wf x
def isTrRow (lo : Nat) (f g t : Int) (S : PS) (x : PX) : Asr := fun v w => ∃ (wf : WF) (B : Nat), v = .slice (some ⟨B, 0, none⟩) 1 1 ∧ w.heap[B]? = some (.cells (nineP f g t wf).toArray 100 (0, 0)) ∧ XNew lo w S wf x
theorem stab_trP {lo : Nat} {f g t : Int} {S : PS} {x : PX} : Stab (isTrP lo f g t S x) := fun v w w' ⟨wf, h1, h2⟩ hb => ⟨wf, h1, h2.below hb⟩
theorem stab_trRow {lo : Nat} {f g t : Int} {S : PS} {x : PX} : Stab (isTrRow lo f g t S x) := fun v w w' ⟨wf, B, h1, h2, h3⟩ hb => ⟨wf, B, h1, (hb.block B (lt_of_heap h2)).trans h2, h3.below hb⟩
theorem bldT9 (f g t : Int) (x : WF) : Try.prog.built 100 [(0, .int .i64 f), (1, .int .i64 g), (2, .int .i64 t), (3, x.val)] = some (nineP f g t x).toArray := by kernel_rfl
theorem bld_trP {d j1 j2 j3 j4 t1 t2 t3 t4 lo : Nat} {W : World} {ty : TypeId} {pos : String} {f g t : Int} {S : PS} {x : PX} : ∀ (ev : Operand → Value) (w : World), Below W.heap.size W w → DepsH [(j1, t1, isV (.int .i64 f)), (j2, t2, isV (.int .i64 g)), (j3, t3, isV (.int .i64 t)), (j4, t4, isNew lo S x)] ev w →
  ∃ v, (execOp ev ⟨some d, .build 100 #[(0, .tmp t1), (1, .tmp t2), (2, .tmp t3), (3, .tmp t4)], ty, pos, #[], none⟩).run Try.prog w = .ok (.value v) w ∧ isTrP lo f g t S x v w := fun ev w _ ⟨h1, h2, h3, ⟨wf, h4, h5⟩, _⟩ => by
 have e1 : ev (.tmp t1) = _ := h1
 have e2 : ev (.tmp t2) = _ := h2
 have e3 : ev (.tmp t3) = _ := h3
 have e4 : ev (.tmp t4) = _ := h4
 refine ⟨.agg (nineP f g t wf).toArray, ?_, wf, rfl, h5⟩
 have hr := run_build w 100 #[(0, .int .i64 f), (1, .int .i64 g), (2, .int .i64 t), (3, wf.val)] _ (P := Try.prog) (bldT9 f g t wf)
 unfold execOp
 simp only [List.map_toArray, List.map_cons, List.map_nil, e1, e2, e3, e4]
 simp [hr]
theorem rowOf_tr9 {lo : Nat} {f g t : Int} {S : PS} {x : PX} : RowOf 1 9 (fun cs w => ∃ wf : WF, cs = nineP f g t wf ∧ XNew lo w S wf x) (isTrRow lo f g t S x) := fun v w ⟨wf, B, h1, h2, h3⟩ =>
 ⟨B, 0, 1, _, h1, CellsAt.own (j := 0) (m := 9) h2 rfl, rfl, rfl, wf, rfl, h3⟩
theorem bs_tr9 (f g t : Int) (x : WF) : Instr.fill (fun i => some (i * 9, 9)) ((Array.range (1 * 9)).map ((Value.cells (.agg #[.int .i64 0, .int .i64 0, .int .i64 0, .bool false, .int .i64 0, .int .u64 0, .slice none 0 0, .slice none 0 0, .slice none 0 0]))[· % (Value.cells (.agg #[.int .i64 0, .int .i64 0, .int .i64 0, .bool false, .int .i64 0, .int .u64 0, .slice none 0 0, .slice none 0 0, .slice none 0 0])).size]!)) [(0, .agg (nineP f g t x).toArray)] = some (nineP f g t x).toArray := by kernel_rfl
section
variable {ops : Array Oper} {Q : Exit → Act → World → Prop} {n : Nat} {l : Fr} {W : World} {L : List Asr} {i : Nat} {d : Nat} {ty : TypeId} {pos : String} {aft_ : Array Edge}
theorem rg_trRow {tt lo : Nat} {f g t : Int} {S : PS} {x : PX} (hi : ops[i]? = some ⟨some d, .buildSlice 58 1 #[(0, .tmp tt)], ty, pos, aft_, none⟩) (hp : OpG n ops l L i tt (isTrP lo f g t S x)) (hI : atI L i = isTrRow lo f g t S x) : RG Try.prog n ops Q l W L i :=
 rg_row (xs := [(0, .tmp tt)]) [isTrP lo f g t S x] hi (w_free rfl) Try.underlying58 Try.sizeOf100 Try.zeroValue100 rfl rfl ⟨p_tmp hp, trivial⟩ fun vs w hb hh => by
  match vs, hh with
  | [v], ⟨⟨wf, h1, h2⟩, _⟩ =>
   subst h1
   exact ⟨nineP f g t wf, bs_tr9 f g t wf, fun B2 w' hB h4 h5 => by rw [hI]; exact ⟨wf, B2, rfl, h4, h2.below h5⟩⟩
end
end Go.Proofs.Ytpkcaabbcoiiiaa
