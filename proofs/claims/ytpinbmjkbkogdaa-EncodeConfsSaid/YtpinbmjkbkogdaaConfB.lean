import Derived.Orders
import Derived.Below
import Derived.Deep.RegionHeld
import Derived.WalkKit
import Derived.KernelRfl
import Derived.Laws.Rows
import Derived.Laws.AppendOwn
import Derived.Laws.Strings
import Derived.Laws.Small
import Derived.Lib.Hide
import Derived.IntWalk
import Derived.Laws.Tables
import Derived.Laws.Concat
import Derived.Laws.MakeOwn
import Derived.Lib.OwnBridge
import Derived.Laws.IdiomStrings
import Derived.Lib.ItoaLen
import Derived.Lib.UnsafeStr
import Derived.Lib.AppendIntMem
import Derived.Test.YtpinbmjkbkogdaaRows
import Derived.Lib.SmallJoins
import Derived.Deep.Slices
import Derived.Deep.Fields
import Derived.ChangeSlices
import Derived.ChangeSame
import Derived.ProofKit
import Derived.RangeFuncNested
import Derived.RangeFuncBound
import Derived.RangeFuncCalls
import Derived.RangeFuncLeaves
import Derived.OwnWalkIn
import Derived.TacticsInMore
import Derived.LoopNIn
import Derived.Shelf.Abstract
import Derived.Test.YtpinbmjkbkogdaaConfA
set_option linter.unusedVariables false
set_option linter.unusedSimpArgs false
set_option linter.unusedSectionVars false
set_option linter.unnecessarySimpa false
namespace Go.Proofs.Ytpinbmjkbkogdaa
open Go Go.RowKit
set_option linter.unusedVariables false
theorem fa_47_2 (w : World) (b o : Nat) : (Instr.fieldAt 47 (.pointer (some ⟨b, o, none⟩)) 2).run Try.prog w = .ok (.pointer (some ⟨b, o + 2, none⟩)) w := by
  simp [Instr.fieldAt, run_underlying Try.underlying47, Instr.sureAddr, go_sem, Addr.add_lit]
theorem fa_47_3 (w : World) (b o : Nat) : (Instr.fieldAt 47 (.pointer (some ⟨b, o, none⟩)) 3).run Try.prog w = .ok (.pointer (some ⟨b, o + 3, none⟩)) w := by
  simp [Instr.fieldAt, run_underlying Try.underlying47, Instr.sureAddr, go_sem, Addr.add_lit]
theorem fa_76_0 (w : World) (b o : Nat) : (Instr.fieldAt 76 (.pointer (some ⟨b, o, none⟩)) 0).run Try.prog w = .ok (.pointer (some ⟨b, o + 0, none⟩)) w := by
  simp [Instr.fieldAt, run_underlying Try.underlying76, Instr.sureAddr, go_sem, Addr.add_lit]
theorem fa_76_1 (w : World) (b o : Nat) : (Instr.fieldAt 76 (.pointer (some ⟨b, o, none⟩)) 1).run Try.prog w = .ok (.pointer (some ⟨b, o + 1, none⟩)) w := by
  simp [Instr.fieldAt, run_underlying Try.underlying76, Instr.sureAddr, go_sem, Addr.add_lit]
theorem fa_76_2 (w : World) (b o : Nat) : (Instr.fieldAt 76 (.pointer (some ⟨b, o, none⟩)) 2).run Try.prog w = .ok (.pointer (some ⟨b, o + 2, none⟩)) w := by
  simp [Instr.fieldAt, run_underlying Try.underlying76, Instr.sureAddr, go_sem, Addr.add_lit]
theorem fa_76_3 (w : World) (b o : Nat) : (Instr.fieldAt 76 (.pointer (some ⟨b, o, none⟩)) 3).run Try.prog w = .ok (.pointer (some ⟨b, o + 3, none⟩)) w := by
  simp [Instr.fieldAt, run_underlying Try.underlying76, Instr.sureAddr, go_sem, Addr.add_lit]
theorem fa_76_4 (w : World) (b o : Nat) : (Instr.fieldAt 76 (.pointer (some ⟨b, o, none⟩)) 4).run Try.prog w = .ok (.pointer (some ⟨b, o + 4, none⟩)) w := by
  simp [Instr.fieldAt, run_underlying Try.underlying76, Instr.sureAddr, go_sem, Addr.add_lit]
theorem fa_76_5 (w : World) (b o : Nat) : (Instr.fieldAt 76 (.pointer (some ⟨b, o, none⟩)) 5).run Try.prog w = .ok (.pointer (some ⟨b, o + 5, none⟩)) w := by
  simp [Instr.fieldAt, run_underlying Try.underlying76, Instr.sureAddr, go_sem, Addr.add_lit]
theorem fa_76_6 (w : World) (b o : Nat) : (Instr.fieldAt 76 (.pointer (some ⟨b, o, none⟩)) 6).run Try.prog w = .ok (.pointer (some ⟨b, o + 6, none⟩)) w := by
  simp [Instr.fieldAt, run_underlying Try.underlying76, Instr.sureAddr, go_sem, Addr.add_lit]
theorem goes_34 : goesIn Try.prog 34 = true := by kernel_rfl
set_option maxRecDepth 100000 in
set_option maxHeartbeats 4000000 in
theorem step_c (va : Option Addr) (vl : Nat) (vc : Nat) (pa : Option Addr) (pl : Nat) (pc : Nat) (ea : Option Addr) (el : Nat) (ec : Nat) (es : List Int) (xa : Option Addr) (xl : Nat) (xc : Nat) (xs : List Int) (mn : Int) (oa : Option Addr) (ol : Nat) (oc : Nat) (os : List Int) (sa : Option Addr) (sl : Nat) (sc : Nat) (ss : List TV) (ta : Option Addr) (tl : Nat) (tc : Nat) (ts : List UV) (na : Option Addr) (nl : Nat) (nc : Nat) (ns : List NV) (ka : Option Addr) (kl : Nat) (kc : Nat) (ks : List KV) (s : TV) (n : Nat) (w : World) (he : RowI w ea es) (hel : es.length = el) (hx : RowI w xa xs) (hxl : xs.length = xl) (ho : RowI w oa os) (hol : os.length = ol) (hs : RowL TV.sev 7 w sa ss) (hsl : ss.length = sl) (ht : RowL UV.four 4 w ta ts) (htl : ts.length = tl) (hn : RowL NV.two 2 w na ns) (hnl : ns.length = nl) (hk : RowL KV.two 2 w ka ks) (hkl : ks.length = kl) (b1 : vl ≤ 5000) (b2 : pl ≤ 5000) (b3 : el ≤ 5000) (b4 : xl ≤ 5000) (b5 : ol ≤ 5000) (b6 : sl ≤ 5000) (b7 : tl ≤ 5000) (b8 : nl ≤ 5000) (b9 : kl ≤ 5000) :
    Calls Try.prog 33 #[.agg #[.slice va vl vc, .slice pa pl pc, .slice ea el ec, .slice xa xl xc, .int .i64 mn, .slice oa ol oc, .slice sa sl sc, .slice ta tl tc, .slice na nl nc, .slice ka kl kc], s.val, .int .i64 (n : Int)] w (fun e w' => e = .returned (.bool (stepK ⟨va, vl, vc, pa, pl, pc, ea, el, ec, es, xa, xl, xc, xs, mn, oa, ol, oc, os, sa, sl, sc, ss, ta, tl, tc, ts, na, nl, nc, ns, ka, kl, kc, ks⟩ s n)) ∧ Below w.heap.size w w') := by
  refine enterF (args := [.agg #[.slice va vl vc, .slice pa pl pc, .slice ea el ec, .slice xa xl xc, .int .i64 mn, .slice oa ol oc, .slice sa sl sc, .slice ta tl tc, .slice na nl nc, .slice ka kl kc], s.val, .int .i64 (n : Int)]) Try.func33 rfl Try.ntmps33 rfl ?_
  have hS := St.start w
  refine seqF ?_
  refine regF ?_
  refine op_box (cs := [_, _, _, _, _, _, _, _, _, _]) hS rfl rfl rfl ?_
  clear hS; intro B1 W1 hS
  refine op_box (cs := [_, _, _, _, _, _, _]) hS rfl rfl rfl ?_
  clear hS; intro B2 W2 hS
  refine op_assign rfl rfl ?_
  refine endF ?_
  refine XF.thenN ?_
  refine seqF ?_
  refine seqF ?_
  rcases (show inQ s.f ol = false ∨ (inQ s.f ol = true ∧ inQ s.t ol = false) ∨ (inQ s.f ol = true ∧ inQ s.t ol = true) by cases inQ s.f ol <;> cases inQ s.t ol <;> simp) with hf | ⟨hf, hg⟩ | ⟨hf, hg⟩
  · skip
    refine regB (m := 29) followsM hS (by kernel_rfl) (by kernel_rfl) rfl ?_
    refine bl_cons 1 rfl (isV _) (stab_isV _) (rgV (li := [(3, _)]) rfl (w_free rfl) ⟨g_fr (by kernel_rfl) rfl, trivial⟩ (fun w hw => rn_loadA (vs := [_, _, _, _, _, _, _, _, _, _]) Try.isAgg81 Try.sizeOf81 rfl (CellsAt.agree (below_agree hw 0) (Nat.zero_le _) (CellsAt.own (j := 0) (m := 10) (hS.at_ 1 rfl) rfl))) (at_top rfl)) ?_
    refine bl_cons 2 rfl (isV _) (stab_isV _) (rgV (li := [(4, _)]) rfl (w_free rfl) ⟨g_fr (by kernel_rfl) rfl, trivial⟩ (fun w hw => rn_field (o' := 0) fa_76_0 rfl rfl) (at_top rfl)) ?_
    refine bl_cons 3 rfl (isV _) (stab_isV _) (rgV (li := [(12, _)]) rfl (w_free rfl) ⟨g_dep 1 (by kernel_rfl) (at_dep rfl rfl rfl), trivial⟩ (fun w hw => rn_load Try.isAgg3 rfl ((below_agree hw 0).cell (Nat.zero_le _) (cell_own (hS.at_ 0 rfl) rfl))) (at_top rfl)) ?_
    refine bl_cons 4 rfl (isV (.bool false)) (stab_isV _) (rg_call [isV _, isV _] rfl goes_32 (w_free rfl) ⟨p_tmp (g_dep 0 (by kernel_rfl) (at_dep rfl rfl rfl)), p_tmp (g_dep 2 (by kernel_rfl) (at_dep rfl rfl rfl)), trivial⟩ (fun vs w' hb hh => by have e := holds_isV (us := [_, _]) hh; subst e; exact (isNode_is ⟨_, vl, vc, _, pl, pc, _, el, ec, es, _, xl, xc, xs, mn, _, ol, oc, os, _, sl, sc, ss, _, tl, tc, ts, _, nl, nc, ns, _, kl, kc, ks⟩ s.f _).mono fun e w2 h => ⟨_, by rw [h.1, hf], rfl, h.2⟩) (at_top rfl)) ?_
    refine bl_cons 5 rfl (isV _) (stab_isV _) (rgV (li := [(14, _)]) rfl (w_free rfl) ⟨g_dep 3 (by kernel_rfl) (at_dep rfl rfl rfl), trivial⟩ (fun w hw => rn_not rfl) (at_top rfl)) ?_
    refine bl_cons 6 rfl (isV _) (stab_isV _) (rgV (li := [(15, _)]) rfl (w_free rfl) ⟨g_dep 4 (by kernel_rfl) (at_dep rfl rfl rfl), trivial⟩ (fun w hw => rn_move rfl) (at_top rfl)) ?_
    refine bl_cons 7 rfl (isV undef) (stab_isV _) (rg_no rfl (w_no 16 rfl (by kernel_rfl) (by kernel_rfl) (at_dep rfl rfl rfl) rfl) (at_top rfl)) ?_
    refine bl_cons 8 rfl (isV undef) (stab_isV _) (rg_no rfl (w_no 16 rfl (by kernel_rfl) (by kernel_rfl) (at_dep rfl rfl rfl) rfl) (at_top rfl)) ?_
    refine bl_cons 9 rfl (isV undef) (stab_isV _) (rg_no rfl (w_no 16 rfl (by kernel_rfl) (by kernel_rfl) (at_dep rfl rfl rfl) rfl) (at_top rfl)) ?_
    refine bl_cons 10 rfl (isV undef) (stab_isV _) (rg_no rfl (w_no 16 rfl (by kernel_rfl) (by kernel_rfl) (at_dep rfl rfl rfl) rfl) (at_top rfl)) ?_
    refine bl_cons 11 rfl (isV undef) (stab_isV _) (rg_no rfl (w_no 16 rfl (by kernel_rfl) (by kernel_rfl) (at_dep rfl rfl rfl) rfl) (at_top rfl)) ?_
    refine bl_cons 12 rfl (isV _) (stab_isV _) (rgV (li := [(16, _)]) rfl (w_free rfl) ⟨g_dep 5 (by kernel_rfl) (at_dep rfl rfl rfl), trivial⟩ (fun w hw => rn_pickT rfl rfl) (at_top rfl)) ?_
    refine bl_cons 13 rfl (isV _) (stab_isV _) (rgV (li := [(22, _)]) rfl (w_free rfl) ⟨g_dep 11 (by kernel_rfl) (at_dep rfl rfl rfl), trivial⟩ (fun w hw => rn_move rfl) (at_top rfl)) ?_
    refine bl_cons 14 rfl (isV undef) (stab_isV _) (rg_no rfl (w_no 23 rfl (by kernel_rfl) (by kernel_rfl) (at_dep rfl rfl rfl) rfl) (at_top rfl)) ?_
    refine bl_cons 15 rfl (isV undef) (stab_isV _) (rg_no rfl (w_no 23 rfl (by kernel_rfl) (by kernel_rfl) (at_dep rfl rfl rfl) rfl) (at_top rfl)) ?_
    refine bl_cons 16 rfl (isV undef) (stab_isV _) (rg_no rfl (w_no 23 rfl (by kernel_rfl) (by kernel_rfl) (at_dep rfl rfl rfl) rfl) (at_top rfl)) ?_
    refine bl_cons 17 rfl (isV undef) (stab_isV _) (rg_no rfl (w_no 23 rfl (by kernel_rfl) (by kernel_rfl) (at_dep rfl rfl rfl) rfl) (at_top rfl)) ?_
    refine bl_cons 18 rfl (isV undef) (stab_isV _) (rg_no rfl (w_no 23 rfl (by kernel_rfl) (by kernel_rfl) (at_dep rfl rfl rfl) rfl) (at_top rfl)) ?_
    refine bl_cons 19 rfl (isV undef) (stab_isV _) (rg_no rfl (w_no 23 rfl (by kernel_rfl) (by kernel_rfl) (at_dep rfl rfl rfl) rfl) (at_top rfl)) ?_
    refine bl_cons 20 rfl (isV undef) (stab_isV _) (rg_no rfl (w_no 23 rfl (by kernel_rfl) (by kernel_rfl) (at_dep rfl rfl rfl) rfl) (at_top rfl)) ?_
    refine bl_cons 21 rfl (isV undef) (stab_isV _) (rg_no rfl (w_no 23 rfl (by kernel_rfl) (by kernel_rfl) (at_dep rfl rfl rfl) rfl) (at_top rfl)) ?_
    refine bl_cons 22 rfl (isV undef) (stab_isV _) (rg_no rfl (w_no 23 rfl (by kernel_rfl) (by kernel_rfl) (at_dep rfl rfl rfl) rfl) (at_top rfl)) ?_
    refine bl_cons 23 rfl (isV undef) (stab_isV _) (rg_no rfl (w_no 23 rfl (by kernel_rfl) (by kernel_rfl) (at_dep rfl rfl rfl) rfl) (at_top rfl)) ?_
    refine bl_cons 24 rfl (isV undef) (stab_isV _) (rg_no rfl (w_no 23 rfl (by kernel_rfl) (by kernel_rfl) (at_dep rfl rfl rfl) rfl) (at_top rfl)) ?_
    refine bl_cons 25 rfl (isV undef) (stab_isV _) (rg_no rfl (w_no 23 rfl (by kernel_rfl) (by kernel_rfl) (at_dep rfl rfl rfl) rfl) (at_top rfl)) ?_
    refine bl_cons 26 rfl (isV undef) (stab_isV _) (rg_no rfl (w_no 23 rfl (by kernel_rfl) (by kernel_rfl) (at_dep rfl rfl rfl) rfl) (at_top rfl)) ?_
    refine bl_cons 27 rfl (isV undef) (stab_isV _) (rg_no rfl (w_no 23 rfl (by kernel_rfl) (by kernel_rfl) (at_dep rfl rfl rfl) rfl) (at_top rfl)) ?_
    refine bl_cons 28 rfl (isV undef) (stab_isV _) (rg_no rfl (w_no 23 rfl (by kernel_rfl) (by kernel_rfl) (at_dep rfl rfl rfl) rfl) (at_top rfl)) ?_
    refine bl_cons 29 rfl (isV _) (stab_isV _) (rgV (li := [(23, _)]) rfl (w_free rfl) ⟨g_dep 12 (by kernel_rfl) (at_dep rfl rfl rfl), trivial⟩ (fun w hw => rn_pickT rfl rfl) (at_top rfl)) ?_
    refine bl_nil ?_
    intro W3 hbR hS'
    clear hS; have hS := hS'; clear hS'
    refine fin_v ?_
    refine fin_v ?_
    refine fin_v ?_
    refine fin_v ?_
    refine fin_v ?_
    refine fin_v ?_
    refine fin_v ?_
    refine fin_v ?_
    refine fin_v ?_
    refine fin_v ?_
    refine fin_v ?_
    refine fin_v ?_
    refine fin_v ?_
    refine fin_v ?_
    refine fin_v ?_
    refine fin_v ?_
    refine fin_v ?_
    refine fin_v ?_
    refine fin_v ?_
    refine fin_v ?_
    refine fin_v ?_
    refine fin_v ?_
    refine fin_v ?_
    refine fin_v ?_
    refine fin_v ?_
    refine fin_v ?_
    refine fin_v ?_
    refine fin_v ?_
    refine fin_v ?_
    refine fin_nil ?_
    refine XF.thenN ?_
    refine condT rfl ?_
    refine seqF ?_
    refine regF ?_
    refine op_assign rfl rfl ?_
    refine endF ?_
    refine XF.thenN ?_
    refine retF ?_
    refine XF.thenR ?_
    refine XF.res (res1 Try.results33 rfl) ?_
    exact ⟨rbool (by unfold stepK; dsimp only; rw [if_pos hf]), hS.below⟩
  · skip
    refine regB (m := 29) followsM hS (by kernel_rfl) (by kernel_rfl) rfl ?_
    refine bl_cons 1 rfl (isV _) (stab_isV _) (rgV (li := [(3, _)]) rfl (w_free rfl) ⟨g_fr (by kernel_rfl) rfl, trivial⟩ (fun w hw => rn_loadA (vs := [_, _, _, _, _, _, _, _, _, _]) Try.isAgg81 Try.sizeOf81 rfl (CellsAt.agree (below_agree hw 0) (Nat.zero_le _) (CellsAt.own (j := 0) (m := 10) (hS.at_ 1 rfl) rfl))) (at_top rfl)) ?_
    refine bl_cons 2 rfl (isV _) (stab_isV _) (rgV (li := [(4, _)]) rfl (w_free rfl) ⟨g_fr (by kernel_rfl) rfl, trivial⟩ (fun w hw => rn_field (o' := 0) fa_76_0 rfl rfl) (at_top rfl)) ?_
    refine bl_cons 3 rfl (isV _) (stab_isV _) (rgV (li := [(12, _)]) rfl (w_free rfl) ⟨g_dep 1 (by kernel_rfl) (at_dep rfl rfl rfl), trivial⟩ (fun w hw => rn_load Try.isAgg3 rfl ((below_agree hw 0).cell (Nat.zero_le _) (cell_own (hS.at_ 0 rfl) rfl))) (at_top rfl)) ?_
    refine bl_cons 4 rfl (isV (.bool true)) (stab_isV _) (rg_call [isV _, isV _] rfl goes_32 (w_free rfl) ⟨p_tmp (g_dep 0 (by kernel_rfl) (at_dep rfl rfl rfl)), p_tmp (g_dep 2 (by kernel_rfl) (at_dep rfl rfl rfl)), trivial⟩ (fun vs w' hb hh => by have e := holds_isV (us := [_, _]) hh; subst e; exact (isNode_is ⟨_, vl, vc, _, pl, pc, _, el, ec, es, _, xl, xc, xs, mn, _, ol, oc, os, _, sl, sc, ss, _, tl, tc, ts, _, nl, nc, ns, _, kl, kc, ks⟩ s.f _).mono fun e w2 h => ⟨_, by rw [h.1, hf], rfl, h.2⟩) (at_top rfl)) ?_
    refine bl_cons 5 rfl (isV _) (stab_isV _) (rgV (li := [(14, _)]) rfl (w_free rfl) ⟨g_dep 3 (by kernel_rfl) (at_dep rfl rfl rfl), trivial⟩ (fun w hw => rn_not rfl) (at_top rfl)) ?_
    refine bl_cons 6 rfl (isV _) (stab_isV _) (rgV (li := [(15, _)]) rfl (w_free rfl) ⟨g_dep 4 (by kernel_rfl) (at_dep rfl rfl rfl), trivial⟩ (fun w hw => rn_move rfl) (at_top rfl)) ?_
    refine bl_cons 7 rfl (isV _) (stab_isV _) (rgV (li := [(3, _)]) rfl (w_yes 16 rfl (by kernel_rfl) (by kernel_rfl) (at_dep rfl rfl rfl)) ⟨g_fr (by kernel_rfl) rfl, trivial⟩ (fun w hw => rn_loadA (vs := [_, _, _, _, _, _, _, _, _, _]) Try.isAgg81 Try.sizeOf81 rfl (CellsAt.agree (below_agree hw 0) (Nat.zero_le _) (CellsAt.own (j := 0) (m := 10) (hS.at_ 1 rfl) rfl))) (at_top rfl)) ?_
    refine bl_cons 8 rfl (isV _) (stab_isV _) (rgV (li := [(4, _)]) rfl (w_yes 16 rfl (by kernel_rfl) (by kernel_rfl) (at_dep rfl rfl rfl)) ⟨g_fr (by kernel_rfl) rfl, trivial⟩ (fun w hw => rn_field (o' := 1) fa_76_1 rfl rfl) (at_top rfl)) ?_
    refine bl_cons 9 rfl (isV _) (stab_isV _) (rgV (li := [(18, _)]) rfl (w_yes 16 rfl (by kernel_rfl) (by kernel_rfl) (at_dep rfl rfl rfl)) ⟨g_dep 7 (by kernel_rfl) (at_dep rfl rfl rfl), trivial⟩ (fun w hw => rn_load Try.isAgg3 rfl ((below_agree hw 0).cell (Nat.zero_le _) (cell_own (hS.at_ 0 rfl) rfl))) (at_top rfl)) ?_
    refine bl_cons 10 rfl (isV (.bool false)) (stab_isV _) (rg_call [isV _, isV _] rfl goes_32 (w_yes 16 rfl (by kernel_rfl) (by kernel_rfl) (at_dep rfl rfl rfl)) ⟨p_tmp (g_dep 6 (by kernel_rfl) (at_dep rfl rfl rfl)), p_tmp (g_dep 8 (by kernel_rfl) (at_dep rfl rfl rfl)), trivial⟩ (fun vs w' hb hh => by have e := holds_isV (us := [_, _]) hh; subst e; exact (isNode_is ⟨_, vl, vc, _, pl, pc, _, el, ec, es, _, xl, xc, xs, mn, _, ol, oc, os, _, sl, sc, ss, _, tl, tc, ts, _, nl, nc, ns, _, kl, kc, ks⟩ s.t _).mono fun e w2 h => ⟨_, by rw [h.1, hg], rfl, h.2⟩) (at_top rfl)) ?_
    refine bl_cons 11 rfl (isV _) (stab_isV _) (rgV (li := [(20, _)]) rfl (w_yes 16 rfl (by kernel_rfl) (by kernel_rfl) (at_dep rfl rfl rfl)) ⟨g_dep 9 (by kernel_rfl) (at_dep rfl rfl rfl), trivial⟩ (fun w hw => rn_not rfl) (at_top rfl)) ?_
    refine bl_cons 12 rfl (isV _) (stab_isV _) (rgV (li := [(16, _), (21, _)]) rfl (w_free rfl) ⟨g_dep 5 (by kernel_rfl) (at_dep rfl rfl rfl), g_dep 10 (by kernel_rfl) (at_dep rfl rfl rfl), trivial⟩ (fun w hw => rn_pickF rfl rfl) (at_top rfl)) ?_
    refine bl_cons 13 rfl (isV _) (stab_isV _) (rgV (li := [(22, _)]) rfl (w_free rfl) ⟨g_dep 11 (by kernel_rfl) (at_dep rfl rfl rfl), trivial⟩ (fun w hw => rn_move rfl) (at_top rfl)) ?_
    refine bl_cons 14 rfl (isV undef) (stab_isV _) (rg_no rfl (w_no 23 rfl (by kernel_rfl) (by kernel_rfl) (at_dep rfl rfl rfl) rfl) (at_top rfl)) ?_
    refine bl_cons 15 rfl (isV undef) (stab_isV _) (rg_no rfl (w_no 23 rfl (by kernel_rfl) (by kernel_rfl) (at_dep rfl rfl rfl) rfl) (at_top rfl)) ?_
    refine bl_cons 16 rfl (isV undef) (stab_isV _) (rg_no rfl (w_no 23 rfl (by kernel_rfl) (by kernel_rfl) (at_dep rfl rfl rfl) rfl) (at_top rfl)) ?_
    refine bl_cons 17 rfl (isV undef) (stab_isV _) (rg_no rfl (w_no 23 rfl (by kernel_rfl) (by kernel_rfl) (at_dep rfl rfl rfl) rfl) (at_top rfl)) ?_
    refine bl_cons 18 rfl (isV undef) (stab_isV _) (rg_no rfl (w_no 23 rfl (by kernel_rfl) (by kernel_rfl) (at_dep rfl rfl rfl) rfl) (at_top rfl)) ?_
    refine bl_cons 19 rfl (isV undef) (stab_isV _) (rg_no rfl (w_no 23 rfl (by kernel_rfl) (by kernel_rfl) (at_dep rfl rfl rfl) rfl) (at_top rfl)) ?_
    refine bl_cons 20 rfl (isV undef) (stab_isV _) (rg_no rfl (w_no 23 rfl (by kernel_rfl) (by kernel_rfl) (at_dep rfl rfl rfl) rfl) (at_top rfl)) ?_
    refine bl_cons 21 rfl (isV undef) (stab_isV _) (rg_no rfl (w_no 23 rfl (by kernel_rfl) (by kernel_rfl) (at_dep rfl rfl rfl) rfl) (at_top rfl)) ?_
    refine bl_cons 22 rfl (isV undef) (stab_isV _) (rg_no rfl (w_no 23 rfl (by kernel_rfl) (by kernel_rfl) (at_dep rfl rfl rfl) rfl) (at_top rfl)) ?_
    refine bl_cons 23 rfl (isV undef) (stab_isV _) (rg_no rfl (w_no 23 rfl (by kernel_rfl) (by kernel_rfl) (at_dep rfl rfl rfl) rfl) (at_top rfl)) ?_
    refine bl_cons 24 rfl (isV undef) (stab_isV _) (rg_no rfl (w_no 23 rfl (by kernel_rfl) (by kernel_rfl) (at_dep rfl rfl rfl) rfl) (at_top rfl)) ?_
    refine bl_cons 25 rfl (isV undef) (stab_isV _) (rg_no rfl (w_no 23 rfl (by kernel_rfl) (by kernel_rfl) (at_dep rfl rfl rfl) rfl) (at_top rfl)) ?_
    refine bl_cons 26 rfl (isV undef) (stab_isV _) (rg_no rfl (w_no 23 rfl (by kernel_rfl) (by kernel_rfl) (at_dep rfl rfl rfl) rfl) (at_top rfl)) ?_
    refine bl_cons 27 rfl (isV undef) (stab_isV _) (rg_no rfl (w_no 23 rfl (by kernel_rfl) (by kernel_rfl) (at_dep rfl rfl rfl) rfl) (at_top rfl)) ?_
    refine bl_cons 28 rfl (isV undef) (stab_isV _) (rg_no rfl (w_no 23 rfl (by kernel_rfl) (by kernel_rfl) (at_dep rfl rfl rfl) rfl) (at_top rfl)) ?_
    refine bl_cons 29 rfl (isV _) (stab_isV _) (rgV (li := [(23, _)]) rfl (w_free rfl) ⟨g_dep 12 (by kernel_rfl) (at_dep rfl rfl rfl), trivial⟩ (fun w hw => rn_pickT rfl rfl) (at_top rfl)) ?_
    refine bl_nil ?_
    intro W4 hbR hS'
    clear hS; have hS := hS'; clear hS'
    refine fin_v ?_
    refine fin_v ?_
    refine fin_v ?_
    refine fin_v ?_
    refine fin_v ?_
    refine fin_v ?_
    refine fin_v ?_
    refine fin_v ?_
    refine fin_v ?_
    refine fin_v ?_
    refine fin_v ?_
    refine fin_v ?_
    refine fin_v ?_
    refine fin_v ?_
    refine fin_v ?_
    refine fin_v ?_
    refine fin_v ?_
    refine fin_v ?_
    refine fin_v ?_
    refine fin_v ?_
    refine fin_v ?_
    refine fin_v ?_
    refine fin_v ?_
    refine fin_v ?_
    refine fin_v ?_
    refine fin_v ?_
    refine fin_v ?_
    refine fin_v ?_
    refine fin_v ?_
    refine fin_nil ?_
    refine XF.thenN ?_
    refine condT rfl ?_
    refine seqF ?_
    refine regF ?_
    refine op_assign rfl rfl ?_
    refine endF ?_
    refine XF.thenN ?_
    refine retF ?_
    refine XF.thenR ?_
    refine XF.res (res1 Try.results33 rfl) ?_
    exact ⟨rbool (by unfold stepK; dsimp only; rw [if_neg (by rw [hf]; simp), if_pos hg]), hS.below⟩
  · obtain ⟨kf, ekf, hkf⟩ := inQ_nat hf
    obtain ⟨kt, ekt, hkt⟩ := inQ_nat hg
    obtain ⟨ob, oo, y1, rfl, hy1, hyc1⟩ := ho.get (i := kf) (by omega)
    obtain ⟨ob2, oo2, y2, e2, hy2, hyc2⟩ := ho.get (i := kt) (by omega)
    cases e2
    have k1 := (CellsAt.agree hS.agree (Nat.zero_le _) hyc1).1
    have k2 := (CellsAt.agree hS.agree (Nat.zero_le _) hyc2).1
    have hoe : ofEq os s.f s.t = decide (y1 = y2) := by rw [ekf, ekt]; exact ofEq_at hy1 hy2
    refine regB (m := 29) followsM hS (by kernel_rfl) (by kernel_rfl) rfl ?_
    refine bl_cons 1 rfl (isV _) (stab_isV _) (rgV (li := [(3, _)]) rfl (w_free rfl) ⟨g_fr (by kernel_rfl) rfl, trivial⟩ (fun w hw => rn_loadA (vs := [_, _, _, _, _, _, _, _, _, _]) Try.isAgg81 Try.sizeOf81 rfl (CellsAt.agree (below_agree hw 0) (Nat.zero_le _) (CellsAt.own (j := 0) (m := 10) (hS.at_ 1 rfl) rfl))) (at_top rfl)) ?_
    refine bl_cons 2 rfl (isV _) (stab_isV _) (rgV (li := [(4, _)]) rfl (w_free rfl) ⟨g_fr (by kernel_rfl) rfl, trivial⟩ (fun w hw => rn_field (o' := 0) fa_76_0 rfl rfl) (at_top rfl)) ?_
    refine bl_cons 3 rfl (isV _) (stab_isV _) (rgV (li := [(12, _)]) rfl (w_free rfl) ⟨g_dep 1 (by kernel_rfl) (at_dep rfl rfl rfl), trivial⟩ (fun w hw => rn_load Try.isAgg3 rfl ((below_agree hw 0).cell (Nat.zero_le _) (cell_own (hS.at_ 0 rfl) rfl))) (at_top rfl)) ?_
    refine bl_cons 4 rfl (isV (.bool true)) (stab_isV _) (rg_call [isV _, isV _] rfl goes_32 (w_free rfl) ⟨p_tmp (g_dep 0 (by kernel_rfl) (at_dep rfl rfl rfl)), p_tmp (g_dep 2 (by kernel_rfl) (at_dep rfl rfl rfl)), trivial⟩ (fun vs w' hb hh => by have e := holds_isV (us := [_, _]) hh; subst e; exact (isNode_is ⟨_, vl, vc, _, pl, pc, _, el, ec, es, _, xl, xc, xs, mn, _, ol, oc, os, _, sl, sc, ss, _, tl, tc, ts, _, nl, nc, ns, _, kl, kc, ks⟩ s.f _).mono fun e w2 h => ⟨_, by rw [h.1, hf], rfl, h.2⟩) (at_top rfl)) ?_
    refine bl_cons 5 rfl (isV _) (stab_isV _) (rgV (li := [(14, _)]) rfl (w_free rfl) ⟨g_dep 3 (by kernel_rfl) (at_dep rfl rfl rfl), trivial⟩ (fun w hw => rn_not rfl) (at_top rfl)) ?_
    refine bl_cons 6 rfl (isV _) (stab_isV _) (rgV (li := [(15, _)]) rfl (w_free rfl) ⟨g_dep 4 (by kernel_rfl) (at_dep rfl rfl rfl), trivial⟩ (fun w hw => rn_move rfl) (at_top rfl)) ?_
    refine bl_cons 7 rfl (isV _) (stab_isV _) (rgV (li := [(3, _)]) rfl (w_yes 16 rfl (by kernel_rfl) (by kernel_rfl) (at_dep rfl rfl rfl)) ⟨g_fr (by kernel_rfl) rfl, trivial⟩ (fun w hw => rn_loadA (vs := [_, _, _, _, _, _, _, _, _, _]) Try.isAgg81 Try.sizeOf81 rfl (CellsAt.agree (below_agree hw 0) (Nat.zero_le _) (CellsAt.own (j := 0) (m := 10) (hS.at_ 1 rfl) rfl))) (at_top rfl)) ?_
    refine bl_cons 8 rfl (isV _) (stab_isV _) (rgV (li := [(4, _)]) rfl (w_yes 16 rfl (by kernel_rfl) (by kernel_rfl) (at_dep rfl rfl rfl)) ⟨g_fr (by kernel_rfl) rfl, trivial⟩ (fun w hw => rn_field (o' := 1) fa_76_1 rfl rfl) (at_top rfl)) ?_
    refine bl_cons 9 rfl (isV _) (stab_isV _) (rgV (li := [(18, _)]) rfl (w_yes 16 rfl (by kernel_rfl) (by kernel_rfl) (at_dep rfl rfl rfl)) ⟨g_dep 7 (by kernel_rfl) (at_dep rfl rfl rfl), trivial⟩ (fun w hw => rn_load Try.isAgg3 rfl ((below_agree hw 0).cell (Nat.zero_le _) (cell_own (hS.at_ 0 rfl) rfl))) (at_top rfl)) ?_
    refine bl_cons 10 rfl (isV (.bool true)) (stab_isV _) (rg_call [isV _, isV _] rfl goes_32 (w_yes 16 rfl (by kernel_rfl) (by kernel_rfl) (at_dep rfl rfl rfl)) ⟨p_tmp (g_dep 6 (by kernel_rfl) (at_dep rfl rfl rfl)), p_tmp (g_dep 8 (by kernel_rfl) (at_dep rfl rfl rfl)), trivial⟩ (fun vs w' hb hh => by have e := holds_isV (us := [_, _]) hh; subst e; exact (isNode_is ⟨_, vl, vc, _, pl, pc, _, el, ec, es, _, xl, xc, xs, mn, _, ol, oc, os, _, sl, sc, ss, _, tl, tc, ts, _, nl, nc, ns, _, kl, kc, ks⟩ s.t _).mono fun e w2 h => ⟨_, by rw [h.1, hg], rfl, h.2⟩) (at_top rfl)) ?_
    refine bl_cons 11 rfl (isV _) (stab_isV _) (rgV (li := [(20, _)]) rfl (w_yes 16 rfl (by kernel_rfl) (by kernel_rfl) (at_dep rfl rfl rfl)) ⟨g_dep 9 (by kernel_rfl) (at_dep rfl rfl rfl), trivial⟩ (fun w hw => rn_not rfl) (at_top rfl)) ?_
    refine bl_cons 12 rfl (isV _) (stab_isV _) (rgV (li := [(16, _), (21, _)]) rfl (w_free rfl) ⟨g_dep 5 (by kernel_rfl) (at_dep rfl rfl rfl), g_dep 10 (by kernel_rfl) (at_dep rfl rfl rfl), trivial⟩ (fun w hw => rn_pickF rfl rfl) (at_top rfl)) ?_
    refine bl_cons 13 rfl (isV _) (stab_isV _) (rgV (li := [(22, _)]) rfl (w_free rfl) ⟨g_dep 11 (by kernel_rfl) (at_dep rfl rfl rfl), trivial⟩ (fun w hw => rn_move rfl) (at_top rfl)) ?_
    refine bl_cons 14 rfl (isV _) (stab_isV _) (rgV (li := [(3, _)]) rfl (w_yes 23 rfl (by kernel_rfl) (by kernel_rfl) (at_dep rfl rfl rfl)) ⟨g_fr (by kernel_rfl) rfl, trivial⟩ (fun w hw => rn_field (o' := 0) fa_81_0 rfl rfl) (at_top rfl)) ?_
    refine bl_cons 15 rfl (isV _) (stab_isV _) (rgV (li := [(24, _)]) rfl (w_yes 23 rfl (by kernel_rfl) (by kernel_rfl) (at_dep rfl rfl rfl)) ⟨g_dep 13 (by kernel_rfl) (at_dep rfl rfl rfl), trivial⟩ (fun w hw => rn_field (o' := 5) fa_29_5 rfl rfl) (at_top rfl)) ?_
    refine bl_cons 16 rfl (isV _) (stab_isV _) (rgV (li := [(25, _)]) rfl (w_yes 23 rfl (by kernel_rfl) (by kernel_rfl) (at_dep rfl rfl rfl)) ⟨g_dep 14 (by kernel_rfl) (at_dep rfl rfl rfl), trivial⟩ (fun w hw => rn_load Try.isAgg23 rfl ((below_agree hw 0).cell (Nat.zero_le _) (cell_own (hS.at_ 1 rfl) rfl))) (at_top rfl)) ?_
    refine bl_cons 17 rfl (isV _) (stab_isV _) (rgV (li := [(4, _)]) rfl (w_yes 23 rfl (by kernel_rfl) (by kernel_rfl) (at_dep rfl rfl rfl)) ⟨g_fr (by kernel_rfl) rfl, trivial⟩ (fun w hw => rn_field (o' := 0) fa_76_0 rfl rfl) (at_top rfl)) ?_
    refine bl_cons 18 rfl (isV _) (stab_isV _) (rgV (li := [(27, _)]) rfl (w_yes 23 rfl (by kernel_rfl) (by kernel_rfl) (at_dep rfl rfl rfl)) ⟨g_dep 16 (by kernel_rfl) (at_dep rfl rfl rfl), trivial⟩ (fun w hw => rn_load Try.isAgg3 rfl ((below_agree hw 0).cell (Nat.zero_le _) (cell_own (hS.at_ 0 rfl) rfl))) (at_top rfl)) ?_
    refine bl_cons 19 rfl (isV _) (stab_isV _) (rgV (li := [(26, _), (28, _)]) rfl (w_yes 23 rfl (by kernel_rfl) (by kernel_rfl) (at_dep rfl rfl rfl)) ⟨g_dep 15 (by kernel_rfl) (at_dep rfl rfl rfl), g_dep 17 (by kernel_rfl) (at_dep rfl rfl rfl), trivial⟩ (fun w hw => rn_indexA (j := kf) Try.underlying23 Try.sizeOf3 rfl rfl (by omega) (by omega) rfl) (at_top rfl)) ?_
    refine bl_cons 20 rfl (isV _) (stab_isV _) (rgV (li := [(29, _)]) rfl (w_yes 23 rfl (by kernel_rfl) (by kernel_rfl) (at_dep rfl rfl rfl)) ⟨g_dep 18 (by kernel_rfl) (at_dep rfl rfl rfl), trivial⟩ (fun w hw => rn_load Try.isAgg3 rfl ((below_agree hw 0).cell (Nat.zero_le _) (k1))) (at_top rfl)) ?_
    refine bl_cons 21 rfl (isV _) (stab_isV _) (rgV (li := [(3, _)]) rfl (w_yes 23 rfl (by kernel_rfl) (by kernel_rfl) (at_dep rfl rfl rfl)) ⟨g_fr (by kernel_rfl) rfl, trivial⟩ (fun w hw => rn_field (o' := 0) fa_81_0 rfl rfl) (at_top rfl)) ?_
    refine bl_cons 22 rfl (isV _) (stab_isV _) (rgV (li := [(31, _)]) rfl (w_yes 23 rfl (by kernel_rfl) (by kernel_rfl) (at_dep rfl rfl rfl)) ⟨g_dep 20 (by kernel_rfl) (at_dep rfl rfl rfl), trivial⟩ (fun w hw => rn_field (o' := 5) fa_29_5 rfl rfl) (at_top rfl)) ?_
    refine bl_cons 23 rfl (isV _) (stab_isV _) (rgV (li := [(32, _)]) rfl (w_yes 23 rfl (by kernel_rfl) (by kernel_rfl) (at_dep rfl rfl rfl)) ⟨g_dep 21 (by kernel_rfl) (at_dep rfl rfl rfl), trivial⟩ (fun w hw => rn_load Try.isAgg23 rfl ((below_agree hw 0).cell (Nat.zero_le _) (cell_own (hS.at_ 1 rfl) rfl))) (at_top rfl)) ?_
    refine bl_cons 24 rfl (isV _) (stab_isV _) (rgV (li := [(4, _)]) rfl (w_yes 23 rfl (by kernel_rfl) (by kernel_rfl) (at_dep rfl rfl rfl)) ⟨g_fr (by kernel_rfl) rfl, trivial⟩ (fun w hw => rn_field (o' := 1) fa_76_1 rfl rfl) (at_top rfl)) ?_
    refine bl_cons 25 rfl (isV _) (stab_isV _) (rgV (li := [(34, _)]) rfl (w_yes 23 rfl (by kernel_rfl) (by kernel_rfl) (at_dep rfl rfl rfl)) ⟨g_dep 23 (by kernel_rfl) (at_dep rfl rfl rfl), trivial⟩ (fun w hw => rn_load Try.isAgg3 rfl ((below_agree hw 0).cell (Nat.zero_le _) (cell_own (hS.at_ 0 rfl) rfl))) (at_top rfl)) ?_
    refine bl_cons 26 rfl (isV _) (stab_isV _) (rgV (li := [(33, _), (35, _)]) rfl (w_yes 23 rfl (by kernel_rfl) (by kernel_rfl) (at_dep rfl rfl rfl)) ⟨g_dep 22 (by kernel_rfl) (at_dep rfl rfl rfl), g_dep 24 (by kernel_rfl) (at_dep rfl rfl rfl), trivial⟩ (fun w hw => rn_indexA (j := kt) Try.underlying23 Try.sizeOf3 rfl rfl (by omega) (by omega) rfl) (at_top rfl)) ?_
    refine bl_cons 27 rfl (isV _) (stab_isV _) (rgV (li := [(36, _)]) rfl (w_yes 23 rfl (by kernel_rfl) (by kernel_rfl) (at_dep rfl rfl rfl)) ⟨g_dep 25 (by kernel_rfl) (at_dep rfl rfl rfl), trivial⟩ (fun w hw => rn_load Try.isAgg3 rfl ((below_agree hw 0).cell (Nat.zero_le _) (k2))) (at_top rfl)) ?_
    refine bl_cons 28 rfl (isV _) (stab_isV _) (rgV (li := [(30, _), (37, _)]) rfl (w_yes 23 rfl (by kernel_rfl) (by kernel_rfl) (at_dep rfl rfl rfl)) ⟨g_dep 19 (by kernel_rfl) (at_dep rfl rfl rfl), g_dep 26 (by kernel_rfl) (at_dep rfl rfl rfl), trivial⟩ (fun w hw => rn_neq rfl rfl) (at_top rfl)) ?_
    refine bl_cons 29 rfl (isV _) (stab_isV _) (rgV (li := [(23, _), (38, _)]) rfl (w_free rfl) ⟨g_dep 12 (by kernel_rfl) (at_dep rfl rfl rfl), g_dep 27 (by kernel_rfl) (at_dep rfl rfl rfl), trivial⟩ (fun w hw => rn_pickF rfl rfl) (at_top rfl)) ?_
    refine bl_nil ?_
    intro W5 hbR hS'
    clear hS; have hS := hS'; clear hS'
    refine fin_v ?_
    refine fin_v ?_
    refine fin_v ?_
    refine fin_v ?_
    refine fin_v ?_
    refine fin_v ?_
    refine fin_v ?_
    refine fin_v ?_
    refine fin_v ?_
    refine fin_v ?_
    refine fin_v ?_
    refine fin_v ?_
    refine fin_v ?_
    refine fin_v ?_
    refine fin_v ?_
    refine fin_v ?_
    refine fin_v ?_
    refine fin_v ?_
    refine fin_v ?_
    refine fin_v ?_
    refine fin_v ?_
    refine fin_v ?_
    refine fin_v ?_
    refine fin_v ?_
    refine fin_v ?_
    refine fin_v ?_
    refine fin_v ?_
    refine fin_v ?_
    refine fin_v ?_
    refine fin_nil ?_
    refine XF.thenN ?_
    refine condF rfl (fun hc => ?_) (fun hc => ?_)
    · have hc39 := hc; clear hc
      refine seqF ?_
      refine regF ?_
      refine op_assign rfl rfl ?_
      refine endF ?_
      refine XF.thenN ?_
      refine retF ?_
      refine XF.thenR ?_
      refine XF.res (res1 Try.results33 rfl) ?_
      have hne := of_decide_eq_true hc39
      exact ⟨rbool (by unfold stepK; dsimp only; rw [if_neg (by rw [hf]; simp), if_neg (by rw [hg]; simp), if_pos (by rw [hoe]; exact decide_eq_false hne)]), hS.below⟩
    · have hc39 := hc; clear hc
      have hee : y1 = y2 := Decidable.of_not_not (of_decide_eq_false hc39)
      have hkk : stepK ⟨va, vl, vc, pa, pl, pc, ea, el, ec, es, xa, xl, xc, xs, mn, some ⟨ob, oo, none⟩, ol, oc, os, sa, sl, sc, ss, ta, tl, tc, ts, na, nl, nc, ns, ka, kl, kc, ks⟩ s n = kindB ⟨va, vl, vc, pa, pl, pc, ea, el, ec, es, xa, xl, xc, xs, mn, some ⟨ob, oo, none⟩, ol, oc, os, sa, sl, sc, ss, ta, tl, tc, ts, na, nl, nc, ns, ka, kl, kc, ks⟩ s n := by unfold stepK; dsimp only; rw [if_neg (by rw [hf]; simp), if_neg (by rw [hg]; simp), if_neg (by rw [hoe, hee]; simp)]
      refine skipF ?_
      refine XF.thenN ?_
      refine seqF ?_
      refine regB (m := 16) followsM hS (by kernel_rfl) (by kernel_rfl) rfl ?_
      refine bl_cons 1 rfl (isV _) (stab_isV _) (rgV (li := [(4, _)]) rfl (w_free rfl) ⟨g_fr (by kernel_rfl) rfl, trivial⟩ (fun w hw => rn_field (o' := 3) fa_76_3 rfl rfl) (at_top rfl)) ?_
      refine bl_cons 2 rfl (isV _) (stab_isV _) (rgV (li := [(40, _)]) rfl (w_free rfl) ⟨g_dep 0 (by kernel_rfl) (at_dep rfl rfl rfl), trivial⟩ (fun w hw => rn_load Try.isAgg3 rfl ((below_agree hw 0).cell (Nat.zero_le _) (cell_own (hS.at_ 0 rfl) rfl))) (at_top rfl)) ?_
      refine bl_cons 3 rfl (isV _) (stab_isV _) (rgV (li := [(41, _)]) rfl (w_free rfl) ⟨g_dep 1 (by kernel_rfl) (at_dep rfl rfl rfl), trivial⟩ (fun w hw => rn_eql rfl rfl) (at_top rfl)) ?_
      refine bl_cons 4 rfl (isV _) (stab_isV _) (rgV (li := [(4, _)]) rfl (w_free rfl) ⟨g_fr (by kernel_rfl) rfl, trivial⟩ (fun w hw => rn_field (o' := 4) fa_76_4 rfl rfl) (at_top rfl)) ?_
      refine bl_cons 5 rfl (isV _) (stab_isV _) (rgV (li := [(43, _)]) rfl (w_free rfl) ⟨g_dep 3 (by kernel_rfl) (at_dep rfl rfl rfl), trivial⟩ (fun w hw => rn_load Try.isAgg3 rfl ((below_agree hw 0).cell (Nat.zero_le _) (cell_own (hS.at_ 0 rfl) rfl))) (at_top rfl)) ?_
      refine bl_cons 6 rfl (isV _) (stab_isV _) (rgV (li := [(44, _)]) rfl (w_free rfl) ⟨g_dep 4 (by kernel_rfl) (at_dep rfl rfl rfl), trivial⟩ (fun w hw => rn_eql rfl rfl) (at_top rfl)) ?_
      refine bl_cons 7 rfl (isV _) (stab_isV _) (rgV (li := [(4, _)]) rfl (w_free rfl) ⟨g_fr (by kernel_rfl) rfl, trivial⟩ (fun w hw => rn_field (o' := 5) fa_76_5 rfl rfl) (at_top rfl)) ?_
      refine bl_cons 8 rfl (isV _) (stab_isV _) (rgV (li := [(46, _)]) rfl (w_free rfl) ⟨g_dep 6 (by kernel_rfl) (at_dep rfl rfl rfl), trivial⟩ (fun w hw => rn_load Try.isAgg2 rfl ((below_agree hw 0).cell (Nat.zero_le _) (cell_own (hS.at_ 0 rfl) rfl))) (at_top rfl)) ?_
      refine bl_cons 9 rfl (isV _) (stab_isV _) (rgV (li := [(47, _)]) rfl (w_free rfl) ⟨g_dep 7 (by kernel_rfl) (at_dep rfl rfl rfl), trivial⟩ (fun w hw => rn_eql rfl rfl) (at_top rfl)) ?_
      refine bl_cons 10 rfl (isV _) (stab_isV _) (rgV (li := [(4, _)]) rfl (w_free rfl) ⟨g_fr (by kernel_rfl) rfl, trivial⟩ (fun w hw => rn_field (o' := 6) fa_76_6 rfl rfl) (at_top rfl)) ?_
      refine bl_cons 11 rfl (isV _) (stab_isV _) (rgV (li := [(49, _)]) rfl (w_free rfl) ⟨g_dep 9 (by kernel_rfl) (at_dep rfl rfl rfl), trivial⟩ (fun w hw => rn_load Try.isAgg3 rfl ((below_agree hw 0).cell (Nat.zero_le _) (cell_own (hS.at_ 0 rfl) rfl))) (at_top rfl)) ?_
      refine bl_cons 12 rfl (isV _) (stab_isV _) (rgV (li := [(50, _)]) rfl (w_free rfl) ⟨g_dep 10 (by kernel_rfl) (at_dep rfl rfl rfl), trivial⟩ (fun w hw => rn_eql rfl rfl) (at_top rfl)) ?_
      refine bl_cons 13 rfl (isV _) (stab_isV _) (rgV (li := [(42, _)]) rfl (w_free rfl) ⟨g_dep 2 (by kernel_rfl) (at_dep rfl rfl rfl), trivial⟩ (fun w hw => rn_assign rfl) (at_top rfl)) ?_
      refine bl_cons 14 rfl (isV _) (stab_isV _) (rgV (li := [(45, _)]) rfl (w_free rfl) ⟨g_dep 5 (by kernel_rfl) (at_dep rfl rfl rfl), trivial⟩ (fun w hw => rn_assign rfl) (at_top rfl)) ?_
      refine bl_cons 15 rfl (isV _) (stab_isV _) (rgV (li := [(48, _)]) rfl (w_free rfl) ⟨g_dep 8 (by kernel_rfl) (at_dep rfl rfl rfl), trivial⟩ (fun w hw => rn_assign rfl) (at_top rfl)) ?_
      refine bl_cons 16 rfl (isV _) (stab_isV _) (rgV (li := [(51, _)]) rfl (w_free rfl) ⟨g_dep 11 (by kernel_rfl) (at_dep rfl rfl rfl), trivial⟩ (fun w hw => rn_assign rfl) (at_top rfl)) ?_
      refine bl_nil ?_
      intro W6 hbR hS'
      clear hS; have hS := hS'; clear hS'
      refine fin_v ?_
      refine fin_v ?_
      refine fin_v ?_
      refine fin_v ?_
      refine fin_v ?_
      refine fin_v ?_
      refine fin_v ?_
      refine fin_v ?_
      refine fin_v ?_
      refine fin_v ?_
      refine fin_v ?_
      refine fin_v ?_
      refine fin_v ?_
      refine fin_v ?_
      refine fin_v ?_
      refine fin_v ?_
      refine fin_nil ?_
      refine XF.thenN ?_
      refine joinF (fun l W => ∃ bx by_ bk bs : Bool, l = [(7, .bool bx), (8, .bool by_), (9, .bool bk), (10, .bool bs)] ∧ (bx && (by_ && (bk && bs))) = kindB ⟨va, vl, vc, pa, pl, pc, ea, el, ec, es, xa, xl, xc, xs, mn, some ⟨ob, oo, none⟩, ol, oc, os, sa, sl, sc, ss, ta, tl, tc, ts, na, nl, nc, ns, ka, kl, kc, ks⟩ s n ∧ St w [] [] [] W) ?_ ?_
      · clear hS
        rintro _ W ⟨bx, by_, bk, bs, rfl, hkb, hS⟩
        refine seqF ?_
        refine regF ?_
        refine op_move rfl rfl ?_
        refine op_move rfl rfl ?_
        refine op_cases (d := 115) rfl (fun hc => ?_) (fun hc => ?_)
        · have hg115 := hc; clear hc
          subst hg115
          refine op_wantedF (d := 115) rfl rfl ?_
          refine op_move rfl rfl ?_
          refine op_pickT rfl rfl rfl ?_
          refine op_move rfl rfl ?_
          refine op_cases (d := 118) rfl (fun hc => ?_) (fun hc => ?_)
          · have hg118 := hc; clear hc
            subst hg118
            refine op_wantedF (d := 118) rfl rfl ?_
            refine op_move rfl rfl ?_
            refine op_pickT rfl rfl rfl ?_
            refine op_move rfl rfl ?_
            refine op_cases (d := 121) rfl (fun hc => ?_) (fun hc => ?_)
            · have hg121 := hc; clear hc
              subst hg121
              refine op_wantedF (d := 121) rfl rfl ?_
              refine op_move rfl rfl ?_
              refine op_pickT rfl rfl rfl ?_
              refine op_assign rfl rfl ?_
              refine endF ?_
              refine XF.thenN ?_
              refine retF ?_
              refine XF.res (res1 Try.results33 rfl) ?_
              exact ⟨rbool (by rw [hkk, ← hkb]; rfl), hS.below⟩
            · have hg121 := hc; clear hc
              subst hg121
              refine op_notF (d := 121) rfl rfl rfl rfl ?_
              refine op_pickF rfl rfl rfl ?_
              refine op_assign rfl rfl ?_
              refine endF ?_
              refine XF.thenN ?_
              refine retF ?_
              refine XF.res (res1 Try.results33 rfl) ?_
              exact ⟨rbool (by rw [hkk, ← hkb]; rfl), hS.below⟩
          · have hg118 := hc; clear hc
            subst hg118
            refine op_notF (d := 118) rfl rfl rfl rfl ?_
            refine op_pickF rfl rfl rfl ?_
            refine op_move rfl rfl ?_
            refine op_notF (d := 121) rfl rfl rfl rfl ?_
            refine op_pickF rfl rfl rfl ?_
            refine op_assign rfl rfl ?_
            refine endF ?_
            refine XF.thenN ?_
            refine retF ?_
            refine XF.res (res1 Try.results33 rfl) ?_
            exact ⟨rbool (by rw [hkk, ← hkb]; rfl), hS.below⟩
        · have hg115 := hc; clear hc
          subst hg115
          refine op_notF (d := 115) rfl rfl rfl rfl ?_
          refine op_pickF rfl rfl rfl ?_
          refine op_move rfl rfl ?_
          refine op_notF (d := 118) rfl rfl rfl rfl ?_
          refine op_pickF rfl rfl rfl ?_
          refine op_move rfl rfl ?_
          refine op_notF (d := 121) rfl rfl rfl rfl ?_
          refine op_pickF rfl rfl rfl ?_
          refine op_assign rfl rfl ?_
          refine endF ?_
          refine XF.thenN ?_
          refine retF ?_
          refine XF.res (res1 Try.results33 rfl) ?_
          exact ⟨rbool (by rw [hkk, ← hkb]; rfl), hS.below⟩
      · skip
        refine seqF ?_
        refine regF ?_
        refine op_field (o' := 2) fa_76_2 rfl rfl rfl ?_
        refine op_load Try.isAgg74 rfl (cell_own (hS.at_ 0 rfl) rfl) rfl ?_
        refine endF ?_
        refine XF.thenN ?_
        refine blockF ?_
        refine seqF ?_
        refine blockF ?_
        refine seqF ?_
        refine blockF ?_
        refine seqF ?_
        refine blockF ?_
        refine seqF ?_
        refine blockF ?_
        refine seqF ?_
        refine blockF ?_
        refine seqF ?_
        refine blockF ?_
        refine seqF ?_
        refine seqF ?_
        refine seqF ?_
        refine regF ?_
        refine op_eql rfl rfl rfl ?_
        refine op_assign rfl rfl ?_
        refine endF ?_
        refine XF.thenN ?_
        refine condF rfl (fun hc => ?_) (fun hc => ?_)
        · have hc54 := of_decide_eq_true hc; clear hc
          have h1 : s.k = 1 := hc54
          refine exitF ?_
          refine XF.thenX ?_
          refine XF.thenX ?_
          refine XF.blkX ?_
          refine XF.thenN ?_
          refine exitF ?_
          refine XF.blkO rfl ?_
          refine XF.thenX ?_
          refine XF.blkO rfl ?_
          refine XF.thenX ?_
          refine XF.blkO rfl ?_
          refine XF.thenX ?_
          refine XF.blkO rfl ?_
          refine XF.thenX ?_
          refine XF.blkO rfl ?_
          refine XF.thenX ?_
          refine XF.blkX ?_
          exact XF.join [(7, .bool (decide (s.x = 0))), (8, .bool (decide (s.y = 0))), (9, .bool (decide (s.kk = 0))), (10, .bool (decide (s.s = 0)))] ⟨rfl, rfl, rfl, rfl, trivial⟩ ⟨_, _, _, _, rfl, by unfold kindB; rw [if_pos h1], hS.tail.tail.clear⟩
        · have hc54 := of_decide_eq_false hc; clear hc
          have n1 : ¬ s.k = 1 := hc54
          refine skipF ?_
          refine XF.thenN ?_
          refine seqF ?_
          refine seqF ?_
          refine regF ?_
          refine op_eql rfl rfl rfl ?_
          refine op_assign rfl rfl ?_
          refine endF ?_
          refine XF.thenN ?_
          refine condF rfl (fun hc => ?_) (fun hc => ?_)
          · have hc56 := of_decide_eq_true hc; clear hc
            have h8 : s.k = 8 := hc56
            refine exitF ?_
            refine XF.thenX ?_
            refine XF.thenX ?_
            refine XF.blkO rfl ?_
            refine XF.thenX ?_
            refine XF.blkX ?_
            refine XF.thenN ?_
            refine seqF ?_
            rcases (site_cases (ts := ts) s n) with hsn | ⟨hsn, hnt⟩ | ⟨hsn, hnt, u0, hu0, hfr⟩ | ⟨hsn, hnt, u0, hu0, hfr⟩
            · have hsc : siteC ts s n = false := by unfold siteC; rw [decide_eq_false hsn]; rfl
              refine regB (m := 37) followsM hS (by kernel_rfl) (by kernel_rfl) rfl ?_
              refine bl_cons 1 rfl (isV _) (stab_isV _) (rgV (li := [(4, _)]) rfl (w_free rfl) ⟨g_fr (by kernel_rfl) rfl, trivial⟩ (fun w hw => rn_field (o' := 6) fa_76_6 rfl rfl) (at_top rfl)) ?_
              refine bl_cons 2 rfl (isV _) (stab_isV _) (rgV (li := [(66, _)]) rfl (w_free rfl) ⟨g_dep 0 (by kernel_rfl) (at_dep rfl rfl rfl), trivial⟩ (fun w hw => rn_load Try.isAgg3 rfl ((below_agree hw 0).cell (Nat.zero_le _) (cell_own (hS.at_ 0 rfl) rfl))) (at_top rfl)) ?_
              refine bl_cons 3 rfl (isV _) (stab_isV _) (rgV (li := [(2, _)]) rfl (w_free rfl) ⟨g_fr (by kernel_rfl) rfl, trivial⟩ (fun w hw => rn_move rfl) (at_top rfl)) ?_
              refine bl_cons 4 rfl (isV (.bool false)) (stab_isV _) (rgVe (li := [(67, _), (68, _)]) rfl (w_free rfl) ⟨g_dep 1 (by kernel_rfl) (at_dep rfl rfl rfl), g_dep 2 (by kernel_rfl) (at_dep rfl rfl rfl), trivial⟩ (fun w hw => rn_eql rfl rfl) (by rw [decide_eq_false hsn]) (at_top rfl)) ?_
              refine bl_cons 5 rfl (isV _) (stab_isV _) (rgV (li := [(69, _)]) rfl (w_free rfl) ⟨g_dep 3 (by kernel_rfl) (at_dep rfl rfl rfl), trivial⟩ (fun w hw => rn_move rfl) (at_top rfl)) ?_
              refine bl_cons 6 rfl (isV undef) (stab_isV _) (rg_no rfl (w_no 70 rfl (by kernel_rfl) (by kernel_rfl) (at_dep rfl rfl rfl) rfl) (at_top rfl)) ?_
              refine bl_cons 7 rfl (isV undef) (stab_isV _) (rg_no rfl (w_no 70 rfl (by kernel_rfl) (by kernel_rfl) (at_dep rfl rfl rfl) rfl) (at_top rfl)) ?_
              refine bl_cons 8 rfl (isV undef) (stab_isV _) (rg_no rfl (w_no 70 rfl (by kernel_rfl) (by kernel_rfl) (at_dep rfl rfl rfl) rfl) (at_top rfl)) ?_
              refine bl_cons 9 rfl (isV undef) (stab_isV _) (rg_no rfl (w_no 70 rfl (by kernel_rfl) (by kernel_rfl) (at_dep rfl rfl rfl) rfl) (at_top rfl)) ?_
              refine bl_cons 10 rfl (isV undef) (stab_isV _) (rg_no rfl (w_no 70 rfl (by kernel_rfl) (by kernel_rfl) (at_dep rfl rfl rfl) rfl) (at_top rfl)) ?_
              refine bl_cons 11 rfl (isV undef) (stab_isV _) (rg_no rfl (w_no 70 rfl (by kernel_rfl) (by kernel_rfl) (at_dep rfl rfl rfl) rfl) (at_top rfl)) ?_
              refine bl_cons 12 rfl (isV _) (stab_isV _) (rgV (li := [(70, _)]) rfl (w_free rfl) ⟨g_dep 4 (by kernel_rfl) (at_dep rfl rfl rfl), trivial⟩ (fun w hw => rn_pickF rfl rfl) (at_top rfl)) ?_
              refine bl_cons 13 rfl (isV _) (stab_isV _) (rgV (li := [(77, _)]) rfl (w_free rfl) ⟨g_dep 11 (by kernel_rfl) (at_dep rfl rfl rfl), trivial⟩ (fun w hw => rn_move rfl) (at_top rfl)) ?_
              refine bl_cons 14 rfl (isV undef) (stab_isV _) (rg_no rfl (w_no 78 rfl (by kernel_rfl) (by kernel_rfl) (at_dep rfl rfl rfl) rfl) (at_top rfl)) ?_
              refine bl_cons 15 rfl (isV undef) (stab_isV _) (rg_no rfl (w_no 78 rfl (by kernel_rfl) (by kernel_rfl) (at_dep rfl rfl rfl) rfl) (at_top rfl)) ?_
              refine bl_cons 16 rfl (isV undef) (stab_isV _) (rg_no rfl (w_no 78 rfl (by kernel_rfl) (by kernel_rfl) (at_dep rfl rfl rfl) rfl) (at_top rfl)) ?_
              refine bl_cons 17 rfl (isV undef) (stab_isV _) (rg_no rfl (w_no 78 rfl (by kernel_rfl) (by kernel_rfl) (at_dep rfl rfl rfl) rfl) (at_top rfl)) ?_
              refine bl_cons 18 rfl (isV undef) (stab_isV _) (rg_no rfl (w_no 78 rfl (by kernel_rfl) (by kernel_rfl) (at_dep rfl rfl rfl) rfl) (at_top rfl)) ?_
              refine bl_cons 19 rfl (isV undef) (stab_isV _) (rg_no rfl (w_no 78 rfl (by kernel_rfl) (by kernel_rfl) (at_dep rfl rfl rfl) rfl) (at_top rfl)) ?_
              refine bl_cons 20 rfl (isV undef) (stab_isV _) (rg_no rfl (w_no 78 rfl (by kernel_rfl) (by kernel_rfl) (at_dep rfl rfl rfl) rfl) (at_top rfl)) ?_
              refine bl_cons 21 rfl (isV undef) (stab_isV _) (rg_no rfl (w_no 78 rfl (by kernel_rfl) (by kernel_rfl) (at_dep rfl rfl rfl) rfl) (at_top rfl)) ?_
              refine bl_cons 22 rfl (isV undef) (stab_isV _) (rg_no rfl (w_no 78 rfl (by kernel_rfl) (by kernel_rfl) (at_dep rfl rfl rfl) rfl) (at_top rfl)) ?_
              refine bl_cons 23 rfl (isV undef) (stab_isV _) (rg_no rfl (w_no 78 rfl (by kernel_rfl) (by kernel_rfl) (at_dep rfl rfl rfl) rfl) (at_top rfl)) ?_
              refine bl_cons 24 rfl (isV _) (stab_isV _) (rgV (li := [(78, _)]) rfl (w_free rfl) ⟨g_dep 12 (by kernel_rfl) (at_dep rfl rfl rfl), trivial⟩ (fun w hw => rn_pickF rfl rfl) (at_top rfl)) ?_
              refine bl_cons 25 rfl (isV _) (stab_isV _) (rgV (li := [(89, _)]) rfl (w_free rfl) ⟨g_dep 23 (by kernel_rfl) (at_dep rfl rfl rfl), trivial⟩ (fun w hw => rn_move rfl) (at_top rfl)) ?_
              refine bl_cons 26 rfl (isV undef) (stab_isV _) (rg_no rfl (w_no 90 rfl (by kernel_rfl) (by kernel_rfl) (at_dep rfl rfl rfl) rfl) (at_top rfl)) ?_
              refine bl_cons 27 rfl (isV undef) (stab_isV _) (rg_no rfl (w_no 90 rfl (by kernel_rfl) (by kernel_rfl) (at_dep rfl rfl rfl) rfl) (at_top rfl)) ?_
              refine bl_cons 28 rfl (isV undef) (stab_isV _) (rg_no rfl (w_no 90 rfl (by kernel_rfl) (by kernel_rfl) (at_dep rfl rfl rfl) rfl) (at_top rfl)) ?_
              refine bl_cons 29 rfl (isV undef) (stab_isV _) (rg_no rfl (w_no 90 rfl (by kernel_rfl) (by kernel_rfl) (at_dep rfl rfl rfl) rfl) (at_top rfl)) ?_
              refine bl_cons 30 rfl (isV undef) (stab_isV _) (rg_no rfl (w_no 90 rfl (by kernel_rfl) (by kernel_rfl) (at_dep rfl rfl rfl) rfl) (at_top rfl)) ?_
              refine bl_cons 31 rfl (isV undef) (stab_isV _) (rg_no rfl (w_no 90 rfl (by kernel_rfl) (by kernel_rfl) (at_dep rfl rfl rfl) rfl) (at_top rfl)) ?_
              refine bl_cons 32 rfl (isV undef) (stab_isV _) (rg_no rfl (w_no 90 rfl (by kernel_rfl) (by kernel_rfl) (at_dep rfl rfl rfl) rfl) (at_top rfl)) ?_
              refine bl_cons 33 rfl (isV undef) (stab_isV _) (rg_no rfl (w_no 90 rfl (by kernel_rfl) (by kernel_rfl) (at_dep rfl rfl rfl) rfl) (at_top rfl)) ?_
              refine bl_cons 34 rfl (isV undef) (stab_isV _) (rg_no rfl (w_no 90 rfl (by kernel_rfl) (by kernel_rfl) (at_dep rfl rfl rfl) rfl) (at_top rfl)) ?_
              refine bl_cons 35 rfl (isV undef) (stab_isV _) (rg_no rfl (w_no 90 rfl (by kernel_rfl) (by kernel_rfl) (at_dep rfl rfl rfl) rfl) (at_top rfl)) ?_
              refine bl_cons 36 rfl (isV _) (stab_isV _) (rgV (li := [(90, _)]) rfl (w_free rfl) ⟨g_dep 24 (by kernel_rfl) (at_dep rfl rfl rfl), trivial⟩ (fun w hw => rn_pickF rfl rfl) (at_top rfl)) ?_
              refine bl_cons 37 rfl (isV _) (stab_isV _) (rgV (li := [(101, _)]) rfl (w_free rfl) ⟨g_dep 35 (by kernel_rfl) (at_dep rfl rfl rfl), trivial⟩ (fun w hw => rn_assign rfl) (at_top rfl)) ?_
              refine bl_nil ?_
              intro W7 hbR hS'
              clear hS; have hS := hS'; clear hS'
              refine fin_v ?_
              refine fin_v ?_
              refine fin_v ?_
              refine fin_v ?_
              refine fin_v ?_
              refine fin_v ?_
              refine fin_v ?_
              refine fin_v ?_
              refine fin_v ?_
              refine fin_v ?_
              refine fin_v ?_
              refine fin_v ?_
              refine fin_v ?_
              refine fin_v ?_
              refine fin_v ?_
              refine fin_v ?_
              refine fin_v ?_
              refine fin_v ?_
              refine fin_v ?_
              refine fin_v ?_
              refine fin_v ?_
              refine fin_v ?_
              refine fin_v ?_
              refine fin_v ?_
              refine fin_v ?_
              refine fin_v ?_
              refine fin_v ?_
              refine fin_v ?_
              refine fin_v ?_
              refine fin_v ?_
              refine fin_v ?_
              refine fin_v ?_
              refine fin_v ?_
              refine fin_v ?_
              refine fin_v ?_
              refine fin_v ?_
              refine fin_v ?_
              refine fin_nil ?_
              refine XF.thenN ?_
              refine exitF ?_
              refine XF.blkO rfl ?_
              refine XF.thenX ?_
              refine XF.blkO rfl ?_
              refine XF.thenX ?_
              refine XF.blkO rfl ?_
              refine XF.thenX ?_
              refine XF.blkO rfl ?_
              refine XF.thenX ?_
              refine XF.blkX ?_
              exact XF.join [(7, .bool (decide (s.x = 0))), (8, .bool (decide (s.y = 0))), (9, .bool (decide (s.kk = 0))), (10, .bool (false))] ⟨rfl, rfl, rfl, rfl, trivial⟩ ⟨_, _, _, _, rfl, by unfold kindB; rw [if_neg n1, if_pos h8, hsc], hS.tail.tail.clear⟩
            · have hsc : siteC ts s n = false := siteC_out (by omega)
              refine regB (m := 37) followsM hS (by kernel_rfl) (by kernel_rfl) rfl ?_
              refine bl_cons 1 rfl (isV _) (stab_isV _) (rgV (li := [(4, _)]) rfl (w_free rfl) ⟨g_fr (by kernel_rfl) rfl, trivial⟩ (fun w hw => rn_field (o' := 6) fa_76_6 rfl rfl) (at_top rfl)) ?_
              refine bl_cons 2 rfl (isV _) (stab_isV _) (rgV (li := [(66, _)]) rfl (w_free rfl) ⟨g_dep 0 (by kernel_rfl) (at_dep rfl rfl rfl), trivial⟩ (fun w hw => rn_load Try.isAgg3 rfl ((below_agree hw 0).cell (Nat.zero_le _) (cell_own (hS.at_ 0 rfl) rfl))) (at_top rfl)) ?_
              refine bl_cons 3 rfl (isV _) (stab_isV _) (rgV (li := [(2, _)]) rfl (w_free rfl) ⟨g_fr (by kernel_rfl) rfl, trivial⟩ (fun w hw => rn_move rfl) (at_top rfl)) ?_
              refine bl_cons 4 rfl (isV (.bool true)) (stab_isV _) (rgVe (li := [(67, _), (68, _)]) rfl (w_free rfl) ⟨g_dep 1 (by kernel_rfl) (at_dep rfl rfl rfl), g_dep 2 (by kernel_rfl) (at_dep rfl rfl rfl), trivial⟩ (fun w hw => rn_eql rfl rfl) (by rw [decide_eq_true hsn]) (at_top rfl)) ?_
              refine bl_cons 5 rfl (isV _) (stab_isV _) (rgV (li := [(69, _)]) rfl (w_free rfl) ⟨g_dep 3 (by kernel_rfl) (at_dep rfl rfl rfl), trivial⟩ (fun w hw => rn_move rfl) (at_top rfl)) ?_
              refine bl_cons 6 rfl (isV _) (stab_isV _) (rgV (li := [(2, _)]) rfl (w_yes 70 rfl (by kernel_rfl) (by kernel_rfl) (at_dep rfl rfl rfl)) ⟨g_fr (by kernel_rfl) rfl, trivial⟩ (fun w hw => rn_move rfl) (at_top rfl)) ?_
              refine bl_cons 7 rfl (isV _) (stab_isV _) (rgV (li := [(3, _)]) rfl (w_yes 70 rfl (by kernel_rfl) (by kernel_rfl) (at_dep rfl rfl rfl)) ⟨g_fr (by kernel_rfl) rfl, trivial⟩ (fun w hw => rn_field (o' := 0) fa_81_0 rfl rfl) (at_top rfl)) ?_
              refine bl_cons 8 rfl (isV _) (stab_isV _) (rgV (li := [(72, _)]) rfl (w_yes 70 rfl (by kernel_rfl) (by kernel_rfl) (at_dep rfl rfl rfl)) ⟨g_dep 6 (by kernel_rfl) (at_dep rfl rfl rfl), trivial⟩ (fun w hw => rn_field (o' := 7) fa_29_7 rfl rfl) (at_top rfl)) ?_
              refine bl_cons 9 rfl (isV _) (stab_isV _) (rgV (li := [(73, _)]) rfl (w_yes 70 rfl (by kernel_rfl) (by kernel_rfl) (at_dep rfl rfl rfl)) ⟨g_dep 7 (by kernel_rfl) (at_dep rfl rfl rfl), trivial⟩ (fun w hw => rn_load Try.isAgg25 rfl ((below_agree hw 0).cell (Nat.zero_le _) (cell_own (hS.at_ 1 rfl) rfl))) (at_top rfl)) ?_
              refine bl_cons 10 rfl (isV _) (stab_isV _) (rgV (li := [(74, _)]) rfl (w_yes 70 rfl (by kernel_rfl) (by kernel_rfl) (at_dep rfl rfl rfl)) ⟨g_dep 8 (by kernel_rfl) (at_dep rfl rfl rfl), trivial⟩ (fun w hw => rn_len Try.underlying25 rfl) (at_top rfl)) ?_
              refine bl_cons 11 rfl (isV (.bool false)) (stab_isV _) (rgVe (li := [(71, _), (75, _)]) rfl (w_yes 70 rfl (by kernel_rfl) (by kernel_rfl) (at_dep rfl rfl rfl)) ⟨g_dep 5 (by kernel_rfl) (at_dep rfl rfl rfl), g_dep 9 (by kernel_rfl) (at_dep rfl rfl rfl), trivial⟩ (fun w hw => rn_lss rfl rfl) (by rw [decide_eq_false (by omega)]) (at_top rfl)) ?_
              refine bl_cons 12 rfl (isV _) (stab_isV _) (rgV (li := [(70, _), (76, _)]) rfl (w_free rfl) ⟨g_dep 4 (by kernel_rfl) (at_dep rfl rfl rfl), g_dep 10 (by kernel_rfl) (at_dep rfl rfl rfl), trivial⟩ (fun w hw => rn_pickT rfl rfl) (at_top rfl)) ?_
              refine bl_cons 13 rfl (isV _) (stab_isV _) (rgV (li := [(77, _)]) rfl (w_free rfl) ⟨g_dep 11 (by kernel_rfl) (at_dep rfl rfl rfl), trivial⟩ (fun w hw => rn_move rfl) (at_top rfl)) ?_
              refine bl_cons 14 rfl (isV undef) (stab_isV _) (rg_no rfl (w_no 78 rfl (by kernel_rfl) (by kernel_rfl) (at_dep rfl rfl rfl) rfl) (at_top rfl)) ?_
              refine bl_cons 15 rfl (isV undef) (stab_isV _) (rg_no rfl (w_no 78 rfl (by kernel_rfl) (by kernel_rfl) (at_dep rfl rfl rfl) rfl) (at_top rfl)) ?_
              refine bl_cons 16 rfl (isV undef) (stab_isV _) (rg_no rfl (w_no 78 rfl (by kernel_rfl) (by kernel_rfl) (at_dep rfl rfl rfl) rfl) (at_top rfl)) ?_
              refine bl_cons 17 rfl (isV undef) (stab_isV _) (rg_no rfl (w_no 78 rfl (by kernel_rfl) (by kernel_rfl) (at_dep rfl rfl rfl) rfl) (at_top rfl)) ?_
              refine bl_cons 18 rfl (isV undef) (stab_isV _) (rg_no rfl (w_no 78 rfl (by kernel_rfl) (by kernel_rfl) (at_dep rfl rfl rfl) rfl) (at_top rfl)) ?_
              refine bl_cons 19 rfl (isV undef) (stab_isV _) (rg_no rfl (w_no 78 rfl (by kernel_rfl) (by kernel_rfl) (at_dep rfl rfl rfl) rfl) (at_top rfl)) ?_
              refine bl_cons 20 rfl (isV undef) (stab_isV _) (rg_no rfl (w_no 78 rfl (by kernel_rfl) (by kernel_rfl) (at_dep rfl rfl rfl) rfl) (at_top rfl)) ?_
              refine bl_cons 21 rfl (isV undef) (stab_isV _) (rg_no rfl (w_no 78 rfl (by kernel_rfl) (by kernel_rfl) (at_dep rfl rfl rfl) rfl) (at_top rfl)) ?_
              refine bl_cons 22 rfl (isV undef) (stab_isV _) (rg_no rfl (w_no 78 rfl (by kernel_rfl) (by kernel_rfl) (at_dep rfl rfl rfl) rfl) (at_top rfl)) ?_
              refine bl_cons 23 rfl (isV undef) (stab_isV _) (rg_no rfl (w_no 78 rfl (by kernel_rfl) (by kernel_rfl) (at_dep rfl rfl rfl) rfl) (at_top rfl)) ?_
              refine bl_cons 24 rfl (isV _) (stab_isV _) (rgV (li := [(78, _)]) rfl (w_free rfl) ⟨g_dep 12 (by kernel_rfl) (at_dep rfl rfl rfl), trivial⟩ (fun w hw => rn_pickF rfl rfl) (at_top rfl)) ?_
              refine bl_cons 25 rfl (isV _) (stab_isV _) (rgV (li := [(89, _)]) rfl (w_free rfl) ⟨g_dep 23 (by kernel_rfl) (at_dep rfl rfl rfl), trivial⟩ (fun w hw => rn_move rfl) (at_top rfl)) ?_
              refine bl_cons 26 rfl (isV undef) (stab_isV _) (rg_no rfl (w_no 90 rfl (by kernel_rfl) (by kernel_rfl) (at_dep rfl rfl rfl) rfl) (at_top rfl)) ?_
              refine bl_cons 27 rfl (isV undef) (stab_isV _) (rg_no rfl (w_no 90 rfl (by kernel_rfl) (by kernel_rfl) (at_dep rfl rfl rfl) rfl) (at_top rfl)) ?_
              refine bl_cons 28 rfl (isV undef) (stab_isV _) (rg_no rfl (w_no 90 rfl (by kernel_rfl) (by kernel_rfl) (at_dep rfl rfl rfl) rfl) (at_top rfl)) ?_
              refine bl_cons 29 rfl (isV undef) (stab_isV _) (rg_no rfl (w_no 90 rfl (by kernel_rfl) (by kernel_rfl) (at_dep rfl rfl rfl) rfl) (at_top rfl)) ?_
              refine bl_cons 30 rfl (isV undef) (stab_isV _) (rg_no rfl (w_no 90 rfl (by kernel_rfl) (by kernel_rfl) (at_dep rfl rfl rfl) rfl) (at_top rfl)) ?_
              refine bl_cons 31 rfl (isV undef) (stab_isV _) (rg_no rfl (w_no 90 rfl (by kernel_rfl) (by kernel_rfl) (at_dep rfl rfl rfl) rfl) (at_top rfl)) ?_
              refine bl_cons 32 rfl (isV undef) (stab_isV _) (rg_no rfl (w_no 90 rfl (by kernel_rfl) (by kernel_rfl) (at_dep rfl rfl rfl) rfl) (at_top rfl)) ?_
              refine bl_cons 33 rfl (isV undef) (stab_isV _) (rg_no rfl (w_no 90 rfl (by kernel_rfl) (by kernel_rfl) (at_dep rfl rfl rfl) rfl) (at_top rfl)) ?_
              refine bl_cons 34 rfl (isV undef) (stab_isV _) (rg_no rfl (w_no 90 rfl (by kernel_rfl) (by kernel_rfl) (at_dep rfl rfl rfl) rfl) (at_top rfl)) ?_
              refine bl_cons 35 rfl (isV undef) (stab_isV _) (rg_no rfl (w_no 90 rfl (by kernel_rfl) (by kernel_rfl) (at_dep rfl rfl rfl) rfl) (at_top rfl)) ?_
              refine bl_cons 36 rfl (isV _) (stab_isV _) (rgV (li := [(90, _)]) rfl (w_free rfl) ⟨g_dep 24 (by kernel_rfl) (at_dep rfl rfl rfl), trivial⟩ (fun w hw => rn_pickF rfl rfl) (at_top rfl)) ?_
              refine bl_cons 37 rfl (isV _) (stab_isV _) (rgV (li := [(101, _)]) rfl (w_free rfl) ⟨g_dep 35 (by kernel_rfl) (at_dep rfl rfl rfl), trivial⟩ (fun w hw => rn_assign rfl) (at_top rfl)) ?_
              refine bl_nil ?_
              intro W8 hbR hS'
              clear hS; have hS := hS'; clear hS'
              refine fin_v ?_
              refine fin_v ?_
              refine fin_v ?_
              refine fin_v ?_
              refine fin_v ?_
              refine fin_v ?_
              refine fin_v ?_
              refine fin_v ?_
              refine fin_v ?_
              refine fin_v ?_
              refine fin_v ?_
              refine fin_v ?_
              refine fin_v ?_
              refine fin_v ?_
              refine fin_v ?_
              refine fin_v ?_
              refine fin_v ?_
              refine fin_v ?_
              refine fin_v ?_
              refine fin_v ?_
              refine fin_v ?_
              refine fin_v ?_
              refine fin_v ?_
              refine fin_v ?_
              refine fin_v ?_
              refine fin_v ?_
              refine fin_v ?_
              refine fin_v ?_
              refine fin_v ?_
              refine fin_v ?_
              refine fin_v ?_
              refine fin_v ?_
              refine fin_v ?_
              refine fin_v ?_
              refine fin_v ?_
              refine fin_v ?_
              refine fin_v ?_
              refine fin_nil ?_
              refine XF.thenN ?_
              refine exitF ?_
              refine XF.blkO rfl ?_
              refine XF.thenX ?_
              refine XF.blkO rfl ?_
              refine XF.thenX ?_
              refine XF.blkO rfl ?_
              refine XF.thenX ?_
              refine XF.blkO rfl ?_
              refine XF.thenX ?_
              refine XF.blkX ?_
              exact XF.join [(7, .bool (decide (s.x = 0))), (8, .bool (decide (s.y = 0))), (9, .bool (decide (s.kk = 0))), (10, .bool (false))] ⟨rfl, rfl, rfl, rfl, trivial⟩ ⟨_, _, _, _, rfl, by unfold kindB; rw [if_neg n1, if_pos h8, hsc], hS.tail.tail.clear⟩
            · obtain ⟨tb, to_, u, rfl, hu, huc⟩ := ht.get (i := n) hnt
              obtain rfl : u0 = u := Option.some.inj (hu0.symm.trans hu)
              have k5 := CellsAt.agree hS.agree (Nat.zero_le _) huc
              have k6 := k5.2.2.1
              have k7 := k5.2.2.2.1
              refine regB (m := 37) followsM hS (by kernel_rfl) (by kernel_rfl) rfl ?_
              refine bl_cons 1 rfl (isV _) (stab_isV _) (rgV (li := [(4, _)]) rfl (w_free rfl) ⟨g_fr (by kernel_rfl) rfl, trivial⟩ (fun w hw => rn_field (o' := 6) fa_76_6 rfl rfl) (at_top rfl)) ?_
              refine bl_cons 2 rfl (isV _) (stab_isV _) (rgV (li := [(66, _)]) rfl (w_free rfl) ⟨g_dep 0 (by kernel_rfl) (at_dep rfl rfl rfl), trivial⟩ (fun w hw => rn_load Try.isAgg3 rfl ((below_agree hw 0).cell (Nat.zero_le _) (cell_own (hS.at_ 0 rfl) rfl))) (at_top rfl)) ?_
              refine bl_cons 3 rfl (isV _) (stab_isV _) (rgV (li := [(2, _)]) rfl (w_free rfl) ⟨g_fr (by kernel_rfl) rfl, trivial⟩ (fun w hw => rn_move rfl) (at_top rfl)) ?_
              refine bl_cons 4 rfl (isV (.bool true)) (stab_isV _) (rgVe (li := [(67, _), (68, _)]) rfl (w_free rfl) ⟨g_dep 1 (by kernel_rfl) (at_dep rfl rfl rfl), g_dep 2 (by kernel_rfl) (at_dep rfl rfl rfl), trivial⟩ (fun w hw => rn_eql rfl rfl) (by rw [decide_eq_true hsn]) (at_top rfl)) ?_
              refine bl_cons 5 rfl (isV _) (stab_isV _) (rgV (li := [(69, _)]) rfl (w_free rfl) ⟨g_dep 3 (by kernel_rfl) (at_dep rfl rfl rfl), trivial⟩ (fun w hw => rn_move rfl) (at_top rfl)) ?_
              refine bl_cons 6 rfl (isV _) (stab_isV _) (rgV (li := [(2, _)]) rfl (w_yes 70 rfl (by kernel_rfl) (by kernel_rfl) (at_dep rfl rfl rfl)) ⟨g_fr (by kernel_rfl) rfl, trivial⟩ (fun w hw => rn_move rfl) (at_top rfl)) ?_
              refine bl_cons 7 rfl (isV _) (stab_isV _) (rgV (li := [(3, _)]) rfl (w_yes 70 rfl (by kernel_rfl) (by kernel_rfl) (at_dep rfl rfl rfl)) ⟨g_fr (by kernel_rfl) rfl, trivial⟩ (fun w hw => rn_field (o' := 0) fa_81_0 rfl rfl) (at_top rfl)) ?_
              refine bl_cons 8 rfl (isV _) (stab_isV _) (rgV (li := [(72, _)]) rfl (w_yes 70 rfl (by kernel_rfl) (by kernel_rfl) (at_dep rfl rfl rfl)) ⟨g_dep 6 (by kernel_rfl) (at_dep rfl rfl rfl), trivial⟩ (fun w hw => rn_field (o' := 7) fa_29_7 rfl rfl) (at_top rfl)) ?_
              refine bl_cons 9 rfl (isV _) (stab_isV _) (rgV (li := [(73, _)]) rfl (w_yes 70 rfl (by kernel_rfl) (by kernel_rfl) (at_dep rfl rfl rfl)) ⟨g_dep 7 (by kernel_rfl) (at_dep rfl rfl rfl), trivial⟩ (fun w hw => rn_load Try.isAgg25 rfl ((below_agree hw 0).cell (Nat.zero_le _) (cell_own (hS.at_ 1 rfl) rfl))) (at_top rfl)) ?_
              refine bl_cons 10 rfl (isV _) (stab_isV _) (rgV (li := [(74, _)]) rfl (w_yes 70 rfl (by kernel_rfl) (by kernel_rfl) (at_dep rfl rfl rfl)) ⟨g_dep 8 (by kernel_rfl) (at_dep rfl rfl rfl), trivial⟩ (fun w hw => rn_len Try.underlying25 rfl) (at_top rfl)) ?_
              refine bl_cons 11 rfl (isV (.bool true)) (stab_isV _) (rgVe (li := [(71, _), (75, _)]) rfl (w_yes 70 rfl (by kernel_rfl) (by kernel_rfl) (at_dep rfl rfl rfl)) ⟨g_dep 5 (by kernel_rfl) (at_dep rfl rfl rfl), g_dep 9 (by kernel_rfl) (at_dep rfl rfl rfl), trivial⟩ (fun w hw => rn_lss rfl rfl) (by rw [decide_eq_true (by omega)]) (at_top rfl)) ?_
              refine bl_cons 12 rfl (isV _) (stab_isV _) (rgV (li := [(70, _), (76, _)]) rfl (w_free rfl) ⟨g_dep 4 (by kernel_rfl) (at_dep rfl rfl rfl), g_dep 10 (by kernel_rfl) (at_dep rfl rfl rfl), trivial⟩ (fun w hw => rn_pickT rfl rfl) (at_top rfl)) ?_
              refine bl_cons 13 rfl (isV _) (stab_isV _) (rgV (li := [(77, _)]) rfl (w_free rfl) ⟨g_dep 11 (by kernel_rfl) (at_dep rfl rfl rfl), trivial⟩ (fun w hw => rn_move rfl) (at_top rfl)) ?_
              refine bl_cons 14 rfl (isV _) (stab_isV _) (rgV (li := [(3, _)]) rfl (w_yes 78 rfl (by kernel_rfl) (by kernel_rfl) (at_dep rfl rfl rfl)) ⟨g_fr (by kernel_rfl) rfl, trivial⟩ (fun w hw => rn_field (o' := 0) fa_81_0 rfl rfl) (at_top rfl)) ?_
              refine bl_cons 15 rfl (isV _) (stab_isV _) (rgV (li := [(79, _)]) rfl (w_yes 78 rfl (by kernel_rfl) (by kernel_rfl) (at_dep rfl rfl rfl)) ⟨g_dep 13 (by kernel_rfl) (at_dep rfl rfl rfl), trivial⟩ (fun w hw => rn_field (o' := 7) fa_29_7 rfl rfl) (at_top rfl)) ?_
              refine bl_cons 16 rfl (isV _) (stab_isV _) (rgV (li := [(80, _)]) rfl (w_yes 78 rfl (by kernel_rfl) (by kernel_rfl) (at_dep rfl rfl rfl)) ⟨g_dep 14 (by kernel_rfl) (at_dep rfl rfl rfl), trivial⟩ (fun w hw => rn_load Try.isAgg25 rfl ((below_agree hw 0).cell (Nat.zero_le _) (cell_own (hS.at_ 1 rfl) rfl))) (at_top rfl)) ?_
              refine bl_cons 17 rfl (isV _) (stab_isV _) (rgV (li := [(2, _)]) rfl (w_yes 78 rfl (by kernel_rfl) (by kernel_rfl) (at_dep rfl rfl rfl)) ⟨g_fr (by kernel_rfl) rfl, trivial⟩ (fun w hw => rn_move rfl) (at_top rfl)) ?_
              refine bl_cons 18 rfl (isV _) (stab_isV _) (rgV (li := [(81, _), (82, _)]) rfl (w_yes 78 rfl (by kernel_rfl) (by kernel_rfl) (at_dep rfl rfl rfl)) ⟨g_dep 15 (by kernel_rfl) (at_dep rfl rfl rfl), g_dep 16 (by kernel_rfl) (at_dep rfl rfl rfl), trivial⟩ (fun w hw => rn_indexA (j := n) Try.underlying25 Try.sizeOf47 rfl rfl (by omega) (by omega) rfl) (at_top rfl)) ?_
              refine bl_cons 19 rfl (isV _) (stab_isV _) (rgV (li := [(83, _)]) rfl (w_yes 78 rfl (by kernel_rfl) (by kernel_rfl) (at_dep rfl rfl rfl)) ⟨g_dep 17 (by kernel_rfl) (at_dep rfl rfl rfl), trivial⟩ (fun w hw => rn_field fa_47_2 rfl rfl) (at_top rfl)) ?_
              refine bl_cons 20 rfl (isV _) (stab_isV _) (rgV (li := [(84, _)]) rfl (w_yes 78 rfl (by kernel_rfl) (by kernel_rfl) (at_dep rfl rfl rfl)) ⟨g_dep 18 (by kernel_rfl) (at_dep rfl rfl rfl), trivial⟩ (fun w hw => rn_load Try.isAgg3 rfl ((below_agree hw 0).cell (Nat.zero_le _) (k6))) (at_top rfl)) ?_
              refine bl_cons 21 rfl (isV _) (stab_isV _) (rgV (li := [(4, _)]) rfl (w_yes 78 rfl (by kernel_rfl) (by kernel_rfl) (at_dep rfl rfl rfl)) ⟨g_fr (by kernel_rfl) rfl, trivial⟩ (fun w hw => rn_field (o' := 0) fa_76_0 rfl rfl) (at_top rfl)) ?_
              refine bl_cons 22 rfl (isV _) (stab_isV _) (rgV (li := [(86, _)]) rfl (w_yes 78 rfl (by kernel_rfl) (by kernel_rfl) (at_dep rfl rfl rfl)) ⟨g_dep 20 (by kernel_rfl) (at_dep rfl rfl rfl), trivial⟩ (fun w hw => rn_load Try.isAgg3 rfl ((below_agree hw 0).cell (Nat.zero_le _) (cell_own (hS.at_ 0 rfl) rfl))) (at_top rfl)) ?_
              refine bl_cons 23 rfl (isV (.bool false)) (stab_isV _) (rgVe (li := [(85, _), (87, _)]) rfl (w_yes 78 rfl (by kernel_rfl) (by kernel_rfl) (at_dep rfl rfl rfl)) ⟨g_dep 19 (by kernel_rfl) (at_dep rfl rfl rfl), g_dep 21 (by kernel_rfl) (at_dep rfl rfl rfl), trivial⟩ (fun w hw => rn_eql rfl rfl) (by rw [decide_eq_false hfr]) (at_top rfl)) ?_
              refine bl_cons 24 rfl (isV _) (stab_isV _) (rgV (li := [(78, _), (88, _)]) rfl (w_free rfl) ⟨g_dep 12 (by kernel_rfl) (at_dep rfl rfl rfl), g_dep 22 (by kernel_rfl) (at_dep rfl rfl rfl), trivial⟩ (fun w hw => rn_pickT rfl rfl) (at_top rfl)) ?_
              refine bl_cons 25 rfl (isV _) (stab_isV _) (rgV (li := [(89, _)]) rfl (w_free rfl) ⟨g_dep 23 (by kernel_rfl) (at_dep rfl rfl rfl), trivial⟩ (fun w hw => rn_move rfl) (at_top rfl)) ?_
              refine bl_cons 26 rfl (isV undef) (stab_isV _) (rg_no rfl (w_no 90 rfl (by kernel_rfl) (by kernel_rfl) (at_dep rfl rfl rfl) rfl) (at_top rfl)) ?_
              refine bl_cons 27 rfl (isV undef) (stab_isV _) (rg_no rfl (w_no 90 rfl (by kernel_rfl) (by kernel_rfl) (at_dep rfl rfl rfl) rfl) (at_top rfl)) ?_
              refine bl_cons 28 rfl (isV undef) (stab_isV _) (rg_no rfl (w_no 90 rfl (by kernel_rfl) (by kernel_rfl) (at_dep rfl rfl rfl) rfl) (at_top rfl)) ?_
              refine bl_cons 29 rfl (isV undef) (stab_isV _) (rg_no rfl (w_no 90 rfl (by kernel_rfl) (by kernel_rfl) (at_dep rfl rfl rfl) rfl) (at_top rfl)) ?_
              refine bl_cons 30 rfl (isV undef) (stab_isV _) (rg_no rfl (w_no 90 rfl (by kernel_rfl) (by kernel_rfl) (at_dep rfl rfl rfl) rfl) (at_top rfl)) ?_
              refine bl_cons 31 rfl (isV undef) (stab_isV _) (rg_no rfl (w_no 90 rfl (by kernel_rfl) (by kernel_rfl) (at_dep rfl rfl rfl) rfl) (at_top rfl)) ?_
              refine bl_cons 32 rfl (isV undef) (stab_isV _) (rg_no rfl (w_no 90 rfl (by kernel_rfl) (by kernel_rfl) (at_dep rfl rfl rfl) rfl) (at_top rfl)) ?_
              refine bl_cons 33 rfl (isV undef) (stab_isV _) (rg_no rfl (w_no 90 rfl (by kernel_rfl) (by kernel_rfl) (at_dep rfl rfl rfl) rfl) (at_top rfl)) ?_
              refine bl_cons 34 rfl (isV undef) (stab_isV _) (rg_no rfl (w_no 90 rfl (by kernel_rfl) (by kernel_rfl) (at_dep rfl rfl rfl) rfl) (at_top rfl)) ?_
              refine bl_cons 35 rfl (isV undef) (stab_isV _) (rg_no rfl (w_no 90 rfl (by kernel_rfl) (by kernel_rfl) (at_dep rfl rfl rfl) rfl) (at_top rfl)) ?_
              refine bl_cons 36 rfl (isV _) (stab_isV _) (rgV (li := [(90, _)]) rfl (w_free rfl) ⟨g_dep 24 (by kernel_rfl) (at_dep rfl rfl rfl), trivial⟩ (fun w hw => rn_pickF rfl rfl) (at_top rfl)) ?_
              refine bl_cons 37 rfl (isV _) (stab_isV _) (rgV (li := [(101, _)]) rfl (w_free rfl) ⟨g_dep 35 (by kernel_rfl) (at_dep rfl rfl rfl), trivial⟩ (fun w hw => rn_assign rfl) (at_top rfl)) ?_
              refine bl_nil ?_
              intro W9 hbR hS'
              clear hS; have hS := hS'; clear hS'
              refine fin_v ?_
              refine fin_v ?_
              refine fin_v ?_
              refine fin_v ?_
              refine fin_v ?_
              refine fin_v ?_
              refine fin_v ?_
              refine fin_v ?_
              refine fin_v ?_
              refine fin_v ?_
              refine fin_v ?_
              refine fin_v ?_
              refine fin_v ?_
              refine fin_v ?_
              refine fin_v ?_
              refine fin_v ?_
              refine fin_v ?_
              refine fin_v ?_
              refine fin_v ?_
              refine fin_v ?_
              refine fin_v ?_
              refine fin_v ?_
              refine fin_v ?_
              refine fin_v ?_
              refine fin_v ?_
              refine fin_v ?_
              refine fin_v ?_
              refine fin_v ?_
              refine fin_v ?_
              refine fin_v ?_
              refine fin_v ?_
              refine fin_v ?_
              refine fin_v ?_
              refine fin_v ?_
              refine fin_v ?_
              refine fin_v ?_
              refine fin_v ?_
              refine fin_nil ?_
              refine XF.thenN ?_
              refine exitF ?_
              refine XF.blkO rfl ?_
              refine XF.thenX ?_
              refine XF.blkO rfl ?_
              refine XF.thenX ?_
              refine XF.blkO rfl ?_
              refine XF.thenX ?_
              refine XF.blkO rfl ?_
              refine XF.thenX ?_
              refine XF.blkX ?_
              exact XF.join [(7, .bool (decide (s.x = 0))), (8, .bool (decide (s.y = 0))), (9, .bool (decide (s.kk = 0))), (10, .bool (false))] ⟨rfl, rfl, rfl, rfl, trivial⟩ ⟨_, _, _, _, rfl, by unfold kindB; rw [if_neg n1, if_pos h8, siteC_at hu0, decide_eq_false hfr]; simp, hS.tail.tail.clear⟩
            · obtain ⟨tb, to_, u, rfl, hu, huc⟩ := ht.get (i := n) hnt
              obtain rfl : u0 = u := Option.some.inj (hu0.symm.trans hu)
              have k5 := CellsAt.agree hS.agree (Nat.zero_le _) huc
              have k6 := k5.2.2.1
              have k7 := k5.2.2.2.1
              refine regB (m := 37) followsM hS (by kernel_rfl) (by kernel_rfl) rfl ?_
              refine bl_cons 1 rfl (isV _) (stab_isV _) (rgV (li := [(4, _)]) rfl (w_free rfl) ⟨g_fr (by kernel_rfl) rfl, trivial⟩ (fun w hw => rn_field (o' := 6) fa_76_6 rfl rfl) (at_top rfl)) ?_
              refine bl_cons 2 rfl (isV _) (stab_isV _) (rgV (li := [(66, _)]) rfl (w_free rfl) ⟨g_dep 0 (by kernel_rfl) (at_dep rfl rfl rfl), trivial⟩ (fun w hw => rn_load Try.isAgg3 rfl ((below_agree hw 0).cell (Nat.zero_le _) (cell_own (hS.at_ 0 rfl) rfl))) (at_top rfl)) ?_
              refine bl_cons 3 rfl (isV _) (stab_isV _) (rgV (li := [(2, _)]) rfl (w_free rfl) ⟨g_fr (by kernel_rfl) rfl, trivial⟩ (fun w hw => rn_move rfl) (at_top rfl)) ?_
              refine bl_cons 4 rfl (isV (.bool true)) (stab_isV _) (rgVe (li := [(67, _), (68, _)]) rfl (w_free rfl) ⟨g_dep 1 (by kernel_rfl) (at_dep rfl rfl rfl), g_dep 2 (by kernel_rfl) (at_dep rfl rfl rfl), trivial⟩ (fun w hw => rn_eql rfl rfl) (by rw [decide_eq_true hsn]) (at_top rfl)) ?_
              refine bl_cons 5 rfl (isV _) (stab_isV _) (rgV (li := [(69, _)]) rfl (w_free rfl) ⟨g_dep 3 (by kernel_rfl) (at_dep rfl rfl rfl), trivial⟩ (fun w hw => rn_move rfl) (at_top rfl)) ?_
              refine bl_cons 6 rfl (isV _) (stab_isV _) (rgV (li := [(2, _)]) rfl (w_yes 70 rfl (by kernel_rfl) (by kernel_rfl) (at_dep rfl rfl rfl)) ⟨g_fr (by kernel_rfl) rfl, trivial⟩ (fun w hw => rn_move rfl) (at_top rfl)) ?_
              refine bl_cons 7 rfl (isV _) (stab_isV _) (rgV (li := [(3, _)]) rfl (w_yes 70 rfl (by kernel_rfl) (by kernel_rfl) (at_dep rfl rfl rfl)) ⟨g_fr (by kernel_rfl) rfl, trivial⟩ (fun w hw => rn_field (o' := 0) fa_81_0 rfl rfl) (at_top rfl)) ?_
              refine bl_cons 8 rfl (isV _) (stab_isV _) (rgV (li := [(72, _)]) rfl (w_yes 70 rfl (by kernel_rfl) (by kernel_rfl) (at_dep rfl rfl rfl)) ⟨g_dep 6 (by kernel_rfl) (at_dep rfl rfl rfl), trivial⟩ (fun w hw => rn_field (o' := 7) fa_29_7 rfl rfl) (at_top rfl)) ?_
              refine bl_cons 9 rfl (isV _) (stab_isV _) (rgV (li := [(73, _)]) rfl (w_yes 70 rfl (by kernel_rfl) (by kernel_rfl) (at_dep rfl rfl rfl)) ⟨g_dep 7 (by kernel_rfl) (at_dep rfl rfl rfl), trivial⟩ (fun w hw => rn_load Try.isAgg25 rfl ((below_agree hw 0).cell (Nat.zero_le _) (cell_own (hS.at_ 1 rfl) rfl))) (at_top rfl)) ?_
              refine bl_cons 10 rfl (isV _) (stab_isV _) (rgV (li := [(74, _)]) rfl (w_yes 70 rfl (by kernel_rfl) (by kernel_rfl) (at_dep rfl rfl rfl)) ⟨g_dep 8 (by kernel_rfl) (at_dep rfl rfl rfl), trivial⟩ (fun w hw => rn_len Try.underlying25 rfl) (at_top rfl)) ?_
              refine bl_cons 11 rfl (isV (.bool true)) (stab_isV _) (rgVe (li := [(71, _), (75, _)]) rfl (w_yes 70 rfl (by kernel_rfl) (by kernel_rfl) (at_dep rfl rfl rfl)) ⟨g_dep 5 (by kernel_rfl) (at_dep rfl rfl rfl), g_dep 9 (by kernel_rfl) (at_dep rfl rfl rfl), trivial⟩ (fun w hw => rn_lss rfl rfl) (by rw [decide_eq_true (by omega)]) (at_top rfl)) ?_
              refine bl_cons 12 rfl (isV _) (stab_isV _) (rgV (li := [(70, _), (76, _)]) rfl (w_free rfl) ⟨g_dep 4 (by kernel_rfl) (at_dep rfl rfl rfl), g_dep 10 (by kernel_rfl) (at_dep rfl rfl rfl), trivial⟩ (fun w hw => rn_pickT rfl rfl) (at_top rfl)) ?_
              refine bl_cons 13 rfl (isV _) (stab_isV _) (rgV (li := [(77, _)]) rfl (w_free rfl) ⟨g_dep 11 (by kernel_rfl) (at_dep rfl rfl rfl), trivial⟩ (fun w hw => rn_move rfl) (at_top rfl)) ?_
              refine bl_cons 14 rfl (isV _) (stab_isV _) (rgV (li := [(3, _)]) rfl (w_yes 78 rfl (by kernel_rfl) (by kernel_rfl) (at_dep rfl rfl rfl)) ⟨g_fr (by kernel_rfl) rfl, trivial⟩ (fun w hw => rn_field (o' := 0) fa_81_0 rfl rfl) (at_top rfl)) ?_
              refine bl_cons 15 rfl (isV _) (stab_isV _) (rgV (li := [(79, _)]) rfl (w_yes 78 rfl (by kernel_rfl) (by kernel_rfl) (at_dep rfl rfl rfl)) ⟨g_dep 13 (by kernel_rfl) (at_dep rfl rfl rfl), trivial⟩ (fun w hw => rn_field (o' := 7) fa_29_7 rfl rfl) (at_top rfl)) ?_
              refine bl_cons 16 rfl (isV _) (stab_isV _) (rgV (li := [(80, _)]) rfl (w_yes 78 rfl (by kernel_rfl) (by kernel_rfl) (at_dep rfl rfl rfl)) ⟨g_dep 14 (by kernel_rfl) (at_dep rfl rfl rfl), trivial⟩ (fun w hw => rn_load Try.isAgg25 rfl ((below_agree hw 0).cell (Nat.zero_le _) (cell_own (hS.at_ 1 rfl) rfl))) (at_top rfl)) ?_
              refine bl_cons 17 rfl (isV _) (stab_isV _) (rgV (li := [(2, _)]) rfl (w_yes 78 rfl (by kernel_rfl) (by kernel_rfl) (at_dep rfl rfl rfl)) ⟨g_fr (by kernel_rfl) rfl, trivial⟩ (fun w hw => rn_move rfl) (at_top rfl)) ?_
              refine bl_cons 18 rfl (isV _) (stab_isV _) (rgV (li := [(81, _), (82, _)]) rfl (w_yes 78 rfl (by kernel_rfl) (by kernel_rfl) (at_dep rfl rfl rfl)) ⟨g_dep 15 (by kernel_rfl) (at_dep rfl rfl rfl), g_dep 16 (by kernel_rfl) (at_dep rfl rfl rfl), trivial⟩ (fun w hw => rn_indexA (j := n) Try.underlying25 Try.sizeOf47 rfl rfl (by omega) (by omega) rfl) (at_top rfl)) ?_
              refine bl_cons 19 rfl (isV _) (stab_isV _) (rgV (li := [(83, _)]) rfl (w_yes 78 rfl (by kernel_rfl) (by kernel_rfl) (at_dep rfl rfl rfl)) ⟨g_dep 17 (by kernel_rfl) (at_dep rfl rfl rfl), trivial⟩ (fun w hw => rn_field fa_47_2 rfl rfl) (at_top rfl)) ?_
              refine bl_cons 20 rfl (isV _) (stab_isV _) (rgV (li := [(84, _)]) rfl (w_yes 78 rfl (by kernel_rfl) (by kernel_rfl) (at_dep rfl rfl rfl)) ⟨g_dep 18 (by kernel_rfl) (at_dep rfl rfl rfl), trivial⟩ (fun w hw => rn_load Try.isAgg3 rfl ((below_agree hw 0).cell (Nat.zero_le _) (k6))) (at_top rfl)) ?_
              refine bl_cons 21 rfl (isV _) (stab_isV _) (rgV (li := [(4, _)]) rfl (w_yes 78 rfl (by kernel_rfl) (by kernel_rfl) (at_dep rfl rfl rfl)) ⟨g_fr (by kernel_rfl) rfl, trivial⟩ (fun w hw => rn_field (o' := 0) fa_76_0 rfl rfl) (at_top rfl)) ?_
              refine bl_cons 22 rfl (isV _) (stab_isV _) (rgV (li := [(86, _)]) rfl (w_yes 78 rfl (by kernel_rfl) (by kernel_rfl) (at_dep rfl rfl rfl)) ⟨g_dep 20 (by kernel_rfl) (at_dep rfl rfl rfl), trivial⟩ (fun w hw => rn_load Try.isAgg3 rfl ((below_agree hw 0).cell (Nat.zero_le _) (cell_own (hS.at_ 0 rfl) rfl))) (at_top rfl)) ?_
              refine bl_cons 23 rfl (isV (.bool true)) (stab_isV _) (rgVe (li := [(85, _), (87, _)]) rfl (w_yes 78 rfl (by kernel_rfl) (by kernel_rfl) (at_dep rfl rfl rfl)) ⟨g_dep 19 (by kernel_rfl) (at_dep rfl rfl rfl), g_dep 21 (by kernel_rfl) (at_dep rfl rfl rfl), trivial⟩ (fun w hw => rn_eql rfl rfl) (by rw [decide_eq_true hfr]) (at_top rfl)) ?_
              refine bl_cons 24 rfl (isV _) (stab_isV _) (rgV (li := [(78, _), (88, _)]) rfl (w_free rfl) ⟨g_dep 12 (by kernel_rfl) (at_dep rfl rfl rfl), g_dep 22 (by kernel_rfl) (at_dep rfl rfl rfl), trivial⟩ (fun w hw => rn_pickT rfl rfl) (at_top rfl)) ?_
              refine bl_cons 25 rfl (isV _) (stab_isV _) (rgV (li := [(89, _)]) rfl (w_free rfl) ⟨g_dep 23 (by kernel_rfl) (at_dep rfl rfl rfl), trivial⟩ (fun w hw => rn_move rfl) (at_top rfl)) ?_
              refine bl_cons 26 rfl (isV _) (stab_isV _) (rgV (li := [(3, _)]) rfl (w_yes 90 rfl (by kernel_rfl) (by kernel_rfl) (at_dep rfl rfl rfl)) ⟨g_fr (by kernel_rfl) rfl, trivial⟩ (fun w hw => rn_field (o' := 0) fa_81_0 rfl rfl) (at_top rfl)) ?_
              refine bl_cons 27 rfl (isV _) (stab_isV _) (rgV (li := [(91, _)]) rfl (w_yes 90 rfl (by kernel_rfl) (by kernel_rfl) (at_dep rfl rfl rfl)) ⟨g_dep 25 (by kernel_rfl) (at_dep rfl rfl rfl), trivial⟩ (fun w hw => rn_field (o' := 7) fa_29_7 rfl rfl) (at_top rfl)) ?_
              refine bl_cons 28 rfl (isV _) (stab_isV _) (rgV (li := [(92, _)]) rfl (w_yes 90 rfl (by kernel_rfl) (by kernel_rfl) (at_dep rfl rfl rfl)) ⟨g_dep 26 (by kernel_rfl) (at_dep rfl rfl rfl), trivial⟩ (fun w hw => rn_load Try.isAgg25 rfl ((below_agree hw 0).cell (Nat.zero_le _) (cell_own (hS.at_ 1 rfl) rfl))) (at_top rfl)) ?_
              refine bl_cons 29 rfl (isV _) (stab_isV _) (rgV (li := [(2, _)]) rfl (w_yes 90 rfl (by kernel_rfl) (by kernel_rfl) (at_dep rfl rfl rfl)) ⟨g_fr (by kernel_rfl) rfl, trivial⟩ (fun w hw => rn_move rfl) (at_top rfl)) ?_
              refine bl_cons 30 rfl (isV _) (stab_isV _) (rgV (li := [(93, _), (94, _)]) rfl (w_yes 90 rfl (by kernel_rfl) (by kernel_rfl) (at_dep rfl rfl rfl)) ⟨g_dep 27 (by kernel_rfl) (at_dep rfl rfl rfl), g_dep 28 (by kernel_rfl) (at_dep rfl rfl rfl), trivial⟩ (fun w hw => rn_indexA (j := n) Try.underlying25 Try.sizeOf47 rfl rfl (by omega) (by omega) rfl) (at_top rfl)) ?_
              refine bl_cons 31 rfl (isV _) (stab_isV _) (rgV (li := [(95, _)]) rfl (w_yes 90 rfl (by kernel_rfl) (by kernel_rfl) (at_dep rfl rfl rfl)) ⟨g_dep 29 (by kernel_rfl) (at_dep rfl rfl rfl), trivial⟩ (fun w hw => rn_field fa_47_3 rfl rfl) (at_top rfl)) ?_
              refine bl_cons 32 rfl (isV _) (stab_isV _) (rgV (li := [(96, _)]) rfl (w_yes 90 rfl (by kernel_rfl) (by kernel_rfl) (at_dep rfl rfl rfl)) ⟨g_dep 30 (by kernel_rfl) (at_dep rfl rfl rfl), trivial⟩ (fun w hw => rn_load Try.isAgg3 rfl ((below_agree hw 0).cell (Nat.zero_le _) (k7))) (at_top rfl)) ?_
              refine bl_cons 33 rfl (isV _) (stab_isV _) (rgV (li := [(4, _)]) rfl (w_yes 90 rfl (by kernel_rfl) (by kernel_rfl) (at_dep rfl rfl rfl)) ⟨g_fr (by kernel_rfl) rfl, trivial⟩ (fun w hw => rn_field (o' := 1) fa_76_1 rfl rfl) (at_top rfl)) ?_
              refine bl_cons 34 rfl (isV _) (stab_isV _) (rgV (li := [(98, _)]) rfl (w_yes 90 rfl (by kernel_rfl) (by kernel_rfl) (at_dep rfl rfl rfl)) ⟨g_dep 32 (by kernel_rfl) (at_dep rfl rfl rfl), trivial⟩ (fun w hw => rn_load Try.isAgg3 rfl ((below_agree hw 0).cell (Nat.zero_le _) (cell_own (hS.at_ 0 rfl) rfl))) (at_top rfl)) ?_
              refine bl_cons 35 rfl (isV _) (stab_isV _) (rgV (li := [(97, _), (99, _)]) rfl (w_yes 90 rfl (by kernel_rfl) (by kernel_rfl) (at_dep rfl rfl rfl)) ⟨g_dep 31 (by kernel_rfl) (at_dep rfl rfl rfl), g_dep 33 (by kernel_rfl) (at_dep rfl rfl rfl), trivial⟩ (fun w hw => rn_eql rfl rfl) (at_top rfl)) ?_
              refine bl_cons 36 rfl (isV _) (stab_isV _) (rgV (li := [(90, _), (100, _)]) rfl (w_free rfl) ⟨g_dep 24 (by kernel_rfl) (at_dep rfl rfl rfl), g_dep 34 (by kernel_rfl) (at_dep rfl rfl rfl), trivial⟩ (fun w hw => rn_pickT rfl rfl) (at_top rfl)) ?_
              refine bl_cons 37 rfl (isV _) (stab_isV _) (rgV (li := [(101, _)]) rfl (w_free rfl) ⟨g_dep 35 (by kernel_rfl) (at_dep rfl rfl rfl), trivial⟩ (fun w hw => rn_assign rfl) (at_top rfl)) ?_
              refine bl_nil ?_
              intro W10 hbR hS'
              clear hS; have hS := hS'; clear hS'
              refine fin_v ?_
              refine fin_v ?_
              refine fin_v ?_
              refine fin_v ?_
              refine fin_v ?_
              refine fin_v ?_
              refine fin_v ?_
              refine fin_v ?_
              refine fin_v ?_
              refine fin_v ?_
              refine fin_v ?_
              refine fin_v ?_
              refine fin_v ?_
              refine fin_v ?_
              refine fin_v ?_
              refine fin_v ?_
              refine fin_v ?_
              refine fin_v ?_
              refine fin_v ?_
              refine fin_v ?_
              refine fin_v ?_
              refine fin_v ?_
              refine fin_v ?_
              refine fin_v ?_
              refine fin_v ?_
              refine fin_v ?_
              refine fin_v ?_
              refine fin_v ?_
              refine fin_v ?_
              refine fin_v ?_
              refine fin_v ?_
              refine fin_v ?_
              refine fin_v ?_
              refine fin_v ?_
              refine fin_v ?_
              refine fin_v ?_
              refine fin_v ?_
              refine fin_nil ?_
              refine XF.thenN ?_
              refine exitF ?_
              refine XF.blkO rfl ?_
              refine XF.thenX ?_
              refine XF.blkO rfl ?_
              refine XF.thenX ?_
              refine XF.blkO rfl ?_
              refine XF.thenX ?_
              refine XF.blkO rfl ?_
              refine XF.thenX ?_
              refine XF.blkX ?_
              exact XF.join [(7, .bool (decide (s.x = 0))), (8, .bool (decide (s.y = 0))), (9, .bool (decide (s.kk = 0))), (10, .bool (decide (u0.bk = s.t)))] ⟨rfl, rfl, rfl, rfl, trivial⟩ ⟨_, _, _, _, rfl, by unfold kindB; rw [if_neg n1, if_pos h8, siteC_at hu0, decide_eq_true hfr, decide_eq_true hsn]; simp, hS.tail.tail.clear⟩
          · have hc56 := of_decide_eq_false hc; clear hc
            have n8 : ¬ s.k = 8 := hc56
            refine skipF ?_
            refine XF.thenN ?_
            refine seqF ?_
            refine seqF ?_
            refine regF ?_
            refine op_eql rfl rfl rfl ?_
            refine op_assign rfl rfl ?_
            refine endF ?_
            refine XF.thenN ?_
            refine condF rfl (fun hc => ?_) (fun hc => ?_)
            · have hc58 := of_decide_eq_true hc; clear hc
              have h2 : s.k = 2 := hc58
              refine exitF ?_
              refine XF.thenX ?_
              refine XF.thenX ?_
              refine XF.blkO rfl ?_
              refine XF.thenX ?_
              refine XF.blkO rfl ?_
              refine XF.thenX ?_
              refine XF.blkX ?_
              refine XF.thenN ?_
              refine seqF ?_
              refine seqF ?_
              refine regF ?_
              refine op_assign rfl rfl ?_
              refine endF ?_
              refine XF.thenN ?_
              refine regF ?_
              refine op_loadA (vs := [_, _, _, _, _, _, _, _, _, _]) Try.isAgg81 Try.sizeOf81 rfl (CellsAt.own (j := 0) (m := 10) (hS.at_ 1 rfl) rfl) rfl ?_
              refine op_field (o' := 3) fa_76_3 rfl rfl rfl ?_
              refine op_load Try.isAgg3 rfl (cell_own (hS.at_ 0 rfl) rfl) rfl ?_
              refine op_call (vs := [_, _]) hS goes_34 rfl (isVar_is ⟨_, vl, vc, _, pl, pc, _, el, ec, es, _, xl, xc, xs, mn, _, ol, oc, os, _, sl, sc, ss, _, tl, tc, ts, _, nl, nc, ns, _, kl, kc, ks⟩ s.x _) rfl ?_
              rintro e W11 ⟨rfl, hb⟩
              refine ⟨_, rfl, hb, fun hS' => ?_⟩
              clear hS; have hS := hS'; clear hS' hb
              refine op_assign rfl rfl ?_
              refine endF ?_
              refine XF.thenN ?_
              refine exitF ?_
              refine XF.blkO rfl ?_
              refine XF.thenX ?_
              refine XF.blkO rfl ?_
              refine XF.thenX ?_
              refine XF.blkO rfl ?_
              refine XF.thenX ?_
              refine XF.blkX ?_
              exact XF.join [(7, .bool (inQ s.x vl)), (8, .bool (decide (s.y = 0))), (9, .bool (true)), (10, .bool (decide (s.s = 0)))] ⟨rfl, rfl, rfl, rfl, trivial⟩ ⟨_, _, _, _, rfl, by unfold kindB; rw [if_neg n1, if_neg n8, if_pos h2], hS.tail.tail.clear⟩
            · have hc58 := of_decide_eq_false hc; clear hc
              have n2 : ¬ s.k = 2 := hc58
              refine skipF ?_
              refine XF.thenN ?_
              refine seqF ?_
              refine seqF ?_
              refine regF ?_
              refine op_eql rfl rfl rfl ?_
              refine op_assign rfl rfl ?_
              refine endF ?_
              refine XF.thenN ?_
              refine condF rfl (fun hc => ?_) (fun hc => ?_)
              · have hc60 := of_decide_eq_true hc; clear hc
                have h3 : s.k = 3 := hc60
                refine exitF ?_
                refine XF.thenX ?_
                refine XF.thenX ?_
                refine XF.blkO rfl ?_
                refine XF.thenX ?_
                refine XF.blkO rfl ?_
                refine XF.thenX ?_
                refine XF.blkO rfl ?_
                refine XF.thenX ?_
                refine XF.blkX ?_
                refine XF.thenN ?_
                refine regF ?_
                refine op_loadA (vs := [_, _, _, _, _, _, _, _, _, _]) Try.isAgg81 Try.sizeOf81 rfl (CellsAt.own (j := 0) (m := 10) (hS.at_ 1 rfl) rfl) rfl ?_
                refine op_field (o' := 4) fa_76_4 rfl rfl rfl ?_
                refine op_load Try.isAgg3 rfl (cell_own (hS.at_ 0 rfl) rfl) rfl ?_
                refine op_call (vs := [_, _]) hS goes_34 rfl (isVar_is ⟨_, vl, vc, _, pl, pc, _, el, ec, es, _, xl, xc, xs, mn, _, ol, oc, os, _, sl, sc, ss, _, tl, tc, ts, _, nl, nc, ns, _, kl, kc, ks⟩ s.y _) rfl ?_
                rintro e W12 ⟨rfl, hb⟩
                refine ⟨_, rfl, hb, fun hS' => ?_⟩
                clear hS; have hS := hS'; clear hS' hb
                refine op_assign rfl rfl ?_
                refine endF ?_
                refine XF.blkN ?_
                refine XF.thenN ?_
                refine seqF ?_
                refine regF ?_
                refine op_loadA (vs := [_, _, _, _, _, _, _, _, _, _]) Try.isAgg81 Try.sizeOf81 rfl (CellsAt.own (j := 0) (m := 10) (hS.at_ 1 rfl) rfl) rfl ?_
                refine op_field (o' := 3) fa_76_3 rfl rfl rfl ?_
                refine op_load Try.isAgg3 rfl (cell_own (hS.at_ 0 rfl) rfl) rfl ?_
                refine op_call (vs := [_, _]) hS goes_34 rfl (isVar_is ⟨_, vl, vc, _, pl, pc, _, el, ec, es, _, xl, xc, xs, mn, _, ol, oc, os, _, sl, sc, ss, _, tl, tc, ts, _, nl, nc, ns, _, kl, kc, ks⟩ s.x _) rfl ?_
                rintro e W13 ⟨rfl, hb⟩
                refine ⟨_, rfl, hb, fun hS' => ?_⟩
                clear hS; have hS := hS'; clear hS' hb
                refine op_assign rfl rfl ?_
                refine endF ?_
                refine XF.thenN ?_
                refine exitF ?_
                refine XF.blkO rfl ?_
                refine XF.thenX ?_
                refine XF.blkX ?_
                exact XF.join [(7, .bool (inQ s.x vl)), (8, .bool (inQ s.y vl)), (9, .bool (decide (s.kk = 0))), (10, .bool (decide (s.s = 0)))] ⟨rfl, rfl, rfl, rfl, trivial⟩ ⟨_, _, _, _, rfl, by unfold kindB; rw [if_neg n1, if_neg n8, if_neg n2, if_pos h3], hS.tail.tail.clear⟩
              · have hc60 := of_decide_eq_false hc; clear hc
                have n3 : ¬ s.k = 3 := hc60
                refine skipF ?_
                refine XF.thenN ?_
                refine seqF ?_
                refine seqF ?_
                refine regF ?_
                refine op_eql rfl rfl rfl ?_
                refine op_assign rfl rfl ?_
                refine endF ?_
                refine XF.thenN ?_
                refine condF rfl (fun hc => ?_) (fun hc => ?_)
                · have hc62 := of_decide_eq_true hc; clear hc
                  refine skipF ?_
                  refine XF.thenN ?_
                  refine condF rfl (fun hc => ?_) (fun hc => absurd (of_decide_eq_false hc) (by exact fun h => h hc62))
                  have hc := of_decide_eq_true hc
                  refine exitF ?_
                  refine XF.thenX ?_
                  refine XF.blkO rfl ?_
                  refine XF.thenX ?_
                  refine XF.blkO rfl ?_
                  refine XF.thenX ?_
                  refine XF.blkO rfl ?_
                  refine XF.thenX ?_
                  refine XF.blkO rfl ?_
                  refine XF.thenX ?_
                  refine XF.blkX ?_
                  refine XF.thenN ?_
                  refine seqF ?_
                  refine regF ?_
                  refine op_loadA (vs := [_, _, _, _, _, _, _, _, _, _]) Try.isAgg81 Try.sizeOf81 rfl (CellsAt.own (j := 0) (m := 10) (hS.at_ 1 rfl) rfl) rfl ?_
                  refine op_field (o' := 3) fa_76_3 rfl rfl rfl ?_
                  refine op_load Try.isAgg3 rfl (cell_own (hS.at_ 0 rfl) rfl) rfl ?_
                  refine op_call (vs := [_, _]) hS goes_34 rfl (isVar_is ⟨_, vl, vc, _, pl, pc, _, el, ec, es, _, xl, xc, xs, mn, _, ol, oc, os, _, sl, sc, ss, _, tl, tc, ts, _, nl, nc, ns, _, kl, kc, ks⟩ s.x _) rfl ?_
                  rintro e W14 ⟨rfl, hb⟩
                  refine ⟨_, rfl, hb, fun hS' => ?_⟩
                  clear hS; have hS := hS'; clear hS' hb
                  refine op_assign rfl rfl ?_
                  refine endF ?_
                  refine XF.thenN ?_
                  refine exitF ?_
                  refine XF.blkO rfl ?_
                  refine XF.thenX ?_
                  refine XF.blkX ?_
                  exact XF.join [(7, .bool (inQ s.x vl)), (8, .bool (decide (s.y = 0))), (9, .bool (decide (s.kk = 0))), (10, .bool (decide (s.s = 0)))] ⟨rfl, rfl, rfl, rfl, trivial⟩ ⟨_, _, _, _, rfl, by unfold kindB; rw [if_neg n1, if_neg n8, if_neg n2, if_neg n3, if_pos (by first | exact .inl hc62 | exact .inr (.inl hc62) | exact .inr (.inr hc62))], hS.tail.tail.clear⟩
                · have hc62 := of_decide_eq_false hc; clear hc
                  have n4 : ¬ s.k = 4 := hc62
                  refine seqF ?_
                  refine regF ?_
                  refine op_eql rfl rfl rfl ?_
                  refine op_assign rfl rfl ?_
                  refine endF ?_
                  refine XF.thenN ?_
                  refine condF rfl (fun hc => ?_) (fun hc => ?_)
                  · have hc62 := of_decide_eq_true hc; clear hc
                    refine skipF ?_
                    refine XF.thenN ?_
                    refine condF rfl (fun hc => ?_) (fun hc => absurd (of_decide_eq_false hc) (by exact fun h => h hc62))
                    have hc := of_decide_eq_true hc
                    refine exitF ?_
                    refine XF.thenX ?_
                    refine XF.blkO rfl ?_
                    refine XF.thenX ?_
                    refine XF.blkO rfl ?_
                    refine XF.thenX ?_
                    refine XF.blkO rfl ?_
                    refine XF.thenX ?_
                    refine XF.blkO rfl ?_
                    refine XF.thenX ?_
                    refine XF.blkX ?_
                    refine XF.thenN ?_
                    refine seqF ?_
                    refine regF ?_
                    refine op_loadA (vs := [_, _, _, _, _, _, _, _, _, _]) Try.isAgg81 Try.sizeOf81 rfl (CellsAt.own (j := 0) (m := 10) (hS.at_ 1 rfl) rfl) rfl ?_
                    refine op_field (o' := 3) fa_76_3 rfl rfl rfl ?_
                    refine op_load Try.isAgg3 rfl (cell_own (hS.at_ 0 rfl) rfl) rfl ?_
                    refine op_call (vs := [_, _]) hS goes_34 rfl (isVar_is ⟨_, vl, vc, _, pl, pc, _, el, ec, es, _, xl, xc, xs, mn, _, ol, oc, os, _, sl, sc, ss, _, tl, tc, ts, _, nl, nc, ns, _, kl, kc, ks⟩ s.x _) rfl ?_
                    rintro e W15 ⟨rfl, hb⟩
                    refine ⟨_, rfl, hb, fun hS' => ?_⟩
                    clear hS; have hS := hS'; clear hS' hb
                    refine op_assign rfl rfl ?_
                    refine endF ?_
                    refine XF.thenN ?_
                    refine exitF ?_
                    refine XF.blkO rfl ?_
                    refine XF.thenX ?_
                    refine XF.blkX ?_
                    exact XF.join [(7, .bool (inQ s.x vl)), (8, .bool (decide (s.y = 0))), (9, .bool (decide (s.kk = 0))), (10, .bool (decide (s.s = 0)))] ⟨rfl, rfl, rfl, rfl, trivial⟩ ⟨_, _, _, _, rfl, by unfold kindB; rw [if_neg n1, if_neg n8, if_neg n2, if_neg n3, if_pos (by first | exact .inl hc62 | exact .inr (.inl hc62) | exact .inr (.inr hc62))], hS.tail.tail.clear⟩
                  · have hc62 := of_decide_eq_false hc; clear hc
                    have n5 : ¬ s.k = 5 := hc62
                    refine regF ?_
                    refine op_eql rfl rfl rfl ?_
                    refine op_assign rfl rfl ?_
                    refine endF ?_
                    refine XF.thenN ?_
                    refine condF rfl (fun hc => ?_) (fun hc => ?_)
                    · have hc62 := of_decide_eq_true hc; clear hc
                      refine exitF ?_
                      refine XF.thenX ?_
                      refine XF.blkO rfl ?_
                      refine XF.thenX ?_
                      refine XF.blkO rfl ?_
                      refine XF.thenX ?_
                      refine XF.blkO rfl ?_
                      refine XF.thenX ?_
                      refine XF.blkO rfl ?_
                      refine XF.thenX ?_
                      refine XF.blkX ?_
                      refine XF.thenN ?_
                      refine seqF ?_
                      refine regF ?_
                      refine op_loadA (vs := [_, _, _, _, _, _, _, _, _, _]) Try.isAgg81 Try.sizeOf81 rfl (CellsAt.own (j := 0) (m := 10) (hS.at_ 1 rfl) rfl) rfl ?_
                      refine op_field (o' := 3) fa_76_3 rfl rfl rfl ?_
                      refine op_load Try.isAgg3 rfl (cell_own (hS.at_ 0 rfl) rfl) rfl ?_
                      refine op_call (vs := [_, _]) hS goes_34 rfl (isVar_is ⟨_, vl, vc, _, pl, pc, _, el, ec, es, _, xl, xc, xs, mn, _, ol, oc, os, _, sl, sc, ss, _, tl, tc, ts, _, nl, nc, ns, _, kl, kc, ks⟩ s.x _) rfl ?_
                      rintro e W16 ⟨rfl, hb⟩
                      refine ⟨_, rfl, hb, fun hS' => ?_⟩
                      clear hS; have hS := hS'; clear hS' hb
                      refine op_assign rfl rfl ?_
                      refine endF ?_
                      refine XF.thenN ?_
                      refine exitF ?_
                      refine XF.blkO rfl ?_
                      refine XF.thenX ?_
                      refine XF.blkX ?_
                      exact XF.join [(7, .bool (inQ s.x vl)), (8, .bool (decide (s.y = 0))), (9, .bool (decide (s.kk = 0))), (10, .bool (decide (s.s = 0)))] ⟨rfl, rfl, rfl, rfl, trivial⟩ ⟨_, _, _, _, rfl, by unfold kindB; rw [if_neg n1, if_neg n8, if_neg n2, if_neg n3, if_pos (by first | exact .inl hc62 | exact .inr (.inl hc62) | exact .inr (.inr hc62))], hS.tail.tail.clear⟩
                    · have hc62 := of_decide_eq_false hc; clear hc
                      have n6 : ¬ s.k = 6 := hc62
                      refine skipF ?_
                      refine XF.thenN ?_
                      refine exitF ?_
                      refine XF.blkO rfl ?_
                      refine XF.thenX ?_
                      refine XF.blkO rfl ?_
                      refine XF.thenX ?_
                      refine XF.blkO rfl ?_
                      refine XF.thenX ?_
                      refine XF.blkO rfl ?_
                      refine XF.thenX ?_
                      refine XF.blkO rfl ?_
                      refine XF.thenX ?_
                      refine XF.blkX ?_
                      refine XF.thenN ?_
                      refine seqF ?_
                      refine seqF ?_
                      refine regF ?_
                      refine op_assign rfl rfl ?_
                      refine endF ?_
                      refine XF.thenN ?_
                      refine retF ?_
                      refine XF.thenR ?_
                      refine XF.blkR ?_
                      refine XF.thenR ?_
                      refine XF.res (res1 Try.results33 rfl) ?_
                      exact ⟨rbool (by rw [hkk]; unfold kindB; rw [if_neg n1, if_neg n8, if_neg n2, if_neg n3, if_neg (by omega)]), hS.below⟩
end Go.Proofs.Ytpinbmjkbkogdaa
namespace Go.Proofs.Ytpinbmjkbkogdaa
open Go Go.RowKit
set_option linter.unusedVariables false
theorem bld_81_0 (v00 : Value) (v01 : Value) (v02 : Value) (v03 : Value) (v04 : Value) (v05 : Value) (v06 : Value) (v07 : Value) (v08 : Value) (v09 : Value) : Try.prog.built 81 [(0, .agg #[v00, v01, v02, v03, v04, v05, v06, v07, v08, v09])] = some #[v00, v01, v02, v03, v04, v05, v06, v07, v08, v09] := by kernel_rfl
theorem fa_29_6 (w : World) (b o : Nat) : (Instr.fieldAt 29 (.pointer (some ⟨b, o, none⟩)) 6).run Try.prog w = .ok (.pointer (some ⟨b, o + 6, none⟩)) w := by
  simp [Instr.fieldAt, run_underlying Try.underlying29, Instr.sureAddr, go_sem, Addr.add_lit]
theorem fa_29_8 (w : World) (b o : Nat) : (Instr.fieldAt 29 (.pointer (some ⟨b, o, none⟩)) 8).run Try.prog w = .ok (.pointer (some ⟨b, o + 8, none⟩)) w := by
  simp [Instr.fieldAt, run_underlying Try.underlying29, Instr.sureAddr, go_sem, Addr.add_lit]
theorem fa_29_9 (w : World) (b o : Nat) : (Instr.fieldAt 29 (.pointer (some ⟨b, o, none⟩)) 9).run Try.prog w = .ok (.pointer (some ⟨b, o + 9, none⟩)) w := by
  simp [Instr.fieldAt, run_underlying Try.underlying29, Instr.sureAddr, go_sem, Addr.add_lit]
theorem fa_47_1 (w : World) (b o : Nat) : (Instr.fieldAt 47 (.pointer (some ⟨b, o, none⟩)) 1).run Try.prog w = .ok (.pointer (some ⟨b, o + 1, none⟩)) w := by
  simp [Instr.fieldAt, run_underlying Try.underlying47, Instr.sureAddr, go_sem, Addr.add_lit]
theorem fa_85_1 (w : World) (b o : Nat) : (Instr.fieldAt 85 (.pointer (some ⟨b, o, none⟩)) 1).run Try.prog w = .ok (.pointer (some ⟨b, o + 1, none⟩)) w := by
  simp [Instr.fieldAt, run_underlying Try.underlying85, Instr.sureAddr, go_sem, Addr.add_lit]
theorem fa_87_0 (w : World) (b o : Nat) : (Instr.fieldAt 87 (.pointer (some ⟨b, o, none⟩)) 0).run Try.prog w = .ok (.pointer (some ⟨b, o + 0, none⟩)) w := by
  simp [Instr.fieldAt, run_underlying Try.underlying87, Instr.sureAddr, go_sem, Addr.add_lit]
theorem fa_87_1 (w : World) (b o : Nat) : (Instr.fieldAt 87 (.pointer (some ⟨b, o, none⟩)) 1).run Try.prog w = .ok (.pointer (some ⟨b, o + 1, none⟩)) w := by
  simp [Instr.fieldAt, run_underlying Try.underlying87, Instr.sureAddr, go_sem, Addr.add_lit]
theorem goes_22 : goesIn Try.prog 22 = true := by kernel_rfl
theorem goes_23 : goesIn Try.prog 23 = true := by kernel_rfl
theorem goes_24 : goesIn Try.prog 24 = true := by kernel_rfl
theorem goes_33 : goesIn Try.prog 33 = true := by kernel_rfl
set_option maxRecDepth 100000 in
set_option maxHeartbeats 4000000 in
theorem steps_c (va : Option Addr) (vl : Nat) (vc : Nat) (pa : Option Addr) (pl : Nat) (pc : Nat) (ea : Option Addr) (el : Nat) (ec : Nat) (es : List Int) (xa : Option Addr) (xl : Nat) (xc : Nat) (xs : List Int) (mn : Int) (oa : Option Addr) (ol : Nat) (oc : Nat) (os : List Int) (sa : Option Addr) (sl : Nat) (sc : Nat) (ss : List TV) (ta : Option Addr) (tl : Nat) (tc : Nat) (ts : List UV) (na : Option Addr) (nl : Nat) (nc : Nat) (ns : List NV) (ka : Option Addr) (kl : Nat) (kc : Nat) (ks : List KV) (w : World) (he : RowI w ea es) (hel : es.length = el) (hx : RowI w xa xs) (hxl : xs.length = xl) (ho : RowI w oa os) (hol : os.length = ol) (hs : RowL TV.sev 7 w sa ss) (hsl : ss.length = sl) (ht : RowL UV.four 4 w ta ts) (htl : ts.length = tl) (hn : RowL NV.two 2 w na ns) (hnl : ns.length = nl) (hk : RowL KV.two 2 w ka ks) (hkl : ks.length = kl) (b1 : vl ≤ 5000) (b2 : pl ≤ 5000) (b3 : el ≤ 5000) (b4 : xl ≤ 5000) (b5 : ol ≤ 5000) (b6 : sl ≤ 5000) (b7 : tl ≤ 5000) (b8 : nl ≤ 5000) (b9 : kl ≤ 5000) :
    Calls Try.prog 23 #[.agg #[.slice va vl vc, .slice pa pl pc, .slice ea el ec, .slice xa xl xc, .int .i64 mn, .slice oa ol oc, .slice sa sl sc, .slice ta tl tc, .slice na nl nc, .slice ka kl kc]] w (fun e w' => e = .returned (.bool (stepsB ⟨va, vl, vc, pa, pl, pc, ea, el, ec, es, xa, xl, xc, xs, mn, oa, ol, oc, os, sa, sl, sc, ss, ta, tl, tc, ts, na, nl, nc, ns, ka, kl, kc, ks⟩)) ∧ Below w.heap.size w w') := by
  refine enterF (args := [.agg #[.slice va vl vc, .slice pa pl pc, .slice ea el ec, .slice xa xl xc, .int .i64 mn, .slice oa ol oc, .slice sa sl sc, .slice ta tl tc, .slice na nl nc, .slice ka kl kc]]) Try.func23 rfl Try.ntmps23 rfl ?_
  have hS := St.start w
  refine seqF ?_
  refine regF ?_
  refine op_box (cs := [_, _, _, _, _, _, _, _, _, _]) hS rfl rfl rfl ?_
  clear hS; intro B1 W1 hS
  refine op_assign rfl rfl ?_
  refine endF ?_
  refine XF.thenN ?_
  refine seqF ?_
  refine regF ?_
  refine op_assign rfl rfl ?_
  refine endF ?_
  refine XF.thenN ?_
  refine seqF ?_
  refine seqF ?_
  refine regF ?_
  refine op_field (o' := 0) fa_81_0 rfl rfl rfl ?_
  refine op_field (o' := 6) fa_29_6 rfl rfl rfl ?_
  refine op_load Try.isAgg24 rfl (cell_own (hS.at_ 0 rfl) rfl) rfl ?_
  refine op_len Try.underlying24 rfl rfl ?_
  refine op_move rfl rfl ?_
  refine endF ?_
  refine XF.thenN ?_
  refine blockF ?_
  refine loopF (fun m l W => ∃ i n : Nat, i ≤ sl ∧ n ≤ i ∧ m = sl - i ∧ l = [(1, .pointer (some ⟨B1, 0, none⟩)), (3, .int .i64 (n : Int)), (8, .slice sa sl sc), (9, .int .i64 (sl : Int)), (10, .int .i64 (i : Int))] ∧ stepsFrom ⟨va, vl, vc, pa, pl, pc, ea, el, ec, es, xa, xl, xc, xs, mn, oa, ol, oc, os, sa, sl, sc, ss, ta, tl, tc, ts, na, nl, nc, ns, ka, kl, kc, ks⟩ (ss.drop i) n = stepsFrom ⟨va, vl, vc, pa, pl, pc, ea, el, ec, es, xa, xl, xc, xs, mn, oa, ol, oc, os, sa, sl, sc, ss, ta, tl, tc, ts, na, nl, nc, ns, ka, kl, kc, ks⟩ ss 0 ∧ St w [(B1, [.slice va vl vc, .slice pa pl pc, .slice ea el ec, .slice xa xl xc, .int .i64 mn, .slice oa ol oc, .slice sa sl sc, .slice ta tl tc, .slice na nl nc, .slice ka kl kc], 81)] [] [] W) (sl - 0) ([(1, _), (3, _), (8, _), (9, _), (10, _)]) ⟨rfl, rfl, rfl, rfl, rfl, trivial⟩ (⟨0, 0, Nat.zero_le _, Nat.le_refl _, rfl, rfl, rfl, hS.clear⟩) ?_
  clear hS
  rintro m l W ⟨i, n, hi, hni, rfl, rfl, hrun, hS⟩
  refine seqF ?_
  refine regF ?_
  refine op_lss rfl rfl rfl ?_
  refine endF ?_
  refine XF.thenN ?_
  refine seqF ?_
  refine condF rfl (fun hc => ?_) (fun hc => ?_)
  · have hc11 := of_decide_eq_true hc; clear hc
    have hk1 : i < sl := by omega
    obtain ⟨b, off, s, rfl, hy, hyc⟩ := hs.get (i := i) (by omega)
    have k1 := CellsAt.agree hS.agree (Nat.zero_le _) hyc
    rw [drop_at hy] at hrun
    simp only [stepsFrom] at hrun
    refine skipF ?_
    refine XF.thenN ?_
    refine seqF ?_
    refine blockF ?_
    refine seqF ?_
    refine regF ?_
    refine op_indexA  Try.underlying24 Try.sizeOf76 rfl rfl rfl (by omega) rfl rfl ?_
    refine op_loadA (vs := [_, _, _, _, _, _, _]) Try.isAgg76 Try.sizeOf76 rfl (k1) rfl ?_
    refine op_alloc (cs := [_, _, _, _, _, _, _]) hS Try.zeroValue76 rfl rfl ?_
    clear hS; intro B2 W2 hS
    refine op_storeA (i := 0) (vs := [_, _, _, _, _, _, _]) (cs' := [_, _, _, _, _, _, _]) (O' := [_, _]) hS Try.sizeOf76 rfl rfl rfl rfl rfl rfl rfl ?_
    clear hS; intro W3 hS
    refine endF ?_
    refine XF.thenN ?_
    refine seqF ?_
    refine seqF ?_
    refine regF ?_
    refine op_loadA (vs := [_, _, _, _, _, _, _, _, _, _]) Try.isAgg81 Try.sizeOf81 rfl (CellsAt.own (j := 0) (m := 10) (hS.at_ 1 rfl) rfl) rfl ?_
    refine op_loadA (vs := [_, _, _, _, _, _, _]) Try.isAgg76 Try.sizeOf76 rfl (CellsAt.own (j := 0) (m := 7) (hS.at_ 0 rfl) rfl) rfl ?_
    refine op_move rfl rfl ?_
    refine op_call (vs := [_, _, _]) hS goes_33 rfl (step_c _ vl vc _ pl pc _ el ec es _ xl xc xs mn _ ol oc os _ sl sc ss _ tl tc ts _ nl nc ns _ kl kc ks s n _ (he.below hS.below) hel (hx.below hS.below) hxl (ho.below hS.below) hol (hs.below hS.below) hsl (ht.below hS.below) htl (hn.below hS.below) hnl (hk.below hS.below) hkl b1 b2 b3 b4 b5 b6 b7 b8 b9) rfl ?_
    rintro e W4 ⟨rfl, hb⟩
    refine ⟨_, rfl, hb, fun hS' => ?_⟩
    clear hS; have hS := hS'; clear hS' hb
    refine op_not rfl rfl ?_
    refine endF ?_
    refine XF.thenN ?_
    refine condF rfl (fun hc => ?_) (fun hc => ?_)
    · have hc18 := hc; clear hc
      refine seqF ?_
      refine regF ?_
      refine op_assign rfl rfl ?_
      refine endF ?_
      refine XF.thenN ?_
      refine retF ?_
      refine XF.thenR ?_
      refine XF.blkR ?_
      refine XF.thenR ?_
      refine XF.thenR ?_
      refine XF.blkR ?_
      refine XF.thenR ?_
      refine XF.res (res1 Try.results23 rfl) ?_
      rw [if_neg (by simpa using hc18)] at hrun
      exact ⟨rbool (by unfold stepsB; dsimp only; rw [← hrun]; simp), hS.below⟩
    · have hc18 := hc; clear hc
      rw [if_pos (by simpa using hc18)] at hrun
      refine skipF ?_
      refine XF.thenN ?_
      refine seqF ?_
      refine regF ?_
      refine op_field (o' := 2) fa_76_2 rfl rfl rfl ?_
      refine op_load Try.isAgg74 rfl (cell_own (hS.at_ 0 rfl) rfl) rfl ?_
      refine op_eql rfl rfl rfl ?_
      refine endF ?_
      refine XF.thenN ?_
      refine condF rfl (fun hc => ?_) (fun hc => ?_)
      · have hc21 := of_decide_eq_true hc; clear hc
        have h8 : s.k = 8 := hc21
        rw [if_pos h8] at hrun
        refine regF ?_
        refine op_move rfl rfl ?_
        refine op_add rfl rfl (IntWalk.i64_in _ (by omega)) rfl ?_
        refine op_assign rfl rfl ?_
        refine endF ?_
        refine XF.blkN ?_
        refine XF.thenN ?_
        refine regF ?_
        refine op_add rfl rfl (IntWalk.i64_in _ (by omega)) rfl ?_
        refine op_move rfl rfl ?_
        refine endF ?_
        exact XF.round (sl - (i + 1)) [(1, _), (3, _), (8, _), (9, _), (10, _)] (by omega) ⟨rfl, rfl, rfl, rfl, rfl, trivial⟩ ⟨i + 1, n + 1, by omega, by omega, rfl, rfl, hrun, hS.tail.clear⟩
      · have hc21 := of_decide_eq_false hc; clear hc
        have h8 : ¬ s.k = 8 := hc21
        rw [if_neg h8] at hrun
        refine skipF ?_
        refine XF.blkN ?_
        refine XF.thenN ?_
        refine regF ?_
        refine op_add rfl rfl (IntWalk.i64_in _ (by omega)) rfl ?_
        refine op_move rfl rfl ?_
        refine endF ?_
        exact XF.round (sl - (i + 1)) [(1, _), (3, _), (8, _), (9, _), (10, _)] (by omega) ⟨rfl, rfl, rfl, rfl, rfl, trivial⟩ ⟨i + 1, n, by omega, by omega, rfl, rfl, hrun, hS.tail.clear⟩
  · have hc11 := of_decide_eq_false hc; clear hc
    rw [List.drop_of_length_le (by omega)] at hrun
    simp only [stepsFrom] at hrun
    refine exitF ?_
    refine XF.thenX ?_
    refine XF.thenX ?_
    refine XF.blkX ?_
    refine XF.thenN ?_
    refine seqF ?_
    refine regF ?_
    refine op_move rfl rfl ?_
    refine op_field (o' := 0) fa_81_0 rfl rfl rfl ?_
    refine op_field (o' := 7) fa_29_7 rfl rfl rfl ?_
    refine op_load Try.isAgg25 rfl (cell_own (hS.at_ 0 rfl) rfl) rfl ?_
    refine op_len Try.underlying25 rfl rfl ?_
    refine op_eql rfl rfl rfl ?_
    refine op_assign rfl rfl ?_
    refine endF ?_
    refine XF.thenN ?_
    refine retF ?_
    refine XF.res (res1 Try.results23 rfl) ?_
    exact ⟨rbool (by unfold stepsB; dsimp only; rw [← hrun]; exact decide_eq_decide.2 ⟨fun h => by congr 1; omega, fun h => by have := Option.some.inj h; omega⟩), hS.below⟩

set_option maxRecDepth 100000 in
set_option maxHeartbeats 4000000 in
theorem marked_c (va : Option Addr) (vl : Nat) (vc : Nat) (pa : Option Addr) (pl : Nat) (pc : Nat) (ea : Option Addr) (el : Nat) (ec : Nat) (es : List Int) (xa : Option Addr) (xl : Nat) (xc : Nat) (xs : List Int) (mn : Int) (oa : Option Addr) (ol : Nat) (oc : Nat) (os : List Int) (sa : Option Addr) (sl : Nat) (sc : Nat) (ss : List TV) (ta : Option Addr) (tl : Nat) (tc : Nat) (ts : List UV) (na : Option Addr) (nl : Nat) (nc : Nat) (ns : List NV) (ka : Option Addr) (kl : Nat) (kc : Nat) (ks : List KV) (w : World) (he : RowI w ea es) (hel : es.length = el) (hx : RowI w xa xs) (hxl : xs.length = xl) (ho : RowI w oa os) (hol : os.length = ol) (hs : RowL TV.sev 7 w sa ss) (hsl : ss.length = sl) (ht : RowL UV.four 4 w ta ts) (htl : ts.length = tl) (hn : RowL NV.two 2 w na ns) (hnl : ns.length = nl) (hk : RowL KV.two 2 w ka ks) (hkl : ks.length = kl) (b1 : vl ≤ 5000) (b2 : pl ≤ 5000) (b3 : el ≤ 5000) (b4 : xl ≤ 5000) (b5 : ol ≤ 5000) (b6 : sl ≤ 5000) (b7 : tl ≤ 5000) (b8 : nl ≤ 5000) (b9 : kl ≤ 5000) :
    Calls Try.prog 24 #[.agg #[.slice va vl vc, .slice pa pl pc, .slice ea el ec, .slice xa xl xc, .int .i64 mn, .slice oa ol oc, .slice sa sl sc, .slice ta tl tc, .slice na nl nc, .slice ka kl kc]] w (fun e w' => e = .returned (.bool (markedB ⟨va, vl, vc, pa, pl, pc, ea, el, ec, es, xa, xl, xc, xs, mn, oa, ol, oc, os, sa, sl, sc, ss, ta, tl, tc, ts, na, nl, nc, ns, ka, kl, kc, ks⟩)) ∧ Below w.heap.size w w') := by
  refine enterF (args := [.agg #[.slice va vl vc, .slice pa pl pc, .slice ea el ec, .slice xa xl xc, .int .i64 mn, .slice oa ol oc, .slice sa sl sc, .slice ta tl tc, .slice na nl nc, .slice ka kl kc]]) Try.func24 rfl Try.ntmps24 rfl ?_
  have hS := St.start w
  refine seqF ?_
  refine regF ?_
  refine op_box (cs := [_, _, _, _, _, _, _, _, _, _]) hS rfl rfl rfl ?_
  clear hS; intro B1 W1 hS
  refine op_assign rfl rfl ?_
  refine endF ?_
  refine XF.thenN ?_
  refine seqF ?_
  refine seqF ?_
  refine regF ?_
  refine op_field (o' := 0) fa_81_0 rfl rfl rfl ?_
  refine op_field (o' := 7) fa_29_7 rfl rfl rfl ?_
  refine op_load Try.isAgg25 rfl (cell_own (hS.at_ 0 rfl) rfl) rfl ?_
  refine op_len Try.underlying25 rfl rfl ?_
  refine op_move rfl rfl ?_
  refine endF ?_
  refine XF.thenN ?_
  refine blockF ?_
  refine loopF (fun m l W => ∃ i : Nat, i ≤ tl ∧ m = tl - i ∧ l = [(1, .pointer (some ⟨B1, 0, none⟩)), (11, .slice ta tl tc), (12, .int .i64 (tl : Int)), (13, .int .i64 (i : Int))] ∧ (ts.take i).all (fun u => inQ u.pr pl) = true ∧ St w [(B1, [.slice va vl vc, .slice pa pl pc, .slice ea el ec, .slice xa xl xc, .int .i64 mn, .slice oa ol oc, .slice sa sl sc, .slice ta tl tc, .slice na nl nc, .slice ka kl kc], 81)] [] [] W) (tl - 0) ([(1, _), (11, _), (12, _), (13, _)]) ⟨rfl, rfl, rfl, rfl, trivial⟩ (⟨0, Nat.zero_le _, rfl, rfl, rfl, hS.clear⟩) ?_
  clear hS
  rintro m l W ⟨i, hi, rfl, rfl, ha1, hS⟩
  refine seqF ?_
  refine regF ?_
  refine op_lss rfl rfl rfl ?_
  refine endF ?_
  refine XF.thenN ?_
  refine seqF ?_
  refine condF rfl (fun hc => ?_) (fun hc => ?_)
  · have hc14 := of_decide_eq_true hc; clear hc
    have hk1 : i < tl := by omega
    obtain ⟨b, off, u, rfl, hy, hyc⟩ := ht.get (i := i) (by omega)
    have k1 := CellsAt.agree hS.agree (Nat.zero_le _) hyc
    refine skipF ?_
    refine XF.thenN ?_
    refine seqF ?_
    refine blockF ?_
    refine seqF ?_
    refine regF ?_
    refine op_indexA  Try.underlying25 Try.sizeOf47 rfl rfl rfl (by omega) rfl rfl ?_
    refine op_loadA (vs := [_, _, _, _]) Try.isAgg47 Try.sizeOf47 rfl (k1) rfl ?_
    refine op_alloc (cs := [_, _, _, _]) hS Try.zeroValue47 rfl rfl ?_
    clear hS; intro B2 W2 hS
    refine op_storeA (i := 0) (vs := [_, _, _, _]) (cs' := [_, _, _, _]) (O' := [_, _]) hS Try.sizeOf47 rfl rfl rfl rfl rfl rfl rfl ?_
    clear hS; intro W3 hS
    refine endF ?_
    refine XF.thenN ?_
    refine seqF ?_
    refine regF ?_
    refine op_loadA (vs := [_, _, _, _, _, _, _, _, _, _]) Try.isAgg81 Try.sizeOf81 rfl (CellsAt.own (j := 0) (m := 10) (hS.at_ 1 rfl) rfl) rfl ?_
    refine op_field (o' := 1) fa_47_1 rfl rfl rfl ?_
    refine op_load Try.isAgg3 rfl (cell_own (hS.at_ 0 rfl) rfl) rfl ?_
    refine op_call (vs := [_, _]) hS goes_31 rfl (isProc_is ⟨_, vl, vc, _, pl, pc, _, el, ec, es, _, xl, xc, xs, mn, _, ol, oc, os, _, sl, sc, ss, _, tl, tc, ts, _, nl, nc, ns, _, kl, kc, ks⟩ u.pr _) rfl ?_
    rintro e W4 ⟨rfl, hb⟩
    refine ⟨_, rfl, hb, fun hS' => ?_⟩
    clear hS; have hS := hS'; clear hS' hb
    refine op_not rfl rfl ?_
    refine endF ?_
    refine XF.thenN ?_
    refine condF rfl (fun hc => ?_) (fun hc => ?_)
    · have hc21 := hc; clear hc
      refine seqF ?_
      refine regF ?_
      refine op_assign rfl rfl ?_
      refine endF ?_
      refine XF.thenN ?_
      refine retF ?_
      refine XF.blkR ?_
      refine XF.thenR ?_
      refine XF.thenR ?_
      refine XF.blkR ?_
      refine XF.thenR ?_
      refine XF.res (res1 Try.results24 rfl) ?_
      exact ⟨rbool (by unfold markedB; dsimp only; rw [if_pos (all_false_at hy (by simpa using hc21))]), hS.below⟩
    · have hc21 := hc; clear hc
      refine skipF ?_
      refine XF.blkN ?_
      refine XF.thenN ?_
      refine regF ?_
      refine op_add rfl rfl (IntWalk.i64_in _ (by omega)) rfl ?_
      refine op_move rfl rfl ?_
      refine endF ?_
      exact XF.round (tl - (i + 1)) [(1, _), (11, _), (12, _), (13, _)] (by omega) ⟨rfl, rfl, rfl, rfl, trivial⟩ ⟨i + 1, by omega, rfl, rfl, all_take_at hy ha1 (by simpa using hc21), hS.tail.clear⟩
  · have hc14 := of_decide_eq_false hc; clear hc
    rw [List.take_of_length_le (by omega)] at ha1
    refine exitF ?_
    refine XF.thenX ?_
    refine XF.thenX ?_
    refine XF.blkX ?_
    refine XF.thenN ?_
    refine seqF ?_
    refine seqF ?_
    refine regF ?_
    refine op_field (o' := 0) fa_81_0 rfl rfl rfl ?_
    refine op_field (o' := 8) fa_29_8 rfl rfl rfl ?_
    refine op_load Try.isAgg26 rfl (cell_own (hS.at_ 0 rfl) rfl) rfl ?_
    refine op_len Try.underlying26 rfl rfl ?_
    refine op_move rfl rfl ?_
    refine endF ?_
    refine XF.thenN ?_
    refine blockF ?_
    refine loopF (fun m l W => ∃ i : Nat, i ≤ nl ∧ m = nl - i ∧ l = [(1, .pointer (some ⟨B1, 0, none⟩)), (25, .slice na nl nc), (26, .int .i64 (nl : Int)), (27, .int .i64 (i : Int))] ∧ (ns.take i).all (fun u => inQ u.nd ol) = true ∧ St w [(B1, [.slice va vl vc, .slice pa pl pc, .slice ea el ec, .slice xa xl xc, .int .i64 mn, .slice oa ol oc, .slice sa sl sc, .slice ta tl tc, .slice na nl nc, .slice ka kl kc], 81)] [] [] W) (nl - 0) ([(1, _), (25, _), (26, _), (27, _)]) ⟨rfl, rfl, rfl, rfl, trivial⟩ (⟨0, Nat.zero_le _, rfl, rfl, rfl, hS.clear⟩) ?_
    clear hS
    rintro m l W ⟨i, hi, rfl, rfl, ha2, hS⟩
    refine seqF ?_
    refine regF ?_
    refine op_lss rfl rfl rfl ?_
    refine endF ?_
    refine XF.thenN ?_
    refine seqF ?_
    refine condF rfl (fun hc => ?_) (fun hc => ?_)
    · have hc28 := of_decide_eq_true hc; clear hc
      have hk1 : i < nl := by omega
      obtain ⟨b, off, u, rfl, hy, hyc⟩ := hn.get (i := i) (by omega)
      have k1 := CellsAt.agree hS.agree (Nat.zero_le _) hyc
      refine skipF ?_
      refine XF.thenN ?_
      refine seqF ?_
      refine blockF ?_
      refine seqF ?_
      refine regF ?_
      refine op_indexA  Try.underlying26 Try.sizeOf85 rfl rfl rfl (by omega) rfl rfl ?_
      refine op_loadA (vs := [_, _]) Try.isAgg85 Try.sizeOf85 rfl (k1) rfl ?_
      refine op_alloc (cs := [_, _]) hS Try.zeroValue85 rfl rfl ?_
      clear hS; intro B5 W5 hS
      refine op_storeA (i := 0) (vs := [_, _]) (cs' := [_, _]) (O' := [_, _]) hS Try.sizeOf85 rfl rfl rfl rfl rfl rfl rfl ?_
      clear hS; intro W6 hS
      refine endF ?_
      refine XF.thenN ?_
      refine seqF ?_
      refine regF ?_
      refine op_loadA (vs := [_, _, _, _, _, _, _, _, _, _]) Try.isAgg81 Try.sizeOf81 rfl (CellsAt.own (j := 0) (m := 10) (hS.at_ 1 rfl) rfl) rfl ?_
      refine op_field (o' := 1) fa_85_1 rfl rfl rfl ?_
      refine op_load Try.isAgg3 rfl (cell_own (hS.at_ 0 rfl) rfl) rfl ?_
      refine op_call (vs := [_, _]) hS goes_32 rfl (isNode_is ⟨_, vl, vc, _, pl, pc, _, el, ec, es, _, xl, xc, xs, mn, _, ol, oc, os, _, sl, sc, ss, _, tl, tc, ts, _, nl, nc, ns, _, kl, kc, ks⟩ u.nd _) rfl ?_
      rintro e W7 ⟨rfl, hb⟩
      refine ⟨_, rfl, hb, fun hS' => ?_⟩
      clear hS; have hS := hS'; clear hS' hb
      refine op_not rfl rfl ?_
      refine endF ?_
      refine XF.thenN ?_
      refine condF rfl (fun hc => ?_) (fun hc => ?_)
      · have hc35 := hc; clear hc
        refine seqF ?_
        refine regF ?_
        refine op_assign rfl rfl ?_
        refine endF ?_
        refine XF.thenN ?_
        refine retF ?_
        refine XF.blkR ?_
        refine XF.thenR ?_
        refine XF.thenR ?_
        refine XF.blkR ?_
        refine XF.thenR ?_
        refine XF.res (res1 Try.results24 rfl) ?_
        exact ⟨rbool (by unfold markedB; dsimp only; rw [if_neg (by rw [ha1]; simp), if_pos (all_false_at hy (by simpa using hc35))]), hS.below⟩
      · have hc35 := hc; clear hc
        refine skipF ?_
        refine XF.blkN ?_
        refine XF.thenN ?_
        refine regF ?_
        refine op_add rfl rfl (IntWalk.i64_in _ (by omega)) rfl ?_
        refine op_move rfl rfl ?_
        refine endF ?_
        exact XF.round (nl - (i + 1)) [(1, _), (25, _), (26, _), (27, _)] (by omega) ⟨rfl, rfl, rfl, rfl, trivial⟩ ⟨i + 1, by omega, rfl, rfl, all_take_at hy ha2 (by simpa using hc35), hS.tail.clear⟩
    · have hc28 := of_decide_eq_false hc; clear hc
      rw [List.take_of_length_le (by omega)] at ha2
      refine exitF ?_
      refine XF.thenX ?_
      refine XF.thenX ?_
      refine XF.blkX ?_
      refine XF.thenN ?_
      refine seqF ?_
      refine seqF ?_
      refine regF ?_
      refine op_field (o' := 0) fa_81_0 rfl rfl rfl ?_
      refine op_field (o' := 9) fa_29_9 rfl rfl rfl ?_
      refine op_load Try.isAgg27 rfl (cell_own (hS.at_ 0 rfl) rfl) rfl ?_
      refine op_len Try.underlying27 rfl rfl ?_
      refine op_move rfl rfl ?_
      refine endF ?_
      refine XF.thenN ?_
      refine blockF ?_
      refine loopF (fun m l W => ∃ i : Nat, i ≤ kl ∧ m = kl - i ∧ l = [(1, .pointer (some ⟨B1, 0, none⟩)), (39, .slice ka kl kc), (40, .int .i64 (kl : Int)), (41, .int .i64 (i : Int))] ∧ (ks.take i).all (fun u => inQ u.nd ol && inQ u.x vl) = true ∧ St w [(B1, [.slice va vl vc, .slice pa pl pc, .slice ea el ec, .slice xa xl xc, .int .i64 mn, .slice oa ol oc, .slice sa sl sc, .slice ta tl tc, .slice na nl nc, .slice ka kl kc], 81)] [] [] W) (kl - 0) ([(1, _), (39, _), (40, _), (41, _)]) ⟨rfl, rfl, rfl, rfl, trivial⟩ (⟨0, Nat.zero_le _, rfl, rfl, rfl, hS.clear⟩) ?_
      clear hS
      rintro m l W ⟨i, hi, rfl, rfl, ha3, hS⟩
      refine seqF ?_
      refine regF ?_
      refine op_lss rfl rfl rfl ?_
      refine endF ?_
      refine XF.thenN ?_
      refine seqF ?_
      refine condF rfl (fun hc => ?_) (fun hc => ?_)
      · have hc42 := of_decide_eq_true hc; clear hc
        have hk1 : i < kl := by omega
        obtain ⟨b, off, u, rfl, hy, hyc⟩ := hk.get (i := i) (by omega)
        have k1 := CellsAt.agree hS.agree (Nat.zero_le _) hyc
        refine skipF ?_
        refine XF.thenN ?_
        refine seqF ?_
        refine blockF ?_
        refine seqF ?_
        refine regF ?_
        refine op_indexA  Try.underlying27 Try.sizeOf87 rfl rfl rfl (by omega) rfl rfl ?_
        refine op_loadA (vs := [_, _]) Try.isAgg87 Try.sizeOf87 rfl (k1) rfl ?_
        refine op_alloc (cs := [_, _]) hS Try.zeroValue87 rfl rfl ?_
        clear hS; intro B8 W8 hS
        refine op_storeA (i := 0) (vs := [_, _]) (cs' := [_, _]) (O' := [_, _]) hS Try.sizeOf87 rfl rfl rfl rfl rfl rfl rfl ?_
        clear hS; intro W9 hS
        refine endF ?_
        refine XF.thenN ?_
        refine seqF ?_
        refine regF ?_
        refine op_loadA (vs := [_, _, _, _, _, _, _, _, _, _]) Try.isAgg81 Try.sizeOf81 rfl (CellsAt.own (j := 0) (m := 10) (hS.at_ 1 rfl) rfl) rfl ?_
        refine op_field (o' := 1) fa_87_1 rfl rfl rfl ?_
        refine op_load Try.isAgg3 rfl (cell_own (hS.at_ 0 rfl) rfl) rfl ?_
        refine op_call (vs := [_, _]) hS goes_32 rfl (isNode_is ⟨_, vl, vc, _, pl, pc, _, el, ec, es, _, xl, xc, xs, mn, _, ol, oc, os, _, sl, sc, ss, _, tl, tc, ts, _, nl, nc, ns, _, kl, kc, ks⟩ u.nd _) rfl ?_
        rintro e W10 ⟨rfl, hb⟩
        refine ⟨_, rfl, hb, fun hS' => ?_⟩
        clear hS; have hS := hS'; clear hS' hb
        refine op_not rfl rfl ?_
        refine op_move rfl rfl ?_
        refine op_cases (d := 50) rfl (fun hc => ?_) (fun hc => ?_)
        · have hg50 := hc; clear hc
          have h50 : inQ u.nd ol = false := by simpa using hg50
          refine op_notF (d := 50) rfl rfl rfl rfl ?_
          refine op_notF (d := 50) rfl rfl rfl rfl ?_
          refine op_notF (d := 50) rfl rfl rfl rfl ?_
          refine op_notF (d := 50) rfl rfl rfl rfl ?_
          refine op_notF (d := 50) rfl rfl rfl rfl ?_
          refine op_pickT rfl rfl rfl ?_
          refine endF ?_
          refine XF.thenN ?_
          refine condT rfl ?_
          refine seqF ?_
          refine regF ?_
          refine op_assign rfl rfl ?_
          refine endF ?_
          refine XF.thenN ?_
          refine retF ?_
          refine XF.blkR ?_
          refine XF.thenR ?_
          refine XF.thenR ?_
          refine XF.blkR ?_
          refine XF.thenR ?_
          refine XF.res (res1 Try.results24 rfl) ?_
          exact ⟨rbool (by unfold markedB; dsimp only; rw [if_neg (by rw [ha1]; simp), if_neg (by rw [ha2]; simp), all_false_at hy (by rw [h50]; rfl)]), hS.below⟩
        · have hg50 := hc; clear hc
          have h50 : inQ u.nd ol = true := by simpa using hg50
          refine op_wantedF (d := 50) rfl rfl ?_
          refine op_loadA (vs := [_, _, _, _, _, _, _, _, _, _]) Try.isAgg81 Try.sizeOf81 rfl (CellsAt.own (j := 0) (m := 10) (hS.at_ 1 rfl) rfl) rfl ?_
          refine op_wantedF (d := 50) rfl rfl ?_
          refine op_field (o' := 0) fa_87_0 rfl rfl rfl ?_
          refine op_wantedF (d := 50) rfl rfl ?_
          refine op_load Try.isAgg3 rfl (cell_own (hS.at_ 0 rfl) rfl) rfl ?_
          refine op_wantedF (d := 50) rfl rfl ?_
          refine op_call (vs := [_, _]) hS goes_34 rfl (isVar_is ⟨_, vl, vc, _, pl, pc, _, el, ec, es, _, xl, xc, xs, mn, _, ol, oc, os, _, sl, sc, ss, _, tl, tc, ts, _, nl, nc, ns, _, kl, kc, ks⟩ u.x _) rfl ?_
          rintro e W11 ⟨rfl, hb⟩
          refine ⟨_, rfl, hb, fun hS' => ?_⟩
          clear hS; have hS := hS'; clear hS' hb
          refine op_wantedF (d := 50) rfl rfl ?_
          refine op_not rfl rfl ?_
          refine op_pickF rfl rfl rfl ?_
          refine endF ?_
          refine XF.thenN ?_
          refine condF rfl (fun hc => ?_) (fun hc => ?_)
          · have hc56 := hc; clear hc
            refine seqF ?_
            refine regF ?_
            refine op_assign rfl rfl ?_
            refine endF ?_
            refine XF.thenN ?_
            refine retF ?_
            refine XF.blkR ?_
            refine XF.thenR ?_
            refine XF.thenR ?_
            refine XF.blkR ?_
            refine XF.thenR ?_
            refine XF.res (res1 Try.results24 rfl) ?_
            exact ⟨rbool (by unfold markedB; dsimp only; rw [if_neg (by rw [ha1]; simp), if_neg (by rw [ha2]; simp), all_false_at hy (by rw [h50, show inQ u.x vl = false by simpa using hc56]; rfl)]), hS.below⟩
          · have hc56 := hc; clear hc
            refine skipF ?_
            refine XF.blkN ?_
            refine XF.thenN ?_
            refine regF ?_
            refine op_add rfl rfl (IntWalk.i64_in _ (by omega)) rfl ?_
            refine op_move rfl rfl ?_
            refine endF ?_
            exact XF.round (kl - (i + 1)) [(1, _), (39, _), (40, _), (41, _)] (by omega) ⟨rfl, rfl, rfl, rfl, trivial⟩ ⟨i + 1, by omega, rfl, rfl, all_take_at hy ha3 (by rw [h50, show inQ u.x vl = true by simpa using hc56]; rfl), hS.tail.clear⟩
      · have hc42 := of_decide_eq_false hc; clear hc
        refine exitF ?_
        refine XF.thenX ?_
        refine XF.thenX ?_
        refine XF.blkX ?_
        refine XF.thenN ?_
        refine seqF ?_
        refine regF ?_
        refine op_assign rfl rfl ?_
        refine endF ?_
        refine XF.thenN ?_
        refine retF ?_
        refine XF.res (res1 Try.results24 rfl) ?_
        rw [List.take_of_length_le (by omega)] at ha3
        exact ⟨rbool (by unfold markedB; dsimp only; rw [if_neg (by rw [ha1]; simp), if_neg (by rw [ha2]; simp), ha3]), hS.below⟩

set_option maxRecDepth 100000 in
set_option maxHeartbeats 4000000 in
theorem check_c (va : Option Addr) (vl : Nat) (vc : Nat) (pa : Option Addr) (pl : Nat) (pc : Nat) (ea : Option Addr) (el : Nat) (ec : Nat) (es : List Int) (xa : Option Addr) (xl : Nat) (xc : Nat) (xs : List Int) (mn : Int) (oa : Option Addr) (ol : Nat) (oc : Nat) (os : List Int) (sa : Option Addr) (sl : Nat) (sc : Nat) (ss : List TV) (ta : Option Addr) (tl : Nat) (tc : Nat) (ts : List UV) (na : Option Addr) (nl : Nat) (nc : Nat) (ns : List NV) (ka : Option Addr) (kl : Nat) (kc : Nat) (ks : List KV) (w : World) (he : RowI w ea es) (hel : es.length = el) (hx : RowI w xa xs) (hxl : xs.length = xl) (ho : RowI w oa os) (hol : os.length = ol) (hs : RowL TV.sev 7 w sa ss) (hsl : ss.length = sl) (ht : RowL UV.four 4 w ta ts) (htl : ts.length = tl) (hn : RowL NV.two 2 w na ns) (hnl : ns.length = nl) (hk : RowL KV.two 2 w ka ks) (hkl : ks.length = kl) (b1 : vl ≤ 5000) (b2 : pl ≤ 5000) (b3 : el ≤ 5000) (b4 : xl ≤ 5000) (b5 : ol ≤ 5000) (b6 : sl ≤ 5000) (b7 : tl ≤ 5000) (b8 : nl ≤ 5000) (b9 : kl ≤ 5000) :
    Calls Try.prog 15 #[.agg #[.slice va vl vc, .slice pa pl pc, .slice ea el ec, .slice xa xl xc, .int .i64 mn, .slice oa ol oc, .slice sa sl sc, .slice ta tl tc, .slice na nl nc, .slice ka kl kc]] w (fun e w' => e = .returned (.int .i64 (checkE ⟨va, vl, vc, pa, pl, pc, ea, el, ec, es, xa, xl, xc, xs, mn, oa, ol, oc, os, sa, sl, sc, ss, ta, tl, tc, ts, na, nl, nc, ns, ka, kl, kc, ks⟩)) ∧ Below w.heap.size w w') := by
  refine enterF (args := [.agg #[.slice va vl vc, .slice pa pl pc, .slice ea el ec, .slice xa xl xc, .int .i64 mn, .slice oa ol oc, .slice sa sl sc, .slice ta tl tc, .slice na nl nc, .slice ka kl kc]]) Try.func15 rfl Try.ntmps15 rfl ?_
  have hS := St.start w
  refine seqF ?_
  refine regF ?_
  refine op_box (cs := [_, _, _, _, _, _, _, _, _, _]) hS rfl rfl rfl ?_
  clear hS; intro B1 W1 hS
  refine op_assign rfl rfl ?_
  refine endF ?_
  refine XF.thenN ?_
  refine seqF ?_
  refine regF ?_
  refine op_loadA (vs := [_, _, _, _, _, _, _, _, _, _]) Try.isAgg29 Try.sizeOf29 rfl (CellsAt.own (j := 0) (m := 10) (hS.at_ 0 rfl) rfl) rfl ?_
  refine op_build (us := [(0, .agg (List.toArray [_, _, _, _, _, _, _, _, _, _]))]) rfl (bld_81_0 _ _ _ _ _ _ _ _ _ _) rfl ?_
  refine op_alloc (cs := [_, _, _, _, _, _, _, _, _, _]) hS Try.zeroValue81 rfl rfl ?_
  clear hS; intro B2 W2 hS
  refine op_storeA (i := 0) (vs := [_, _, _, _, _, _, _, _, _, _]) (cs' := [_, _, _, _, _, _, _, _, _, _]) (O' := [_, _]) hS Try.sizeOf81 rfl rfl rfl rfl rfl rfl rfl ?_
  clear hS; intro W3 hS
  refine endF ?_
  refine XF.thenN ?_
  refine seqF ?_
  refine seqF ?_
  refine regF ?_
  refine op_loadA (vs := [_, _, _, _, _, _, _, _, _, _]) Try.isAgg81 Try.sizeOf81 rfl (CellsAt.own (j := 0) (m := 10) (hS.at_ 0 rfl) rfl) rfl ?_
  refine op_call (vs := [_]) hS goes_22 rfl (sized_c _ vl vc _ pl pc _ el ec es _ xl xc xs mn _ ol oc os _ sl sc ss _ tl tc ts _ nl nc ns _ kl kc ks  _ (he.below hS.below) hel (hx.below hS.below) hxl (ho.below hS.below) hol (hs.below hS.below) hsl (ht.below hS.below) htl (hn.below hS.below) hnl (hk.below hS.below) hkl b1 b2 b3 b4 b5 b6 b7 b8 b9) rfl ?_
  rintro e W4 ⟨rfl, hb⟩
  refine ⟨_, rfl, hb, fun hS' => ?_⟩
  clear hS; have hS := hS'; clear hS' hb
  refine op_not rfl rfl ?_
  refine op_move rfl rfl ?_
  refine op_cases (d := 9) rfl (fun hc => ?_) (fun hc => ?_)
  · have hg9 := hc; clear hc
    refine op_notF (d := 9) rfl rfl rfl rfl ?_
    refine op_notF (d := 9) rfl rfl rfl rfl ?_
    refine op_notF (d := 9) rfl rfl rfl rfl ?_
    refine op_pickT rfl rfl rfl ?_
    refine op_move rfl rfl ?_
    refine op_notF (d := 14) rfl rfl rfl rfl ?_
    refine op_notF (d := 14) rfl rfl rfl rfl ?_
    refine op_notF (d := 14) rfl rfl rfl rfl ?_
    refine op_pickT rfl rfl rfl ?_
    refine endF ?_
    refine XF.thenN ?_
    refine condT rfl ?_
    refine seqF ?_
    refine regF ?_
    refine op_assign rfl rfl ?_
    refine endF ?_
    refine XF.thenN ?_
    refine retF ?_
    refine XF.thenR ?_
    refine XF.res (res1 Try.results15 rfl) ?_
    exact ⟨rint (by unfold checkE; rw [if_pos (by simpa using hg9)]), hS.below⟩
  · have hg9 := hc; clear hc
    have h9 : sizedB ⟨va, vl, vc, pa, pl, pc, ea, el, ec, es, xa, xl, xc, xs, mn, oa, ol, oc, os, sa, sl, sc, ss, ta, tl, tc, ts, na, nl, nc, ns, ka, kl, kc, ks⟩ = true := by simpa using hg9
    refine op_wantedF (d := 9) rfl rfl ?_
    refine op_loadA (vs := [_, _, _, _, _, _, _, _, _, _]) Try.isAgg81 Try.sizeOf81 rfl (CellsAt.own (j := 0) (m := 10) (hS.at_ 0 rfl) rfl) rfl ?_
    refine op_wantedF (d := 9) rfl rfl ?_
    refine op_call (vs := [_]) hS goes_23 rfl (steps_c _ vl vc _ pl pc _ el ec es _ xl xc xs mn _ ol oc os _ sl sc ss _ tl tc ts _ nl nc ns _ kl kc ks  _ (he.below hS.below) hel (hx.below hS.below) hxl (ho.below hS.below) hol (hs.below hS.below) hsl (ht.below hS.below) htl (hn.below hS.below) hnl (hk.below hS.below) hkl b1 b2 b3 b4 b5 b6 b7 b8 b9) rfl ?_
    rintro e W5 ⟨rfl, hb⟩
    refine ⟨_, rfl, hb, fun hS' => ?_⟩
    clear hS; have hS := hS'; clear hS' hb
    refine op_wantedF (d := 9) rfl rfl ?_
    refine op_not rfl rfl ?_
    refine op_pickF rfl rfl rfl ?_
    refine op_move rfl rfl ?_
    refine op_cases (d := 14) rfl (fun hc => ?_) (fun hc => ?_)
    · have hg14 := hc; clear hc
      refine op_notF (d := 14) rfl rfl rfl rfl ?_
      refine op_notF (d := 14) rfl rfl rfl rfl ?_
      refine op_notF (d := 14) rfl rfl rfl rfl ?_
      refine op_pickT rfl rfl rfl ?_
      refine endF ?_
      refine XF.thenN ?_
      refine condT rfl ?_
      refine seqF ?_
      refine regF ?_
      refine op_assign rfl rfl ?_
      refine endF ?_
      refine XF.thenN ?_
      refine retF ?_
      refine XF.thenR ?_
      refine XF.res (res1 Try.results15 rfl) ?_
      exact ⟨rint (by unfold checkE; rw [if_neg (by rw [h9]; simp), if_pos (by simpa using hg14)]), hS.below⟩
    · have hg14 := hc; clear hc
      have h14 : stepsB ⟨va, vl, vc, pa, pl, pc, ea, el, ec, es, xa, xl, xc, xs, mn, oa, ol, oc, os, sa, sl, sc, ss, ta, tl, tc, ts, na, nl, nc, ns, ka, kl, kc, ks⟩ = true := by simpa using hg14
      refine op_wantedF (d := 14) rfl rfl ?_
      refine op_loadA (vs := [_, _, _, _, _, _, _, _, _, _]) Try.isAgg81 Try.sizeOf81 rfl (CellsAt.own (j := 0) (m := 10) (hS.at_ 0 rfl) rfl) rfl ?_
      refine op_wantedF (d := 14) rfl rfl ?_
      refine op_call (vs := [_]) hS goes_24 rfl (marked_c _ vl vc _ pl pc _ el ec es _ xl xc xs mn _ ol oc os _ sl sc ss _ tl tc ts _ nl nc ns _ kl kc ks  _ (he.below hS.below) hel (hx.below hS.below) hxl (ho.below hS.below) hol (hs.below hS.below) hsl (ht.below hS.below) htl (hn.below hS.below) hnl (hk.below hS.below) hkl b1 b2 b3 b4 b5 b6 b7 b8 b9) rfl ?_
      rintro e W6 ⟨rfl, hb⟩
      refine ⟨_, rfl, hb, fun hS' => ?_⟩
      clear hS; have hS := hS'; clear hS' hb
      refine op_wantedF (d := 14) rfl rfl ?_
      refine op_not rfl rfl ?_
      refine op_pickF rfl rfl rfl ?_
      refine endF ?_
      refine XF.thenN ?_
      refine condF rfl (fun hc => ?_) (fun hc => ?_)
      · have hc18 := hc; clear hc
        refine seqF ?_
        refine regF ?_
        refine op_assign rfl rfl ?_
        refine endF ?_
        refine XF.thenN ?_
        refine retF ?_
        refine XF.thenR ?_
        refine XF.res (res1 Try.results15 rfl) ?_
        exact ⟨rint (by unfold checkE; rw [if_neg (by rw [h9]; simp), if_neg (by rw [h14]; simp), if_pos (by simpa using hc18)]), hS.below⟩
      · have hc18 := hc; clear hc
        refine skipF ?_
        refine XF.thenN ?_
        refine seqF ?_
        refine regF ?_
        refine op_assign rfl rfl ?_
        refine endF ?_
        refine XF.thenN ?_
        refine retF ?_
        refine XF.res (res1 Try.results15 rfl) ?_
        exact ⟨rint (by unfold checkE; rw [if_neg (by rw [h9]; simp), if_neg (by rw [h14]; simp), if_neg (by simpa using hc18)]), hS.below⟩

end Go.Proofs.Ytpinbmjkbkogdaa
namespace Go.Proofs.Ytpinbmjkbkogdaa
open Go Go.RowKit
set_option linter.unusedVariables false
theorem St.ownG {w0 W : World} {O : Own} {G : Grows} {K : List (Nat × World)} {B n size : Nat} {cs : List Value} {e : TypeId} (h : St w0 ((B, cs, e) :: O) G K W) (hl : cs.length = n * size) (hm : n ≤ maxLen) : St w0 O (⟨.slice (some ⟨B, 0, none⟩) n n, n, cs, e, size⟩ :: G) K W := by
  have hB := h.own _ List.mem_cons_self
  have hd := List.pairwise_cons.1 h.dist
  refine ⟨h.below, fun p hp => h.own p (List.mem_cons_of_mem _ hp), hd.2, fun q hq => ⟨(h.kept q hq).1, fun p hp => (h.kept q hq).2 p (List.mem_cons_of_mem _ hp)⟩, fun g hg => ?_, List.Pairwise.cons (fun q hq b e1 e2 => ?_) h.gdist⟩
  · rcases List.mem_cons.1 hg with rfl | hg
    · refine ⟨⟨hl, .inr ⟨B, n, cs.toArray, rfl, hB.1, hB.2, Nat.le_refl _, hm, by simpa using hl, ?_⟩⟩, fun b e1 => ?_⟩
      · show cs.take (n * size) = cs
        exact List.take_of_length_le (by omega)
      · have e2 : B = b := Option.some.inj e1
        subst e2
        exact ⟨fun p hp => Ne.symm (hd.1 p hp), fun q hq => (h.kept q hq).2 _ List.mem_cons_self⟩
    · exact ⟨(h.rows g hg).1, fun b e1 => ⟨fun p hp => ((h.rows g hg).2 b e1).1 p (List.mem_cons_of_mem _ hp), ((h.rows g hg).2 b e1).2⟩⟩
  · have e3 : B = b := Option.some.inj e1
    exact ((h.rows q hq).2 b e2).1 _ List.mem_cons_self e3
def RowN (lo : Nat) (W : World) (a : Option Addr) (c : Nat) (xs : List Int) : Prop := W.ownsRow lo 3 1 (.slice a xs.length c) xs.length (xs.map (Value.int .i64))
theorem RowN.row {lo : Nat} {W : World} {a : Option Addr} {c : Nat} {xs : List Int} (h : RowN lo W a c xs) : RowI W a xs := by
  rcases ownsRow_cells h with ⟨_, h2⟩ | ⟨b, h1, _, h3⟩
  · exact .inl (List.eq_nil_of_length_eq_zero h2)
  · refine .inr ⟨b, 0, h1, fun i x hi => ⟨?_, trivial⟩⟩
    rw [Nat.zero_add, Nat.mul_one]
    exact h3 i _ (by rw [List.getElem?_map, hi]; rfl)
theorem RowN.agree {lo : Nat} {A W : World} {a : Option Addr} {c : Nat} {xs : List Int} (h : RowN lo A a c xs) (hg : Agree lo A W) : RowN lo W a c xs := ownsRow_agree h hg
def backs (ts : List UV) (tl : Nat) : List Int → Option (List Int)
  | [] => some []
  | s :: r => if inQ s tl = true then (match ts[s.toNat]? with | some u => (backs ts tl r).map (u.bk :: ·) | none => none) else none
def confE (g : GV) (node : Int) (is : List Int) : Int × List Int :=
  if checkE g ≠ 0 then (checkE g, []) else if inQ node g.ol = false then (5, []) else match backs g.ts g.tl is with
    | none => (5, [])
    | some l => if 4096 < l.length + 1 then (2, []) else (0, node :: l)
def ConfRet (R : Int × List Int) (w : World) (e : Ending) (w' : World) : Prop := Below w.heap.size w w' ∧ ((R.1 ≠ 0 ∧ e = .returned (.tuple #[.agg #[.int .i64 0, .slice none 0 0], .int .i64 R.1])) ∨ (R.1 = 0 ∧ ∃ a c, e = .returned (.tuple #[.agg #[.int .i64 0, .slice a R.2.length c], .int .i64 0]) ∧ RowN w.heap.size w' a c R.2))
theorem confRet_bad {R : Int × List Int} {w w' : World} {c : Int} (hb : Below w.heap.size w w') (h : R = (c, [])) (hc : c ≠ 0) : ConfRet R w (.returned (.tuple #[.agg #[.int .i64 0, .slice none 0 0], .int .i64 c])) w' := by
  subst h; exact ⟨hb, .inl ⟨hc, rfl⟩⟩
theorem backs_no {ts : List UV} {tl : Nat} {s : Int} {r : List Int} (h : inQ s tl = false) : backs ts tl (s :: r) = none := by
  simp only [backs]; rw [if_neg (by rw [h]; simp)]
theorem backs_yes {ts : List UV} {tl k : Nat} {r : List Int} {u : UV} (h : k < tl) (hu : ts[k]? = some u) : backs ts tl ((k : Int) :: r) = (backs ts tl r).map (u.bk :: ·) := by
  simp only [backs]; rw [if_pos (inQ_of h), Int.toNat_natCast, hu]
end Go.Proofs.Ytpinbmjkbkogdaa
namespace Go.Proofs.Ytpinbmjkbkogdaa
open Go Go.RowKit
set_option linter.unusedVariables false
theorem bld_31 : Try.prog.built 31 [] = some #[.int .i64 0, .slice none 0 0] := by kernel_rfl
theorem bld_31_1 (v1a : Option Addr) (v1l : Nat) (v1c : Nat) : Try.prog.built 31 [(1, .slice v1a v1l v1c)] = some #[.int .i64 0, .slice v1a v1l v1c] := by kernel_rfl
theorem bs_23_1 (v0 : Int) : Instr.fill (fun i => some (i * 1, 1)) ((Array.range (1 * 1)).map ((Value.cells (.int .i64 0))[· % (Value.cells (.int .i64 0)).size]!)) [(0, .int .i64 v0)] = some (List.toArray [.int .i64 v0]) := by kernel_rfl
theorem fa_31_1 (w : World) (b o : Nat) : (Instr.fieldAt 31 (.pointer (some ⟨b, o, none⟩)) 1).run Try.prog w = .ok (.pointer (some ⟨b, o + 1, none⟩)) w := by
  simp [Instr.fieldAt, run_underlying Try.underlying31, Instr.sureAddr, go_sem, Addr.add_lit]
theorem goes_15 : goesIn Try.prog 15 = true := by kernel_rfl
theorem inf_3 : Try.prog.info? 3 = some Try.t3 := by kernel_rfl
set_option maxRecDepth 100000 in
set_option maxHeartbeats 4000000 in
theorem conf_c (va : Option Addr) (vl : Nat) (vc : Nat) (pa : Option Addr) (pl : Nat) (pc : Nat) (ea : Option Addr) (el : Nat) (ec : Nat) (es : List Int) (xa : Option Addr) (xl : Nat) (xc : Nat) (xs : List Int) (mn : Int) (oa : Option Addr) (ol : Nat) (oc : Nat) (os : List Int) (sa : Option Addr) (sl : Nat) (sc : Nat) (ss : List TV) (ta : Option Addr) (tl : Nat) (tc : Nat) (ts : List UV) (na : Option Addr) (nl : Nat) (nc : Nat) (ns : List NV) (ka : Option Addr) (kl : Nat) (kc : Nat) (ks : List KV) (node : Int) (la : Option Addr) (ll lc : Nat) (is : List Int) (w : World) (he : RowI w ea es) (hel : es.length = el) (hx : RowI w xa xs) (hxl : xs.length = xl) (ho : RowI w oa os) (hol : os.length = ol) (hs : RowL TV.sev 7 w sa ss) (hsl : ss.length = sl) (ht : RowL UV.four 4 w ta ts) (htl : ts.length = tl) (hn : RowL NV.two 2 w na ns) (hnl : ns.length = nl) (hk : RowL KV.two 2 w ka ks) (hkl : ks.length = kl) (b1 : vl ≤ 5000) (b2 : pl ≤ 5000) (b3 : el ≤ 5000) (b4 : xl ≤ 5000) (b5 : ol ≤ 5000) (b6 : sl ≤ 5000) (b7 : tl ≤ 5000) (b8 : nl ≤ 5000) (b9 : kl ≤ 5000) (hrla : RowI w la is) (hll : is.length = ll) (hlm : ll ≤ 5000) :
    Calls Try.prog 7 #[.agg #[.slice va vl vc, .slice pa pl pc, .slice ea el ec, .slice xa xl xc, .int .i64 mn, .slice oa ol oc, .slice sa sl sc, .slice ta tl tc, .slice na nl nc, .slice ka kl kc], .int .i64 node, .slice la ll lc] w (ConfRet (confE ⟨va, vl, vc, pa, pl, pc, ea, el, ec, es, xa, xl, xc, xs, mn, oa, ol, oc, os, sa, sl, sc, ss, ta, tl, tc, ts, na, nl, nc, ns, ka, kl, kc, ks⟩ node is) w) := by
  refine enterF (args := [.agg #[.slice va vl vc, .slice pa pl pc, .slice ea el ec, .slice xa xl xc, .int .i64 mn, .slice oa ol oc, .slice sa sl sc, .slice ta tl tc, .slice na nl nc, .slice ka kl kc], .int .i64 node, .slice la ll lc]) Try.func7 rfl Try.ntmps7 rfl ?_
  have hS := St.start w
  refine seqF ?_
  refine regF ?_
  refine op_box (cs := [_, _, _, _, _, _, _, _, _, _]) hS rfl rfl rfl ?_
  clear hS; intro B1 W1 hS
  refine op_alloc (cs := [_, _]) hS Try.zeroValue31 rfl rfl ?_
  clear hS; intro B2 W2 hS
  refine op_assign rfl rfl ?_
  refine endF ?_
  refine XF.thenN ?_
  refine seqF ?_
  refine seqF ?_
  refine regF ?_
  refine op_loadA (vs := [_, _, _, _, _, _, _, _, _, _]) Try.isAgg29 Try.sizeOf29 rfl (CellsAt.own (j := 0) (m := 10) (hS.at_ 1 rfl) rfl) rfl ?_
  refine op_call (vs := [_]) hS goes_15 rfl (check_c _ vl vc _ pl pc _ el ec es _ xl xc xs mn _ ol oc os _ sl sc ss _ tl tc ts _ nl nc ns _ kl kc ks  _ (he.below hS.below) hel (hx.below hS.below) hxl (ho.below hS.below) hol (hs.below hS.below) hsl (ht.below hS.below) htl (hn.below hS.below) hnl (hk.below hS.below) hkl b1 b2 b3 b4 b5 b6 b7 b8 b9) rfl ?_
  rintro e W3 ⟨rfl, hb⟩
  refine ⟨_, rfl, hb, fun hS' => ?_⟩
  clear hS; have hS := hS'; clear hS' hb
  refine op_assign rfl rfl ?_
  refine endF ?_
  refine XF.thenN ?_
  refine seqF ?_
  refine regF ?_
  refine op_move rfl rfl ?_
  refine op_neq rfl rfl rfl ?_
  refine endF ?_
  refine XF.thenN ?_
  refine condF rfl (fun hc => ?_) (fun hc => ?_)
  · have hc15 := of_decide_eq_true hc; clear hc
    have hce : checkE ⟨va, vl, vc, pa, pl, pc, ea, el, ec, es, xa, xl, xc, xs, mn, oa, ol, oc, os, sa, sl, sc, ss, ta, tl, tc, ts, na, nl, nc, ns, ka, kl, kc, ks⟩ ≠ 0 := hc15
    refine seqF ?_
    refine regF ?_
    refine op_build (us := []) rfl (bld_31) rfl ?_
    refine op_move rfl rfl ?_
    refine op_storeA (i := 0) (vs := [_, _]) (cs' := [_, _]) (O' := [_, _]) hS Try.sizeOf31 rfl rfl rfl rfl rfl rfl rfl ?_
    clear hS; intro W4 hS
    refine op_assign rfl rfl ?_
    refine endF ?_
    refine XF.thenN ?_
    refine retF ?_
    refine XF.thenR ?_
    refine XF.res (resCT (vs := [_, _]) Try.results7 Try.isAgg31 Try.sizeOf31 rfl (CellsAt.own (j := 0) (m := 2) (hS.at_ 0 rfl) rfl) rfl) ?_
    exact confRet_bad hS.below (by unfold confE; rw [if_pos hce]) hce
  · have hc15 := of_decide_eq_false hc; clear hc
    have hce : checkE ⟨va, vl, vc, pa, pl, pc, ea, el, ec, es, xa, xl, xc, xs, mn, oa, ol, oc, os, sa, sl, sc, ss, ta, tl, tc, ts, na, nl, nc, ns, ka, kl, kc, ks⟩ = 0 := Decidable.of_not_not hc15
    refine skipF ?_
    refine XF.thenN ?_
    refine seqF ?_
    refine seqF ?_
    refine regF ?_
    refine op_move rfl rfl ?_
    refine op_lss rfl rfl rfl ?_
    refine op_move rfl rfl ?_
    refine op_cases (d := 20) rfl (fun hc => ?_) (fun hc => ?_)
    · have hg20 := of_decide_eq_true hc; clear hc
      refine op_notF (d := 20) rfl rfl rfl rfl ?_
      refine op_notF (d := 20) rfl rfl rfl rfl ?_
      refine op_notF (d := 20) rfl rfl rfl rfl ?_
      refine op_notF (d := 20) rfl rfl rfl rfl ?_
      refine op_notF (d := 20) rfl rfl rfl rfl ?_
      refine op_pickT rfl rfl rfl ?_
      refine endF ?_
      refine XF.thenN ?_
      refine condT rfl ?_
      refine seqF ?_
      refine regF ?_
      refine op_build (us := []) rfl (bld_31) rfl ?_
      refine op_storeA (i := 0) (vs := [_, _]) (cs' := [_, _]) (O' := [_, _]) hS Try.sizeOf31 rfl rfl rfl rfl rfl rfl rfl ?_
      clear hS; intro W5 hS
      refine op_assign rfl rfl ?_
      refine endF ?_
      refine XF.thenN ?_
      refine retF ?_
      refine XF.thenR ?_
      refine XF.res (resCT (vs := [_, _]) Try.results7 Try.isAgg31 Try.sizeOf31 rfl (CellsAt.own (j := 0) (m := 2) (hS.at_ 0 rfl) rfl) rfl) ?_
      exact confRet_bad hS.below (by unfold confE; dsimp only; rw [if_neg (by rw [hce]; simp), if_pos (inQ_neg hg20)]) (by decide)
    · have hg20 := of_decide_eq_false hc; clear hc
      refine op_wantedF (d := 20) rfl rfl ?_
      refine op_move rfl rfl ?_
      refine op_wantedF (d := 20) rfl rfl ?_
      refine op_field (o' := 5) fa_29_5 rfl rfl rfl ?_
      refine op_wantedF (d := 20) rfl rfl ?_
      refine op_load Try.isAgg23 rfl (cell_own (hS.at_ 1 rfl) rfl) rfl ?_
      refine op_wantedF (d := 20) rfl rfl ?_
      refine op_len Try.underlying23 rfl rfl ?_
      refine op_wantedF (d := 20) rfl rfl ?_
      refine op_geq rfl rfl rfl ?_
      refine op_pickF rfl rfl rfl ?_
      refine endF ?_
      refine XF.thenN ?_
      refine condF rfl (fun hc => ?_) (fun hc => ?_)
      · have hc26 := of_decide_eq_true hc; clear hc
        refine seqF ?_
        refine regF ?_
        refine op_build (us := []) rfl (bld_31) rfl ?_
        refine op_storeA (i := 0) (vs := [_, _]) (cs' := [_, _]) (O' := [_, _]) hS Try.sizeOf31 rfl rfl rfl rfl rfl rfl rfl ?_
        clear hS; intro W6 hS
        refine op_assign rfl rfl ?_
        refine endF ?_
        refine XF.thenN ?_
        refine retF ?_
        refine XF.thenR ?_
        refine XF.res (resCT (vs := [_, _]) Try.results7 Try.isAgg31 Try.sizeOf31 rfl (CellsAt.own (j := 0) (m := 2) (hS.at_ 0 rfl) rfl) rfl) ?_
        exact confRet_bad hS.below (by unfold confE; dsimp only; rw [if_neg (by rw [hce]; simp), if_pos (inQ_big (by omega))]) (by decide)
      · have hc26 := of_decide_eq_false hc; clear hc
        have hnd : inQ node ol = true := by unfold inQ; rw [decide_eq_true (by omega), decide_eq_true (by omega)]; rfl
        refine skipF ?_
        refine XF.thenN ?_
        refine seqF ?_
        refine regF ?_
        refine op_move rfl rfl ?_
        refine op_buildSlice (us := [(0, .int .i64 _)]) hS Try.underlying23 Try.sizeOf3 Try.zeroValue3 rfl rfl rfl (bs_23_1 _) rfl ?_
        clear hS; intro B7 W7 hS
        refine op_build (us := [(1, .slice _ _ _)]) rfl (bld_31_1 _ _ _) rfl ?_
        refine op_alloc (cs := [_, _]) hS Try.zeroValue31 rfl rfl ?_
        clear hS; intro B8 W8 hS
        refine op_storeA (i := 0) (vs := [_, _]) (cs' := [_, _]) (O' := [_, _, _, _]) hS Try.sizeOf31 rfl rfl rfl rfl rfl rfl rfl ?_
        clear hS; intro W9 hS
        refine endF ?_
        refine XF.thenN ?_
        refine seqF ?_
        refine seqF ?_
        have hS := (hS.perm (List.Perm.swap _ _ _)).ownG (n := 1) (size := 1) rfl (by decide)
        refine regF ?_
        refine op_move rfl rfl ?_
        refine op_len Try.underlying23 rfl rfl ?_
        refine op_move rfl rfl ?_
        refine endF ?_
        refine XF.thenN ?_
        refine blockF ?_
        refine loopF (fun m l W => ∃ (i : Nat) (acc : List Int) (v : Value), i ≤ ll ∧ m = ll - i ∧ l = [(3, .pointer (some ⟨B1, 0, none⟩)), (6, .pointer (some ⟨B2, 0, none⟩)), (9, .pointer (some ⟨B8, 0, none⟩)), (31, .slice la ll lc), (32, .int .i64 (ll : Int)), (33, .int .i64 (i : Int))] ∧ acc.length = i ∧ (backs ts tl (is.drop i)).map (acc ++ ·) = backs ts tl is ∧ St w [(B8, [.int .i64 0, v], 31), (B2, [.int .i64 0, .slice none 0 0], 31), (B1, [.slice va vl vc, .slice pa pl pc, .slice ea el ec, .slice xa xl xc, .int .i64 mn, .slice oa ol oc, .slice sa sl sc, .slice ta tl tc, .slice na nl nc, .slice ka kl kc], 29)] [⟨v, i + 1, (node :: acc).map (Value.int .i64), 3, 1⟩] [] W) (ll - 0) ([(3, _), (6, _), (9, _), (31, _), (32, _), (33, _)]) ⟨rfl, rfl, rfl, rfl, rfl, rfl, trivial⟩ (⟨0, [], _, Nat.zero_le _, rfl, rfl, rfl, by rw [List.drop_zero]; cases backs ts tl is <;> rfl, hS.clear⟩) ?_
        clear hS
        rintro m l W ⟨i, acc, v, hi, rfl, rfl, hacc, hrun, hS⟩
        obtain ⟨a9, c9, rfl, hac⟩ := ownsRow_sl (v := v) (n := i + 1) (hS.row 0 rfl)
        refine seqF ?_
        refine regF ?_
        refine op_lss rfl rfl rfl ?_
        refine endF ?_
        refine XF.thenN ?_
        refine seqF ?_
        refine condF rfl (fun hc => ?_) (fun hc => ?_)
        · have hc34 := of_decide_eq_true hc; clear hc
          have hk1 : i < ll := by omega
          obtain ⟨b, off, y, rfl, hy, hyc⟩ := hrla.get (i := i) (by omega)
          have k1 := (CellsAt.agree hS.agree (Nat.zero_le _) hyc).1
          rw [drop_at hy] at hrun
          refine skipF ?_
          refine XF.thenN ?_
          refine seqF ?_
          refine blockF ?_
          refine seqF ?_
          refine regF ?_
          refine op_indexA  Try.underlying23 Try.sizeOf3 rfl rfl rfl (by omega) rfl rfl ?_
          refine op_load Try.isAgg3 rfl (k1) rfl ?_
          refine op_assign rfl rfl ?_
          refine endF ?_
          refine XF.thenN ?_
          refine seqF ?_
          refine seqF ?_
          refine regF ?_
          refine op_move rfl rfl ?_
          refine op_lss rfl rfl rfl ?_
          refine op_move rfl rfl ?_
          refine op_cases (d := 39) rfl (fun hc => ?_) (fun hc => ?_)
          · have hg39 := of_decide_eq_true hc; clear hc
            rw [backs_no (inQ_neg hg39)] at hrun
            refine op_notF (d := 39) rfl rfl rfl rfl ?_
            refine op_notF (d := 39) rfl rfl rfl rfl ?_
            refine op_notF (d := 39) rfl rfl rfl rfl ?_
            refine op_notF (d := 39) rfl rfl rfl rfl ?_
            refine op_notF (d := 39) rfl rfl rfl rfl ?_
            refine op_pickT rfl rfl rfl ?_
            refine endF ?_
            refine XF.thenN ?_
            refine condT rfl ?_
            refine seqF ?_
            refine regF ?_
            refine op_build (us := []) rfl (bld_31) rfl ?_
            refine op_storeA (i := 1) (vs := [_, _]) (cs' := [_, _]) (O' := [_, _, _]) hS Try.sizeOf31 rfl rfl rfl rfl rfl rfl rfl ?_
            clear hS; intro W10 hS
            refine op_assign rfl rfl ?_
            refine endF ?_
            refine XF.thenN ?_
            refine retF ?_
            refine XF.thenR ?_
            refine XF.blkR ?_
            refine XF.thenR ?_
            refine XF.thenR ?_
            refine XF.blkR ?_
            refine XF.thenR ?_
            refine XF.res (resCT (vs := [_, _]) Try.results7 Try.isAgg31 Try.sizeOf31 rfl (CellsAt.own (j := 0) (m := 2) (hS.at_ 1 rfl) rfl) rfl) ?_
            exact confRet_bad hS.below (by unfold confE; dsimp only; rw [if_neg (by rw [hce]; simp), if_neg (by rw [hnd]; simp), ← hrun]; rfl) (by decide)
          · have hg39 := of_decide_eq_false hc; clear hc
            refine op_wantedF (d := 39) rfl rfl ?_
            refine op_move rfl rfl ?_
            refine op_wantedF (d := 39) rfl rfl ?_
            refine op_field (o' := 7) fa_29_7 rfl rfl rfl ?_
            refine op_wantedF (d := 39) rfl rfl ?_
            refine op_load Try.isAgg25 rfl (cell_own (hS.at_ 2 rfl) rfl) rfl ?_
            refine op_wantedF (d := 39) rfl rfl ?_
            refine op_len Try.underlying25 rfl rfl ?_
            refine op_wantedF (d := 39) rfl rfl ?_
            refine op_geq rfl rfl rfl ?_
            refine op_pickF rfl rfl rfl ?_
            refine endF ?_
            refine XF.thenN ?_
            refine condF rfl (fun hc => ?_) (fun hc => ?_)
            · have hc45 := of_decide_eq_true hc; clear hc
              refine seqF ?_
              refine regF ?_
              refine op_build (us := []) rfl (bld_31) rfl ?_
              refine op_storeA (i := 1) (vs := [_, _]) (cs' := [_, _]) (O' := [_, _, _]) hS Try.sizeOf31 rfl rfl rfl rfl rfl rfl rfl ?_
              clear hS; intro W11 hS
              refine op_assign rfl rfl ?_
              refine endF ?_
              refine XF.thenN ?_
              refine retF ?_
              refine XF.thenR ?_
              refine XF.blkR ?_
              refine XF.thenR ?_
              refine XF.thenR ?_
              refine XF.blkR ?_
              refine XF.thenR ?_
              refine XF.res (resCT (vs := [_, _]) Try.results7 Try.isAgg31 Try.sizeOf31 rfl (CellsAt.own (j := 0) (m := 2) (hS.at_ 1 rfl) rfl) rfl) ?_
              rw [backs_no (inQ_big (by omega))] at hrun
              exact confRet_bad hS.below (by unfold confE; dsimp only; rw [if_neg (by rw [hce]; simp), if_neg (by rw [hnd]; simp), ← hrun]; rfl) (by decide)
            · have hc45 := of_decide_eq_false hc; clear hc
              obtain ⟨k, rfl⟩ := Int.eq_ofNat_of_zero_le (show 0 ≤ y by omega)
              have hkt : k < tl := by omega
              obtain ⟨tb, to_, u, rfl, hu, huc⟩ := ht.get (i := k) (by omega)
              have k2 := (CellsAt.agree hS.agree (Nat.zero_le _) huc).2.2.2.1
              rw [backs_yes hkt hu, Option.map_map] at hrun
              refine skipF ?_
              refine XF.thenN ?_
              refine regBP (p := 9) (k := 11) (gi := 0) (m := 1) followsM hS rfl rfl (by kernel_rfl) (by kernel_rfl) (by kernel_rfl) (fun d hd => by cases hd) rfl rfl Try.underlying23 inf_3 rfl rfl (by show 0 < 1; decide) rfl rfl rfl (by simp only [maxLen]; omega) (by show (i + 1 + 1) * 8 ≤ _; omega) ?_
              refine blp_v 1 rfl rfl (by kernel_rfl) (rgV (li := [(9, _)]) rfl (w_free rfl) ⟨g_fr (by kernel_rfl) rfl, trivial⟩ (fun w hw => rn_field (o' := 1) fa_31_1 rfl rfl) (at_top rfl)) ?_
              refine blp_v 2 rfl rfl (by kernel_rfl) (rgV (li := [(47, _)]) rfl (w_free rfl) ⟨g_dep 0 (by kernel_rfl) (at_dep rfl rfl rfl), trivial⟩ (fun w hw => rn_load Try.isAgg23 rfl ((below_agree hw 0).cell (Nat.zero_le _) (cell_own (hS.at_ 0 rfl) rfl))) (at_top rfl)) ?_
              refine blp_v 3 rfl rfl (by kernel_rfl) (rgV (li := [(3, _)]) rfl (w_free rfl) ⟨g_fr (by kernel_rfl) rfl, trivial⟩ (fun w hw => rn_field (o' := 7) fa_29_7 rfl rfl) (at_top rfl)) ?_
              refine blp_v 4 rfl rfl (by kernel_rfl) (rgV (li := [(49, _)]) rfl (w_free rfl) ⟨g_dep 2 (by kernel_rfl) (at_dep rfl rfl rfl), trivial⟩ (fun w hw => rn_load Try.isAgg25 rfl ((below_agree hw 0).cell (Nat.zero_le _) (cell_own (hS.at_ 2 rfl) rfl))) (at_top rfl)) ?_
              refine blp_v 5 rfl rfl (by kernel_rfl) (rgV (li := [(11, _)]) rfl (w_free rfl) ⟨g_fr (by kernel_rfl) rfl, trivial⟩ (fun w hw => rn_move rfl) (at_top rfl)) ?_
              refine blp_v 6 rfl rfl (by kernel_rfl) (rgV (li := [(50, _), (51, _)]) rfl (w_free rfl) ⟨g_dep 3 (by kernel_rfl) (at_dep rfl rfl rfl), g_dep 4 (by kernel_rfl) (at_dep rfl rfl rfl), trivial⟩ (fun w hw => rn_indexA (j := k) Try.underlying25 Try.sizeOf47 rfl rfl (by omega) (by omega) rfl) (at_top rfl)) ?_
              refine blp_v 7 rfl rfl (by kernel_rfl) (rgV (li := [(52, _)]) rfl (w_free rfl) ⟨g_dep 5 (by kernel_rfl) (at_dep rfl rfl rfl), trivial⟩ (fun w hw => rn_field fa_47_3 rfl rfl) (at_top rfl)) ?_
              refine blp_v 8 rfl rfl (by kernel_rfl) (rgV (li := [(53, _)]) rfl (w_free rfl) ⟨g_dep 6 (by kernel_rfl) (at_dep rfl rfl rfl), trivial⟩ (fun w hw => rn_load Try.isAgg3 rfl ((below_agree hw 0).cell (Nat.zero_le _) (k2))) (at_top rfl)) ?_
              refine blp_q 9 rfl rfl (by kernel_rfl) (isRow W.heap.size 1 3 _) (stab_isRow) (rg_rowV (us := [.int .i64 _]) rfl (w_free rfl) Try.underlying23 Try.sizeOf3 Try.zeroValue3 rfl rfl ⟨p_tmp (g_dep 7 (by kernel_rfl) (at_dep rfl rfl rfl)), trivial⟩ (bs_23_1 _) (at_top rfl)) ?_
              refine blp_app 10 rfl rfl ?_
              refine blp_late 11 rfl rfl (rgV (li := [(9, _)]) rfl (w_free rfl) ⟨g_fr (by kernel_rfl) rfl, trivial⟩ (fun w hw => rn_field (o' := 1) fa_31_1 rfl rfl) (at_top rfl)) (lgV (li := [(9, _)]) rfl (w_free rfl) ⟨g_fr (by kernel_rfl) rfl, trivial⟩ (fun w => rn_field (o' := 1) fa_31_1 rfl rfl) (at_top rfl) rfl) ?_
              refine blp_nil ⟨_, _, g_dep 1 (by kernel_rfl) (at_dep rfl rfl rfl), g_dep 8 (by kernel_rfl) (at_dep rfl rfl rfl), rowOf_isRow rfl rfl, ?_⟩
              intro A12 v12 news12 W12 hbR hqA12 hS'
              clear hS; have hS := hS'; clear hS'
              cases hqA12
              refine fin_v ?_
              refine fin_v ?_
              refine fin_v ?_
              refine fin_v ?_
              refine fin_v ?_
              refine fin_v ?_
              refine fin_v ?_
              refine fin_v ?_
              refine fin_p ?_; intro _ _
              refine fin_v ?_
              refine fin_v ?_
              obtain ⟨a2, c2, e2, hac2⟩ := ownsRow_sl (hS.row 0 rfl)
              dsimp only at e2
              subst e2
              refine fin_nil ?_
              refine op_store (i := 0) (cs' := [_, _]) (O' := [_, _, _]) hS Try.sizeOf23 rfl rfl rfl rfl rfl rfl rfl ?_
              clear hS; intro W13 hS
              refine endF ?_
              refine XF.blkN ?_
              refine XF.thenN ?_
              refine regF ?_
              refine op_add rfl rfl (IntWalk.i64_in _ (by omega)) rfl ?_
              refine op_move rfl rfl ?_
              refine endF ?_
              exact XF.round (ll - (i + 1)) [(3, _), (6, _), (9, _), (31, _), (32, _), (33, _)] (by omega) ⟨rfl, rfl, rfl, rfl, rfl, rfl, trivial⟩ ⟨i + 1, acc ++ [u.bk], _, by omega, rfl, rfl, by simp [hacc], by rw [← hrun]; congr 1; funext z; simp, hS.clear.castG (by simp)⟩
        · have hc34 := of_decide_eq_false hc; clear hc
          rw [List.drop_of_length_le (by omega)] at hrun
          simp only [backs, Option.map_some, List.append_nil] at hrun
          refine exitF ?_
          refine XF.thenX ?_
          refine XF.thenX ?_
          refine XF.blkX ?_
          refine XF.thenN ?_
          refine seqF ?_
          refine seqF ?_
          refine regF ?_
          refine op_field (o' := 1) fa_31_1 rfl rfl rfl ?_
          refine op_load Try.isAgg23 rfl (cell_own (hS.at_ 0 rfl) rfl) rfl ?_
          refine op_len Try.underlying23 rfl rfl ?_
          refine op_gtr rfl rfl rfl ?_
          refine endF ?_
          refine XF.thenN ?_
          refine condF rfl (fun hc => ?_) (fun hc => ?_)
          · have hc62 := of_decide_eq_true hc; clear hc
            refine seqF ?_
            refine regF ?_
            refine op_build (us := []) rfl (bld_31) rfl ?_
            refine op_storeA (i := 1) (vs := [_, _]) (cs' := [_, _]) (O' := [_, _, _]) hS Try.sizeOf31 rfl rfl rfl rfl rfl rfl rfl ?_
            clear hS; intro W14 hS
            refine op_assign rfl rfl ?_
            refine endF ?_
            refine XF.thenN ?_
            refine retF ?_
            refine XF.thenR ?_
            refine XF.res (resCT (vs := [_, _]) Try.results7 Try.isAgg31 Try.sizeOf31 rfl (CellsAt.own (j := 0) (m := 2) (hS.at_ 1 rfl) rfl) rfl) ?_
            exact confRet_bad hS.below (by unfold confE; dsimp only; rw [if_neg (by rw [hce]; simp), if_neg (by rw [hnd]; simp), ← hrun]; exact if_pos (by rw [hacc]; omega)) (by decide)
          · have hc62 := of_decide_eq_false hc; clear hc
            refine skipF ?_
            refine XF.thenN ?_
            refine seqF ?_
            refine regF ?_
            refine op_loadA (vs := [_, _]) Try.isAgg31 Try.sizeOf31 rfl (CellsAt.own (j := 0) (m := 2) (hS.at_ 0 rfl) rfl) rfl ?_
            refine op_storeA (i := 1) (vs := [_, _]) (cs' := [_, _]) (O' := [_, _, _]) hS Try.sizeOf31 rfl rfl rfl rfl rfl rfl rfl ?_
            clear hS; intro W15 hS
            refine op_assign rfl rfl ?_
            refine endF ?_
            refine XF.thenN ?_
            refine retF ?_
            refine XF.res (resCT (vs := [_, _]) Try.results7 Try.isAgg31 Try.sizeOf31 rfl (CellsAt.own (j := 0) (m := 2) (hS.at_ 1 rfl) rfl) rfl) ?_
            have hR : confE ⟨va, vl, vc, pa, pl, pc, ea, el, ec, es, xa, xl, xc, xs, mn, oa, ol, oc, os, sa, sl, sc, ss, ta, tl, tc, ts, na, nl, nc, ns, ka, kl, kc, ks⟩ node is = (0, node :: acc) := by unfold confE; dsimp only; rw [if_neg (by rw [hce]; simp), if_neg (by rw [hnd]; simp), ← hrun]; exact if_neg (by rw [hacc]; omega)
            rw [hR]
            exact ⟨hS.below, .inr ⟨rfl, a9, c9, by rw [List.length_cons, hacc], by have h9 := hS.row 0 rfl; unfold RowN; rw [List.length_cons, hacc]; exact h9⟩⟩
end Go.Proofs.Ytpinbmjkbkogdaa
namespace Go.Proofs.Ytpinbmjkbkogdaa
open Go Go.RowKit
set_option linter.unusedVariables false
structure HasD (n : Nat) (ds : List Deferred) (l : Fr) (a : Act) : Prop where
  has : Has n l { a with defers := [] }
  defers : a.defers = ds
section
variable {F : Fence} {m n : Nat} {ds : List Deferred} {P : Program} {Q : Exit → Act → World → Prop} {l : Fr} {W W' : World} {a : Act} {ops : Array Oper} {os : List Oper}
theorem HasD.ev (h : HasD n ds l a) : ∀ x v, evL l x = some v → a.eval x = v := fun x v hx => h.has.ev x v hx
theorem HasD.put {d : Nat} {v : Value} (h : HasD n ds l a) (hd : Nat.blt d n = true) : HasD n ds ((d, v) :: l) (a.put (some d) v) := ⟨h.has.put hd, h.defers⟩
theorem HasD.sub {r : Fr} (h : HasD n ds l a) (hs : SubF l r) : HasD n ds r a := ⟨h.has.sub hs, h.defers⟩
theorem hasD_of (h : Has n l a) : HasD n [] l a := ⟨by cases a; cases h.defers; exact h, h.defers⟩
theorem HasD.of (h : HasD n [] l a) : Has n l a := ⟨h.has.size, h.defers, h.has.at_⟩
def CodeR (F : Fence) (m : Nat) (P : Program) (n : Nat) (ds : List Deferred) (c : Code) (Q : Exit → Act → World → Prop) (l : Fr) (W : World) : Prop := ∀ a, HasD n ds l a → c.wpIn F m P Q a W
def OpsR (F : Fence) (m : Nat) (P : Program) (n : Nat) (ds : List Deferred) (ops : Array Oper) (Q : Exit → Act → World → Prop) (os : List Oper) (l : Fr) (W : World) : Prop := ∀ a, HasD n ds l a → wpListIn F m P ops Q os a W
def XR (Q : Exit → Act → World → Prop) (e : Exit) (n : Nat) (ds : List Deferred) (l : Fr) (W : World) : Prop := ∀ a, HasD n ds l a → Q e a W
theorem seqR {x y : Code} (h : CodeR F m P n ds x (Exit.then (y.wpIn F m P Q) Q) l W) : CodeR F m P n ds (.seq x y) Q l W := fun a ha => wpIn_seq (h a ha)
theorem skipR (h : XR Q .normal n ds l W) : CodeR F m P n ds .skip Q l W := fun a ha => wpIn_skip (h a ha)
theorem retR (h : XR Q .ret n ds l W) : CodeR F m P n ds .ret Q l W := fun a ha => wpIn_ret (h a ha)
theorem exitR {i : Nat} (h : XR Q (.exit i) n ds l W) : CodeR F m P n ds (.exit i) Q l W := fun a ha => wpIn_exit (h a ha)
theorem blockR {i : Nat} {c : Code} (h : CodeR F m P n ds c (Exit.inBlock i Q) l W) : CodeR F m P n ds (.block i c) Q l W := fun a ha => wpIn_block (h a ha)
theorem condRT {c : Operand} {x y : Code} (hc : evL l c = some (.bool true)) (h : CodeR F m P n ds x Q l W) : CodeR F m P n ds (.cond c x y) Q l W := fun a ha => wpIn_cond_true (ha.ev _ _ hc) (h a ha)
theorem condRF {c : Operand} {x y : Code} (hc : evL l c = some (.bool false)) (h : CodeR F m P n ds y Q l W) : CodeR F m P n ds (.cond c x y) Q l W := fun a ha => wpIn_cond_false (ha.ev _ _ hc) (h a ha)
theorem regR {id : Nat} (h : OpsR F m P n ds os.toArray Q os l W) : CodeR F m P n ds (.region id os.toArray false) Q l W := fun a ha => wpIn_region_lit (h a ha)
theorem endR (h : XR Q .normal n ds l W) : OpsR F m P n ds ops Q [] l W := fun a ha => h a ha
theorem XR.thenN {y : Code} (h : CodeR F m P n ds y Q l W) : XR (Exit.then (y.wpIn F m P Q) Q) .normal n ds l W := fun a ha => h a ha
theorem XR.thenX {i : Nat} {K : Act → World → Prop} (h : XR Q (.exit i) n ds l W) : XR (Exit.then K Q) (.exit i) n ds l W := fun a ha => h a ha
theorem XR.blkN {i : Nat} (h : XR Q .normal n ds l W) : XR (Exit.inBlock i Q) .normal n ds l W := fun a ha => h a ha
theorem XR.blkX {i : Nat} (h : XR Q .normal n ds l W) : XR (Exit.inBlock i Q) (.exit i) n ds l W := fun a ha => by
  have := h a ha
  simp only [Exit.inBlock]
  simpa using this
variable {d : Nat} {op : Op} {ty : TypeId} {pos : String} {aft : Array Edge} {v : Value}
theorem opVR (hF : ∀ f, F.fn f) (hr : Runs P l ⟨some d, op, ty, pos, aft, none⟩ W v W') (hnd : ∀ c, op ≠ .defer c) (hd : Nat.blt d n = true) (h : OpsR F m P n ds ops Q os ((d, v) :: l) W') : OpsR F m P n ds ops Q (⟨some d, op, ty, pos, aft, none⟩ :: os) l W := fun a ha =>
  wpListIn_plain rfl fun K hK => by
    unfold Oper.wpIn
    refine ⟨fun f _ => hF f, ?_⟩
    rw [Oper.semAt_plain F a.eval _ hnd, hr a.eval ha.ev]
    exact hK _ _ (h _ (ha.put hd))
theorem op_storeR {T : TypeId} {x y : Operand} {p u : Value} {w0 : World} (hF : ∀ f, F.fn f) (hx : evL l x = some p) (hy : evL l y = some u) (hr : (Instr.storeAt T p u).run P W = .ok () W') (h : OpsR F m P n ds ops Q os l W') : OpsR F m P n ds ops Q (⟨none, .store T x y, ty, pos, aft, none⟩ :: os) l W := fun a ha =>
  wpListIn_plain rfl fun K hK => by
    unfold Oper.wpIn
    refine ⟨fun f _ => hF f, ?_⟩
    rw [Oper.semAt_plain F a.eval _ (fun c => by intro e; cases e)]
    unfold execOp
    simp only [Sem.run_bind, ha.ev x _ hx, ha.ev y _ hy, hr, Result.andThen_ok, Sem.run_pure, Oper.uponIn_skip]
    exact hK _ _ (h _ (by cases a; exact ha))
theorem op_yieldR {x : Operand} {xs : List Operand} {ts : Array TypeId} {vs : List Value} {lp : Nat} {R : Ending → World → Prop} (hF : ∀ f, F.fn f) (hd0 : F.depth = none) (hx : evL l x = some (.func (.yield lp) #[] #[])) (hxs : xs.map (evL l) = vs.map some) (hd : Nat.blt d n = true) (hy : YieldAt F (m - 1) P lp vs.toArray W R)
    (h : ∀ e W', R e W' → ∃ u, e = .returned u ∧ OpsR F m P n ds ops Q os ((d, u) :: l) W') : OpsR F m P n ds ops Q (⟨some d, .call { callee := .value x, args := xs.toArray, argTypes := ts }, ty, pos, aft, none⟩ :: os) l W := fun a ha =>
  wpListIn_plain rfl fun K hK => by
    obtain ⟨fn, tmps, assign, body, hrun, hround⟩ := hy
    have hev : xs.map a.eval = vs := by
      have : ∀ (xs : List Operand) (vs : List Value), xs.map (evL l) = vs.map some → xs.map a.eval = vs := by
        intro xs
        induction xs with
        | nil => intro vs h; cases vs <;> simp_all
        | cons y ys ih =>
          intro vs h
          cases vs with
          | nil => simp at h
          | cons v vs =>
            simp only [List.map_cons, List.cons.injEq] at h ⊢
            exact ⟨ha.ev _ _ h.1, ih vs h.2⟩
      exact this xs vs hxs
    unfold Oper.wpIn
    refine ⟨fun f _ => hF f, ?_⟩
    rw [Oper.semAt_plain F a.eval _ (fun c => by intro e; cases e)]
    unfold execOp
    simp only [resolve, ha.ev x _ hx, Sem.run_bind, Sem.run_pure, Result.andThen_ok, invoke, List.map_toArray, hev]
    simp only [Deferred.ofValue, Sem.run_pure, Result.andThen_ok, Array.append_empty, Array.empty_append, hrun, Oper.uponIn_round]
    refine ⟨fun hx => (by rw [hd0] at hx; cases hx), hround.mono ?_⟩
    intro e W2 hR
    obtain ⟨u, rfl, h2⟩ := h e W2 hR
    exact hK _ _ (h2 _ (ha.put hd))
end
section
variable {F : Fence} {m n : Nat} {ds : List Deferred} {P : Program} {Q : Exit → Act → World → Prop} {l : Fr} {W : World}
theorem loopR {c : Code} (I : Nat → Fr → World → Prop) (m0 : Nat) (l0 : Fr) (hs : SubF l l0) (h0 : I m0 l0 W)
    (round : ∀ k l W, I k l W → CodeR F m P n ds c (Exit.then (fun a' w' => ∃ k' l', k' < k ∧ I k' l' w' ∧ HasD n ds l' a') Q) l W) : CodeR F m P n ds (.loop c) Q l W := fun a ha => by
  have key : ∀ (j k : Nat) (l : Fr) (W : World) (a : Act), k ≤ j → I k l W → HasD n ds l a → Code.roundsIn F m P c Q (j + 1) a W := by
    intro j
    induction j with
    | zero =>
      intro k l W a hk hI ha
      rw [roundsIn_succ]
      refine wpIn_mono (round k l W hI a ha) fun e a' w' h => ?_
      cases e with
      | normal => obtain ⟨k', l', hlt, _⟩ := h; omega
      | _ => exact h
    | succ j ih =>
      intro k l W a hk hI ha
      rw [roundsIn_succ]
      refine wpIn_mono (round k l W hI a ha) fun e a' w' h => ?_
      cases e with
      | normal => obtain ⟨k', l', hlt, hI', ha'⟩ := h; exact ih k' l' w' a' (by omega) hI' ha'
      | _ => exact h
  exact wpIn_loop_rounds (m0 + 1) (key m0 m0 l0 W a (Nat.le_refl _) h0 (ha.sub hs))
theorem XR.round {I : Nat → Fr → World → Prop} {k : Nat} (k' : Nat) (l' : Fr) (hm : k' < k) (hs : SubF l l') (hI : I k' l' W) : XR (Exit.then (fun a' w' => ∃ k' l', k' < k ∧ I k' l' w' ∧ HasD n ds l' a') Q) .normal n ds l W :=
  fun a ha => ⟨k', l', hm, hI, ha.sub hs⟩
theorem enterR {f : FuncId} {fn : Func} {c : Code} {args : List Value} {R : Ending → World → Prop} (hF : ∀ f, F.fn f) (hro : F.round = none) (hf : P.funcs[f]? = some fn) (hb : fn.body = some c) (hn : fn.ntmps = n) (hl : Nat.ble args.length n = true)
    (h : CodeR F m P n [] c (bodyPost P fn R) (parFr 0 args) W) : CallsIn F m P f args.toArray W R :=
  callsIn_of_wp hf hb (hF f) (by subst hn; exact h _ (hasD_of (has_par hl))) hro
theorem enterMR {f : FuncId} {fn : Func} {c : Code} {args : List Value} {R : Ending → World → Prop} (hF : ∀ f, F.fn f) (hro : F.round = none) (hf : P.funcs[f]? = some fn) (hb : fn.body = some c) (hn : fn.ntmps = n) (hl : Nat.ble args.length n = true)
    (h : CodeR F m P n [] c (bodyPostM F m P fn R) (parFr 0 args) W) : CallsIn F m P f args.toArray W R :=
  callsIn_of_wp_marks hf hb (hF f) (by subst hn; exact h _ (hasD_of (has_par hl))) hro
theorem XR.resN {fn : Func} {R : Ending → World → Prop} {v : Value} (hr : ∀ a, Has n l a → (results fn a.tmps).run P W = .ok v W) (hR : R (.returned v) W) : XR (bodyPost P fn R) .normal n [] l W :=
  fun a ha => ⟨ha.defers, v, hr a ha.of, hR⟩
theorem XR.resM {fn : Func} {R : Ending → World → Prop} {v : Value} {D : Nat} (hD : W.heap[D]? = some (.deferred (some []))) (hr : ∀ a W2, Has n l a → (results fn a.tmps).run P W2 = .ok v W2) (hR : R (.returned v) (W.putObj D (.deferred none))) : XR (bodyPostM F m P fn R) .ret n [{ target := .collected D, args := #[] }] l W := fun a ha => by
  show LeavesInM F m P fn a.tmps R a.defers .returning W
  rw [ha.defers]
  exact ⟨by simp, .inl ⟨_, _, rfl, run_takeDeferred hD, ⟨v, hr { a with defers := [] } _ ha.has, hR⟩⟩⟩
theorem codeR_of {c : Code} (h : CodeF P n c Q l W) : CodeR Fence.wide m P n [] c Q l W := fun a ha => wpIn_wide.2 (h a ha.of)
theorem codeF_of {c : Code} (m : Nat) (h : CodeR Fence.wide m P n [] c Q l W) : CodeF P n c Q l W := fun a ha => wpIn_wide.1 (h a (hasD_of ha))
theorem enterMF {f : FuncId} {fn : Func} {c : Code} {args : List Value} {R : Ending → World → Prop} (m : Nat) (hf : P.funcs[f]? = some fn) (hb : fn.body = some c) (hn : fn.ntmps = n) (hl : Nat.ble args.length n = true)
    (h : CodeF P n c (bodyPostM Fence.wide m P fn R) (parFr 0 args) W) : Calls P f args.toArray W R :=
  callsIn_wide.1 (enterMR (fun _ => trivial) rfl hf hb hn hl (codeR_of h))
theorem XR.thenW {y : Code} (m : Nat) (h : CodeR Fence.wide m P n ds y Q l W) : XR (Exit.then (y.wp P Q) Q) .normal n ds l W := fun a ha => wpIn_wide.1 (h a ha)
end
theorem putObj_size (W : World) (k : Nat) (o : Obj) : (W.putObj k o).heap.size = W.heap.size := by simp [World.putObj]
theorem St.put {w0 W X : World} {O : Own} {K : List (Nat × World)} {D k : Nat} {o : Obj} (h : St w0 O [] ((D, X) :: K) W) (hk : D ≤ k) (hkX : k < X.heap.size) (hD : w0.heap.size ≤ D) (hK : ∀ q ∈ K, q.2.heap.size ≤ k) : St w0 O [] ((D, X.putObj k o) :: K) (W.putObj k o) := by
  have h0 := h.kept _ List.mem_cons_self
  have hkW : k < W.heap.size := Nat.lt_of_lt_of_le hkX h0.1.1
  have oth : ∀ b, b ≠ k → (W.putObj k o).heap[b]? = W.heap[b]? := fun b hb => World.putObj_heap_other hb
  have othX : ∀ b, b ≠ k → (X.putObj k o).heap[b]? = X.heap[b]? := fun b hb => World.putObj_heap_other hb
  refine ⟨⟨h.below.os, h.below.tape, h.below.output, by rw [putObj_size]; exact h.below.size, fun b hb => (oth b (by omega)).trans (h.below.block b hb)⟩, fun p hp => ⟨(h.own p hp).1, (oth _ ?_).trans (h.own p hp).2⟩, h.dist, fun q hq => ?_, (fun g hg => by cases hg), List.Pairwise.nil⟩
  · have := h0.2 p hp; dsimp only at this; omega
  · rcases List.mem_cons.1 hq with rfl | hq
    · refine ⟨⟨by rw [putObj_size, putObj_size]; exact h0.1.1, fun b b1 b2 => ?_⟩, fun p hp => by rw [putObj_size]; exact h0.2 p hp⟩
      rw [putObj_size] at b2
      by_cases hbk : b = k
      · subst hbk
        rw [World.putObj_heap_same hkW, World.putObj_heap_same hkX]
      · rw [oth b hbk, othX b hbk]; exact h0.1.2 b b1 b2
    · have h1 := h.kept q (List.mem_cons_of_mem _ hq)
      have h2 := hK q hq
      refine ⟨⟨by rw [putObj_size]; exact h1.1.1, fun b b1 b2 => (oth b (by omega)).trans (h1.1.2 b b1 b2)⟩, h1.2⟩
theorem St.markK {w0 W : World} {O : Own} {K : List (Nat × World)} (h : St w0 O [] K W) (lo : Nat) (hO : ∀ p ∈ O, p.1 < lo) : St w0 O [] ((lo, W) :: K) W :=
  ⟨h.below, h.own, h.dist, fun q hq => by
    rcases List.mem_cons.1 hq with rfl | hq
    · exact ⟨Agree.refl _ _, fun p hp => .inl (hO p hp)⟩
    · exact h.kept q hq, (fun g hg => by cases hg), List.Pairwise.nil⟩
theorem St.dropK {w0 W : World} {O : Own} {q : Nat × World} {K : List (Nat × World)} (h : St w0 O [] (q :: K) W) : St w0 O [] K W := ⟨h.below, h.own, h.dist, fun q hq => h.kept q (List.mem_cons_of_mem _ hq), (fun g hg => by cases hg), List.Pairwise.nil⟩
theorem has_two {n p1 p2 : Nat} {l : Fr} {a : Act} {u1 u2 : Value} (h : Has n l { a with defers := [] }) (h1 : Nat.blt p1 n = true) (h2 : Nat.blt p2 n = true) : HasD n [] ((p2, u2) :: (p1, u1) :: l) { tmps := ((#[p1, p2] : Array Tmp).zip #[u1, u2]).foldl (fun t (p, v) => t.setIfInBounds p v) a.tmps, defers := [] } := by
  have h3 := (h.put (d := p1) (v := u1) h1).put (d := p2) (v := u2) h2
  have e : ({ tmps := ((#[p1, p2] : Array Tmp).zip #[u1, u2]).foldl (fun t (p, v) => t.setIfInBounds p v) a.tmps, defers := [] } : Act) = (({ a with defers := [] }.put (some p1) u1).put (some p2) u2) := by
    simp [Act.put]
  rw [e]
  exact hasD_of h3
theorem rangeR {α : Type} {m n : Nat} {P : Program} {Q : Exit → Act → World → Prop} {l : Fr} {w0 W : World} {K : List (Nat × World)} {gt p1 p2 : Nat} {assign body : Code} {gf : Nat} {lb : Array Value} {u1 u2 : α → Value} {xs : List α} {Of : List α → Own}
    (hg : evL l (.tmp gt) = some (.func (.func gf) #[] lb)) (eg : ∀ args w, (callFunc gf args).run P w = .ok (.enter gf args) w) (h1 : Nat.blt p1 n = true) (h2 : Nat.blt p2 n = true) (hS : St w0 (Of []) [] K W) (hO : ∀ pre, ∀ p ∈ Of pre, p.1 < W.heap.size)
    (hit : ∀ (lp : Nat) (J : List α → World → Prop) (W1 : World), (∀ pre X, J pre X → St w0 (Of pre) [] K X) →
      (∀ pre x rest X, xs = pre ++ x :: rest → J pre X → YieldAt Fence.wide (m - 1 - 1) P lp #[u1 x, u2 x] X fun e X' => e = .returned (.bool true) ∧ J (pre ++ [x]) X') → J [] W1 →
      CallsIn Fence.wide (m - 1) P gf (#[.func (.yield lp) #[] #[]] ++ lb) W1 fun e W2 => (∃ v, e = .returned v) ∧ J xs W2)
    (hround : ∀ (lp : Nat) (pre : List α) (x : α) (rest : List α) (X : World), xs = pre ++ x :: rest → W.heap.size ≤ lp → lp < X.heap.size → St w0 (Of pre) [] ((W.heap.size, X) :: K) X →
      CodeR (Fence.wide.inRound lp) (m - 1 - 1) P n [] assign (fun e a1 W1 => e = .normal ∧ ∃ l1 O1, HasD n [] l1 a1 ∧ St w0 O1 [] ((W.heap.size, X) :: K) W1 ∧ ∀ X2 W2, St w0 O1 [] ((W.heap.size, X2) :: K) W2 →
        CodeR (Fence.wide.inRound lp) (m - 1 - 1) P n [] body (fun e a3 W3 => e = .normal ∧ ∃ O3, St w0 (O3 ++ Of (pre ++ [x])) [] ((W.heap.size, X2) :: K) W3) l1 W2) ((p2, u2 x) :: (p1, u1 x) :: l) X)
    (hdone : ∀ W2, W2.heap[W.heap.size]? = some (.deferred (some [])) → St w0 (Of xs) [] K W2 → XR Q .normal n [{ target := .collected W.heap.size, args := #[] }] l W2) : CodeR Fence.wide m P n [] (.rangeFunc (.tmp gt) #[p1, p2] assign body) Q l W := fun a ha => by
  refine wpIn_rangeFunc fun fn hfn => ?_
  obtain ⟨D, hDe⟩ : ∃ D, W.heap.size = D := ⟨_, rfl⟩
  let rec_ : LoopState → Loop := fun st => { state := st, pending := none, fn, tmps := a.tmps, params := #[p1, p2], assign, body, defers := W.heap.size }
  obtain ⟨W1, hW1⟩ : ∃ W1, (W.alloc (.deferred (some []))).alloc (.loop (rec_ .ready)) = W1 := ⟨_, rfl⟩
  have hsz0 : (W.alloc (.deferred (some []))).heap.size = W.heap.size + 1 := by simp
  have hL1 : W1.heap[W.heap.size + 1]? = some (.loop (rec_ .ready)) := by
    rw [← hW1, ← hsz0]; exact World.alloc_heap_new _ _
  have hK1 : W1.heap[W.heap.size]? = some (.deferred (some [])) := by
    rw [← hW1]; exact (Below.heap_alloc _ _ _ (by simp)).trans (World.alloc_heap_new W _)
  have hS1 : St w0 (Of []) [] K W1 := by
    rw [← hW1]
    exact hS.grow (((Below.refl _ W).alloc (Nat.le_refl _) _).alloc (by simp) _)
  have hw0 : w0.heap.size ≤ W.heap.size := hS.below.size
  have hKs : ∀ q ∈ K, q.2.heap.size ≤ W.heap.size := fun q hq => (hS.kept q hq).1.1
  have rnd : (Fence.wide).round = none := rfl
  rw [rnd]
  refine ⟨W.heap.size + 1, [{ target := .collected W.heap.size, args := #[] }], W1, { target := .fn (.func gf) lb, args := #[.func (.yield (W.heap.size + 1)) #[] #[]] }, W1, gf,
    #[.func (.yield (W.heap.size + 1)) #[] #[]] ++ lb, W1, ?_, ?_, ?_, ?_, (fun h => by cases h), ?_⟩
  · rw [← hW1]; exact run_enterLoop_outer _ _ _ _ _
  · simp only [resolve, ha.ev _ _ hg]
    simp [go_sem]
  · intro f' hf'; exact trivial
  · simp [invoke, go_sem, eg]
  refine (hit (W.heap.size + 1) (fun pre X => St w0 (Of pre) [] K X ∧ X.heap[W.heap.size + 1]? = some (.loop (rec_ .ready)) ∧ X.heap[W.heap.size]? = some (.deferred (some []))) W1 (fun pre X h => h.1) ?_ ⟨hS1, hL1, hK1⟩).mono ?_
  · rintro pre x rest X hx ⟨hi, hl, hk⟩
    have hlt : W.heap.size + 1 < X.heap.size := (Array.getElem?_eq_some_iff.1 hl).1
    have hy := run_yield (P := P) (args := #[u1 x, u2 x]) hl rfl
    refine ⟨fn, _, assign, body, hy, roundIn_of_wpIn hfn ?_⟩
    refine wpIn_mono (hround (W.heap.size + 1) pre x rest X hx (by omega) hlt (hi.markK _ (hO pre)) _ (has_two ha.has h1 h2)) ?_
    rintro e a1 W2 ⟨rfl, l1, O1, hl1, hs1, hb1⟩
    have hag := hs1.since 0 rfl
    have hl2 : W2.heap[W.heap.size + 1]? = some (.loop (rec_ .ready)) := (hag.2 _ (by omega) hlt).trans hl
    refine ⟨_, run_beginRound hl2 rfl, ?_⟩
    have hs2 := hs1.put (k := W.heap.size + 1) (o := .loop (rec_ .busy)) (by omega) hlt hw0 (fun q hq => by have := hKs q hq; omega)
    refine wpIn_mono (hb1 _ _ hs2 a1 hl1) ?_
    rintro e a3 W3 ⟨rfl, O3, hs3⟩
    have hag3 := hs3.since 0 rfl
    have hl3 : W3.heap[W.heap.size + 1]? = some (.loop (rec_ .busy)) := (hag3.2 _ (by omega) (by rw [putObj_size]; exact hlt)).trans (World.putObj_heap_same hlt)
    have hd3 : W3.heap[W.heap.size]? = some (.deferred (some [])) := (hag3.2 _ (Nat.le_refl _) (by rw [putObj_size]; omega)).trans ((World.putObj_heap_other (by omega)).trans hk)
    have hr := run_endRound (P := P) none hl3
    have hs4 := hs3.put (k := W.heap.size + 1) (o := .loop (rec_ .ready)) (by omega) (by rw [putObj_size]; exact hlt) hw0 (fun q hq => by have := hKs q hq; omega)
    exact ⟨_, _, hr, rfl, (St.drops _ hs4).dropK, World.putObj_heap_same (Array.getElem?_eq_some_iff.1 hl3).1, (World.putObj_heap_other (by omega)).trans hd3⟩
  · rintro e W2 ⟨⟨v, rfl⟩, hi, hl, hk⟩
    have hlt : W.heap.size + 1 < W2.heap.size := (Array.getElem?_eq_some_iff.1 hl).1
    have hs2 := (hi.markK W.heap.size (hO xs)).put (k := W.heap.size + 1) (o := .loop { rec_ .ready with state := .exhausted }) (by omega) hlt hw0 (fun q hq => by have := hKs q hq; omega)
    refine ⟨none, _, run_endLoop (P := P) hl (by simp [rec_]), ?_⟩
    refine hdone _ ((World.putObj_heap_other (by omega)).trans hk) hs2.dropK _ ⟨ha.has, ?_⟩
    show [_] ++ a.defers = _
    rw [ha.defers]
    rfl
end Go.Proofs.Ytpinbmjkbkogdaa
namespace Go.Proofs.Ytpinbmjkbkogdaa
open Go Go.RowKit
set_option linter.unusedVariables false
theorem rn_func {P : Program} {l : Fr} {W : World} {d f : Nat} {ty : TypeId} {pos : String} {aft : Array Edge} {x : Operand} {v : Value} (hx : evL l x = some v) : Runs P l ⟨some d, .makeFunc (.func f) #[] #[x], ty, pos, aft, none⟩ W (.func (.func f) #[] #[v]) W := fun ev he => by
  unfold execOp
  simp only []
  have e := he x _ hx
  simp [Instr.makeFunc, e]
set_option maxRecDepth 100000 in
theorem backward_is (a : Option Addr) (n c : Nat) (w : World) :
    Calls Try.prog 28 #[.slice a n c] w fun e w' => ∃ B, e = .returned (.func (.func 35) #[] #[.pointer (some ⟨B, 0, none⟩)]) ∧ w.heap.size ≤ B ∧ w'.heap[B]? = some (.cells #[.slice a n c] 25 (0, 0)) ∧ Below w.heap.size w w' := by
  refine enterF (args := [.slice a n c]) Try.func28 rfl Try.ntmps28 rfl ?_
  have hS := St.start w
  refine seqF ?_
  refine regF ?_
  refine op_box (cs := [_]) hS rfl rfl rfl ?_
  clear hS; intro B1 W1 hS
  refine op_assign rfl rfl ?_
  refine endF ?_
  refine XF.thenN ?_
  refine seqF ?_
  refine regF ?_
  refine opV (rn_func rfl) rfl ?_
  refine op_assign rfl rfl ?_
  refine endF ?_
  refine XF.thenN ?_
  refine retF ?_
  refine XF.res (res1 Try.results28 rfl) ?_
  exact ⟨B1, rfl, hS.ge 0 rfl, hS.at_ 0 rfl, hS.below⟩
abbrev UV.val (u : UV) : Value := .agg #[.string u.nm, .int .i64 u.pr, .int .i64 u.fr, .int .i64 u.bk]
def uat (ts : List UV) (i : Nat) : UV := (ts[i]?).getD ⟨⟨#[]⟩, 0, 0, 0⟩
theorem hF_wide : ∀ f, Fence.wide.fn f := fun _ => trivial
theorem range_rev (k : Nat) : (List.range (k + 1)).reverse = k :: (List.range k).reverse := by simp [List.range_succ]
set_option maxRecDepth 100000 in
set_option maxHeartbeats 4000000 in
theorem back1 {m B tl tc : Nat} {ta : Option Addr} {ts : List UV} {w0 : World} {Of : List Nat → Own} {K : List (Nat × World)} (hb : tl ≤ 5000) (htl : ts.length = tl) (ht : RowL UV.four 4 w0 ta ts) (hB : ∀ pre X, St w0 (Of pre) [] K X → X.heap[B]? = some (.cells #[.slice ta tl tc] 25 (0, 0)))
    (lp : Nat) (J : List Nat → World → Prop) (W1 : World) (hJ : ∀ pre X, J pre X → St w0 (Of pre) [] K X)
    (hY : ∀ (pre : List Nat) (x : Nat) (rest : List Nat) (X : World), (List.range tl).reverse = pre ++ x :: rest → J pre X → YieldAt Fence.wide (m - 1) Try.prog lp #[.int .i64 (x : Int), (uat ts x).val] X fun e X' => e = .returned (.bool true) ∧ J (pre ++ [x]) X') (h0 : J [] W1) :
    CallsIn Fence.wide m Try.prog 35 (#[.func (.yield lp) #[] #[]] ++ #[.pointer (some ⟨B, 0, none⟩)]) W1 fun e W2 => (∃ v, e = .returned v) ∧ J (List.range tl).reverse W2 := by
  refine enterR (args := [.func (.yield lp) #[] #[], .pointer (some ⟨B, 0, none⟩)]) hF_wide rfl Try.func35 rfl Try.ntmps35 rfl ?_
  have hc0 : W1.cell? ⟨B, 0, none⟩ = some (.slice ta tl tc) := cell_own (cs := [.slice ta tl tc]) (hB _ _ (hJ _ _ h0)) rfl
  refine seqR (regR ?_)
  refine opVR hF_wide (rn_load Try.isAgg25 rfl hc0) (fun c h => by cases h) rfl ?_
  refine opVR hF_wide (rn_len Try.underlying25 rfl) (fun c h => by cases h) rfl ?_
  refine opVR hF_wide (rn_sub rfl rfl (IntWalk.i64_in _ (by omega))) (fun c h => by cases h) rfl ?_
  refine opVR hF_wide (rn_assign rfl) (fun c h => by cases h) rfl ?_
  refine endR (XR.thenN ?_)
  refine blockR ?_
  refine loopR (fun k l W => ∃ (pre : List Nat) (i : Int), k ≤ tl ∧ i = (k : Int) - 1 ∧ l = [(0, .func (.yield lp) #[] #[]), (1, .pointer (some ⟨B, 0, none⟩)), (3, .int .i64 i)] ∧ (List.range tl).reverse = pre ++ (List.range k).reverse ∧ J pre W) tl [(0, _), (1, _), (3, _)] ⟨rfl, rfl, rfl, trivial⟩ ⟨[], _, Nat.le_refl _, rfl, rfl, rfl, h0⟩ ?_
  rintro k l W ⟨pre, i, hk, hi, rfl, hpre, hJW⟩
  refine seqR (seqR (regR ?_))
  refine opVR hF_wide (rn_move rfl) (fun c h => by cases h) rfl ?_
  refine opVR hF_wide (rn_geq rfl rfl) (fun c h => by cases h) rfl ?_
  refine endR (XR.thenN ?_)
  cases k with
  | zero =>
    refine condRF (by show some (Value.bool (decide ((0 : Int) ≤ i))) = _; rw [decide_eq_false (by omega)]) (exitR (XR.thenX ?_))
    refine XR.thenX (XR.blkX ?_)
    refine XR.resN (v := .tuple #[]) (res0 Try.results35) ⟨⟨_, rfl⟩, ?_⟩
    rw [hpre]; simpa using hJW
  | succ k =>
    obtain rfl : i = (k : Int) := by omega
    refine condRT (by show some (Value.bool (decide ((0 : Int) ≤ (k : Int)))) = _; rw [decide_eq_true (by omega)]) (skipR (XR.thenN ?_))
    refine seqR (blockR ?_)
    obtain ⟨tb, to_, u, hta, hu, huc⟩ := ht.get (i := k) (by omega)
    subst hta
    have hSW := hJ _ _ hJW
    have k0 : W.cell? ⟨B, 0, none⟩ = some (.slice (some ⟨tb, to_, none⟩) tl tc) := cell_own (cs := [_]) (hB _ _ hSW) rfl
    have k1 := CellsAt.agree hSW.agree (Nat.zero_le _) huc
    have huat : uat ts k = u := by unfold uat; rw [hu]; rfl
    refine seqR (regR ?_)
    refine opVR hF_wide (rn_move rfl) (fun c h => by cases h) rfl ?_
    refine opVR hF_wide (rn_move rfl) (fun c h => by cases h) rfl ?_
    refine opVR hF_wide (rn_load Try.isAgg25 rfl k0) (fun c h => by cases h) rfl ?_
    refine opVR hF_wide (rn_move rfl) (fun c h => by cases h) rfl ?_
    refine opVR hF_wide (rn_indexA (j := k) Try.underlying25 Try.sizeOf47 rfl rfl rfl (by omega) rfl) (fun c h => by cases h) rfl ?_
    refine opVR hF_wide (rn_loadA (vs := [_, _, _, _]) Try.isAgg47 Try.sizeOf47 rfl k1) (fun c h => by cases h) rfl ?_
    have hy := hY pre k (List.range k).reverse W (by rw [hpre, range_rev]) hJW
    rw [huat] at hy
    refine op_yieldR (vs := [_, _]) hF_wide rfl rfl rfl rfl hy ?_
    rintro e W3 ⟨rfl, hJ3⟩
    refine ⟨_, rfl, ?_⟩
    refine opVR hF_wide (rn_not rfl) (fun c h => by cases h) rfl ?_
    refine endR (XR.thenN ?_)
    refine condRF rfl (skipR ?_)
    refine XR.blkN (XR.thenN ?_)
    refine regR ?_
    refine opVR hF_wide (rn_move rfl) (fun c h => by cases h) rfl ?_
    refine opVR hF_wide (rn_sub rfl rfl (IntWalk.i64_in _ (by omega))) (fun c h => by cases h) rfl ?_
    refine opVR hF_wide (rn_assign rfl) (fun c h => by cases h) rfl ?_
    refine endR ?_
    exact XR.round k [(0, _), (1, _), (3, _)] (Nat.lt_succ_self _) ⟨rfl, rfl, rfl, trivial⟩ ⟨pre ++ [k], _, by omega, rfl, rfl, by rw [hpre, range_rev]; simp, hJ3⟩
theorem made1 (v : Value) (n : Nat) : madeCells #[v] n = (List.replicate n v).toArray := by
  unfold madeCells
  apply Array.ext
  · simp
  · intro i h1 h2
    simp [Nat.mod_one]
theorem blt_of {a b : Nat} (h : a < b) : Nat.blt a b = true := Nat.ble_eq_true_of_le h
theorem fill_step {i n : Nat} (h : i < n) : ((List.replicate i (-1 : Int) ++ List.replicate (n - i) 0).map (Value.int .i64)).set i (.int .i64 (-1)) = (List.replicate (i + 1) (-1 : Int) ++ List.replicate (n - (i + 1)) 0).map (Value.int .i64) := by
  rw [← List.map_set, List.set_append_right _ _ (by simp), List.length_replicate, Nat.sub_self, show n - i = (n - (i + 1)) + 1 by omega, List.replicate_succ, List.set_cons_zero, List.replicate_succ' (n := i), List.append_assoc]
  rfl
def valsF (ts : List UV) (ol : Nat) (pre : List Nat) : List Int := pre.foldl (fun vs i => vs.set (uat ts i).bk.toNat (i : Int)) (List.replicate ol (-1))
theorem valsF_len (ts : List UV) (ol : Nat) (pre : List Nat) : (valsF ts ol pre).length = ol := by
  have key : ∀ (pre : List Nat) (vs : List Int), (pre.foldl (fun vs i => vs.set (uat ts i).bk.toNat (i : Int)) vs).length = vs.length := by
    intro pre
    induction pre with
    | nil => intro vs; rfl
    | cons x pre ih => intro vs; rw [List.foldl_cons, ih, List.length_set]
  unfold valsF
  rw [key, List.length_replicate]
theorem valsF_snoc (ts : List UV) (ol : Nat) (pre : List Nat) (x : Nat) : valsF ts ol (pre ++ [x]) = (valsF ts ol pre).set (uat ts x).bk.toNat (x : Int) := by
  unfold valsF; rw [List.foldl_append]; rfl
def firstL (ts : List UV) (ol : Nat) : List Int := valsF ts ol (List.range ts.length).reverse
end Go.Proofs.Ytpinbmjkbkogdaa
namespace Go.Proofs.Ytpinbmjkbkogdaa
open Go Go.RowKit
set_option linter.unusedVariables false
theorem goes_28 : goesIn Try.prog 28 = true := by kernel_rfl
set_option maxRecDepth 100000 in
set_option maxHeartbeats 4000000 in
theorem first_c (va : Option Addr) (vl : Nat) (vc : Nat) (pa : Option Addr) (pl : Nat) (pc : Nat) (ea : Option Addr) (el : Nat) (ec : Nat) (es : List Int) (xa : Option Addr) (xl : Nat) (xc : Nat) (xs : List Int) (mn : Int) (oa : Option Addr) (ol : Nat) (oc : Nat) (os : List Int) (sa : Option Addr) (sl : Nat) (sc : Nat) (ss : List TV) (ta : Option Addr) (tl : Nat) (tc : Nat) (ts : List UV) (na : Option Addr) (nl : Nat) (nc : Nat) (ns : List NV) (ka : Option Addr) (kl : Nat) (kc : Nat) (ks : List KV) (w : World) (he : RowI w ea es) (hel : es.length = el) (hx : RowI w xa xs) (hxl : xs.length = xl) (ho : RowI w oa os) (hol : os.length = ol) (hs : RowL TV.sev 7 w sa ss) (hsl : ss.length = sl) (ht : RowL UV.four 4 w ta ts) (htl : ts.length = tl) (hn : RowL NV.two 2 w na ns) (hnl : ns.length = nl) (hk : RowL KV.two 2 w ka ks) (hkl : ks.length = kl) (b1 : vl ≤ 5000) (b2 : pl ≤ 5000) (b3 : el ≤ 5000) (b4 : xl ≤ 5000) (b5 : ol ≤ 5000) (b6 : sl ≤ 5000) (b7 : tl ≤ 5000) (b8 : nl ≤ 5000) (b9 : kl ≤ 5000) (hbk : ∀ u ∈ ts, inQ u.bk ol = true) :
    Calls Try.prog 17 #[.agg #[.slice va vl vc, .slice pa pl pc, .slice ea el ec, .slice xa xl xc, .int .i64 mn, .slice oa ol oc, .slice sa sl sc, .slice ta tl tc, .slice na nl nc, .slice ka kl kc]] w (fun e w' => ∃ B, e = .returned (.slice (some ⟨B, 0, none⟩) ol ol) ∧ w.heap.size ≤ B ∧ w'.heap[B]? = some (.cells ((firstL ts ol).map (Value.int .i64)).toArray 3 (0, 0)) ∧ Below w.heap.size w w') := by
  refine enterMF (args := [.agg #[.slice va vl vc, .slice pa pl pc, .slice ea el ec, .slice xa xl xc, .int .i64 mn, .slice oa ol oc, .slice sa sl sc, .slice ta tl tc, .slice na nl nc, .slice ka kl kc]]) 5 Try.func17 rfl Try.ntmps17 rfl ?_
  have hS := St.start w
  refine seqF ?_
  refine regF ?_
  refine op_box (cs := [_, _, _, _, _, _, _, _, _, _]) hS rfl rfl rfl ?_
  clear hS; intro B1 W1 hS
  refine op_assign rfl rfl ?_
  refine endF ?_
  refine XF.thenN ?_
  refine seqF ?_
  refine regF ?_
  refine op_field (o' := 5) fa_29_5 rfl rfl rfl ?_
  refine op_load Try.isAgg23 rfl (cell_own (hS.at_ 0 rfl) rfl) rfl ?_
  refine op_len Try.underlying23 rfl rfl ?_
  refine op_make (m := ol) (cs := (List.replicate ol (0 : Int)).map (Value.int .i64)) hS Try.underlying23 inf_3 rfl rfl rfl (rfl) (rfl) (by rw [List.map_replicate]; exact (congrArg (madeCells _) (Nat.mul_one ol)).trans (made1 _ _)) (by show (8 : Int) * _ ≤ _; omega) (by omega) rfl ?_
  clear hS; intro B2 W2 hS
  refine op_alloc (cs := [_]) hS Try.zeroValue23 rfl rfl ?_
  clear hS; intro B3 W3 hS
  refine op_store (i := 0) (cs' := [_]) (O' := [_, _, _]) hS Try.sizeOf23 rfl rfl rfl rfl rfl rfl rfl ?_
  clear hS; intro W4 hS
  refine endF ?_
  refine XF.thenN ?_
  refine seqF ?_
  refine seqF ?_
  refine regF ?_
  refine op_load Try.isAgg23 rfl (cell_own (hS.at_ 0 rfl) rfl) rfl ?_
  refine op_len Try.underlying23 rfl rfl ?_
  refine op_move rfl rfl ?_
  refine endF ?_
  refine XF.thenN ?_
  refine blockF ?_
  refine loopF (fun m l W => ∃ i : Nat, i ≤ ol ∧ m = ol - i ∧ l = [(1, .pointer (some ⟨B1, 0, none⟩)), (3, .pointer (some ⟨B3, 0, none⟩)), (12, .int .i64 (ol : Int)), (13, .int .i64 (i : Int))] ∧ St w [(B3, [.slice (some ⟨B2, 0, none⟩) ol ol], 23), (B2, (List.replicate i (-1 : Int) ++ List.replicate (ol - i) 0).map (Value.int .i64), 3), (B1, [.slice va vl vc, .slice pa pl pc, .slice ea el ec, .slice xa xl xc, .int .i64 mn, .slice oa ol oc, .slice sa sl sc, .slice ta tl tc, .slice na nl nc, .slice ka kl kc], 29)] [] [] W) (ol - 0) ([(1, _), (3, _), (12, _), (13, _)]) ⟨rfl, rfl, rfl, rfl, trivial⟩ (⟨0, Nat.zero_le _, rfl, rfl, hS.clear⟩) ?_
  clear hS
  rintro m l W ⟨i, hi, rfl, rfl, hS⟩
  refine seqF ?_
  refine regF ?_
  refine op_lss rfl rfl rfl ?_
  refine endF ?_
  refine XF.thenN ?_
  refine seqF ?_
  refine condF rfl (fun hc => ?_) (fun hc => ?_)
  · have hc14 := of_decide_eq_true hc; clear hc
    refine skipF ?_
    refine XF.thenN ?_
    refine seqF ?_
    refine blockF ?_
    refine seqF ?_
    refine regF ?_
    refine op_move rfl rfl ?_
    refine op_assign rfl rfl ?_
    refine endF ?_
    refine XF.thenN ?_
    refine regF ?_
    refine op_load Try.isAgg23 rfl (cell_own (hS.at_ 0 rfl) rfl) rfl ?_
    refine op_move rfl rfl ?_
    refine op_indexA (j := i) (o' := i) Try.underlying23 Try.sizeOf3 rfl rfl rfl (by omega) (by omega) rfl ?_
    refine op_store (i := 1) (j := i) (cs' := (List.replicate (i + 1) (-1 : Int) ++ List.replicate (ol - (i + 1)) 0).map (Value.int .i64)) (O' := [_, _, _]) hS Try.sizeOf3 rfl rfl rfl rfl (blt_of (by simp; omega)) (fill_step (by omega)) rfl ?_
    clear hS; intro W99 hS
    refine endF ?_
    refine XF.blkN ?_
    refine XF.thenN ?_
    refine regF ?_
    refine op_add rfl rfl (IntWalk.i64_in _ (by omega)) rfl ?_
    refine op_move rfl rfl ?_
    refine endF ?_
    exact XF.round (ol - (i + 1)) [(1, _), (3, _), (12, _), (13, _)] (by omega) ⟨rfl, rfl, rfl, rfl, trivial⟩ ⟨i + 1, by omega, rfl, rfl, hS⟩
  · have hc14 := of_decide_eq_false hc; clear hc
    have hin : ol = i := by omega
    subst hin
    have hS := hS.castO (O' := [(B3, [.slice (some ⟨B2, 0, none⟩) ol ol], 23), (B2, (valsF ts ol []).map (Value.int .i64), 3), (B1, [.slice va vl vc, .slice pa pl pc, .slice ea el ec, .slice xa xl xc, .int .i64 mn, .slice oa ol oc, .slice sa sl sc, .slice ta tl tc, .slice na nl nc, .slice ka kl kc], 29)]) (by rw [Nat.sub_self]; simp [valsF])
    refine exitF ?_
    refine XF.thenX ?_
    refine XF.thenX ?_
    refine XF.blkX ?_
    refine XF.thenN ?_
    refine seqF ?_
    refine seqF ?_
    refine regF ?_
    refine op_field (o' := 7) fa_29_7 rfl rfl rfl ?_
    refine op_load Try.isAgg25 rfl (cell_own (hS.at_ 2 rfl) rfl) rfl ?_
    refine op_call (vs := [_]) hS goes_28 rfl (backward_is _ _ _ _) rfl ?_
    rintro e W5 ⟨B0, rfl, hB0, hBc, hb⟩
    refine ⟨_, rfl, hb, fun hS' => ?_⟩
    clear hS; have hS := hS'; clear hS' hb
    refine endF ?_
    refine XF.thenN ?_
    refine blockF ?_
    refine codeF_of 5 ?_
    have hown := hS.own_lt
    have hsz9 := hS.below.size
    refine rangeR (u1 := fun x : Nat => .int .i64 (x : Int)) (u2 := fun x => (uat ts x).val) (xs := (List.range tl).reverse) (Of := fun pre => [(B3, [.slice (some ⟨B2, 0, none⟩) ol ol], 23), (B2, (valsF ts ol pre).map (Value.int .i64), 3), (B1, [.slice va vl vc, .slice pa pl pc, .slice ea el ec, .slice xa xl xc, .int .i64 mn, .slice oa ol oc, .slice sa sl sc, .slice ta tl tc, .slice na nl nc, .slice ka kl kc], 29)]) rfl (enters_of Try.func35 (by kernel_rfl) rfl) rfl rfl hS (fun pre p hp => by
      simp only [List.mem_cons, List.not_mem_nil, or_false] at hp
      rcases hp with rfl | rfl | rfl
      · exact hown (_, _, _) List.mem_cons_self
      · exact hown (B2, (valsF ts ol []).map (Value.int .i64), _) (List.mem_cons_of_mem _ List.mem_cons_self)
      · exact hown (_, _, _) (List.mem_cons_of_mem _ (List.mem_cons_of_mem _ List.mem_cons_self))) ?_ ?_ ?_
    · intro lp J W1 hJ hY h0
      exact back1 b7 htl ht (fun pre X hX => ((hX.since 0 rfl).2 _ hB0 (lt_of_heap hBc)).trans hBc) lp J W1 hJ hY h0
    · intro lp pre x rest X hx hlo hlt hSX
      have hxt : x < tl := by
        have : x ∈ (List.range tl).reverse := by rw [hx]; simp
        simpa using this
      obtain ⟨u, hu⟩ : ∃ u, ts[x]? = some u := ⟨ts[x]'(by omega), by simp [show x < ts.length by omega]⟩
      have huat : uat ts x = u := by unfold uat; rw [hu]; rfl
      obtain ⟨kb, ekb, hkb⟩ := inQ_nat (hbk u (List.mem_of_getElem? hu))
      rw [huat]
      refine seqR (regR ?_)
      refine opVR (fun _ => trivial) (rn_assign rfl) (fun c h => by cases h) rfl ?_
      refine endR (XR.thenN ?_)
      refine regR ?_
      have hSA := hSX.alloc [.string ⟨#[]⟩, .int .i64 0, .int .i64 0, .int .i64 0] 47
      refine opVR (fun _ => trivial) (W' := X.alloc (.cells #[.string ⟨#[]⟩, .int .i64 0, .int .i64 0, .int .i64 0] 47)) (v := .pointer (some ⟨X.heap.size, 0, none⟩)) (fun ev he => by unfold execOp; simp only []; simp [Instr.alloc, newVar, newRow, Try.zeroValue47]; rfl) (fun c h => by cases h) rfl ?_
      refine op_storeR (p := .pointer (some ⟨X.heap.size, 0, none⟩)) (u := u.val) (w0 := w) (fun _ => trivial) rfl rfl (storeAt_many (m := 4) Try.sizeOf47 (vs := [.string u.nm, .int .i64 u.pr, .int .i64 u.fr, .int .i64 u.bk]) rfl rfl rfl (hSA.at_ 0 rfl) (j := 0) (by simp)) ?_
      refine endR ?_
      intro a1 ha1
      have hSB := hSA.setMany 0 [.string u.nm, .int .i64 u.pr, .int .i64 u.fr, .int .i64 u.bk] 0 rfl
      refine ⟨rfl, _, _, ha1, hSB, ?_⟩
      intro X2 W2 hS2
      refine blockR (regR ?_)
      refine opVR (fun _ => trivial) (rn_load Try.isAgg23 rfl (cell_own (hS2.at_ 1 rfl) rfl)) (fun c h => by cases h) rfl ?_
      refine opVR (fun _ => trivial) (rn_field (o' := 3) fa_47_3 rfl rfl) (fun c h => by cases h) rfl ?_
      refine opVR (fun _ => trivial) (rn_load Try.isAgg3 rfl (cell_own (hS2.at_ 0 rfl) rfl)) (fun c h => by cases h) rfl ?_
      refine opVR (fun _ => trivial) (rn_move rfl) (fun c h => by cases h) rfl ?_
      refine opVR (fun _ => trivial) (rn_indexA (j := kb) (o' := kb) Try.underlying23 Try.sizeOf3 rfl rfl ekb hkb (by omega)) (fun c h => by cases h) rfl ?_
      have hlv := valsF_len ts ol pre
      refine op_storeR (w0 := w) (fun _ => trivial) rfl rfl (storeAt_many (m := 1) Try.sizeOf3 (vs := [.int .i64 (x : Int)]) rfl rfl rfl (hS2.at_ 2 rfl) (j := kb) (by simp; omega)) ?_
      refine endR ?_
      intro a3 ha3
      have hS3 := hS2.setMany 2 [.int .i64 (x : Int)] kb rfl
      have hS4 := hS3.castO (O' := (X.heap.size, [.string u.nm, .int .i64 u.pr, .int .i64 u.fr, .int .i64 u.bk], 47) :: [(B3, [.slice (some ⟨B2, 0, none⟩) ol ol], 23), (B2, (valsF ts ol (pre ++ [x])).map (Value.int .i64), 3), (B1, [.slice va vl vc, .slice pa pl pc, .slice ea el ec, .slice xa xl xc, .int .i64 mn, .slice oa ol oc, .slice sa sl sc, .slice ta tl tc, .slice na nl nc, .slice ka kl kc], 29)]) (by rw [valsF_snoc, huat, ekb, Int.toNat_natCast, List.map_set]; rfl)
      exact ⟨rfl, [(X.heap.size, [.string u.nm, .int .i64 u.pr, .int .i64 u.fr, .int .i64 u.bk], 47)], hS4⟩
    · intro W2 hdef hS2
      refine XR.blkN (XR.thenW 5 ?_)
      refine seqR (regR ?_)
      refine opVR (fun _ => trivial) (rn_load Try.isAgg23 rfl (cell_own (hS2.at_ 0 rfl) rfl)) (fun c h => by cases h) rfl ?_
      refine opVR (fun _ => trivial) (rn_assign rfl) (fun c h => by cases h) rfl ?_
      refine endR (XR.thenN ?_)
      refine retR ?_
      refine XR.resM (v := .slice (some ⟨B2, 0, none⟩) ol ol) hdef (fun a W3 ha => by exact res1 (W := W3) Try.results17 rfl a ha) ?_
      have hlt2 := lt_of_heap hdef
      have hge := hS2.ge 1 rfl
      have hat := hS2.at_ 1 rfl
      have hne : B2 ≠ W5.heap.size := fun e => by have := hown (B2, _, _) (List.mem_cons_of_mem _ List.mem_cons_self); dsimp only at this; omega
      refine ⟨B2, rfl, hge, (World.putObj_heap_other hne).trans ?_, ⟨hS2.below.os, hS2.below.tape, hS2.below.output, by rw [putObj_size]; exact hS2.below.size, fun b hb => (World.putObj_heap_other (by omega)).trans (hS2.below.block b hb)⟩⟩
      unfold firstL
      rw [htl]; exact hat
end Go.Proofs.Ytpinbmjkbkogdaa
namespace Go.Proofs.Ytpinbmjkbkogdaa
open Go Go.RowKit
set_option linter.unusedVariables false
theorem addr_add1 (b o : Nat) : (⟨b, o, none⟩ : Addr).add (1 * 1) = ⟨b, o + 1, none⟩ := by simp [Addr.add]
theorem RowI.tail1 {W : World} {a : Option Addr} {y : Int} {t : List Int} {c : Nat} (h : RowI W a (y :: t)) (hc : (y :: t).length ≤ c) : RowI W (if c = 1 then a else a.map (·.add (1 * 1))) t := by
  cases t with
  | nil => exact .inl rfl
  | cons z t =>
    have hc2 : ¬ c = 1 := by simp at hc; omega
    rw [if_neg hc2]
    rcases h with h | ⟨b, off, rfl, hh⟩
    · cases h
    · refine .inr ⟨b, off + 1, ?_, fun i x hx => ?_⟩
      · show some ((⟨b, off, none⟩ : Addr).add (1 * 1)) = _
        rw [addr_add1]
      · have h2 := hh (i + 1) x (by simpa using hx)
        rw [show off + (i + 1) * 1 = off + 1 + i * 1 by omega] at h2
        exact h2
def fsts (fl : List Int) (ol : Nat) : List Int → Option (List Int)
  | [] => some []
  | n :: r => if inQ n ol = true then (match fl[n.toNat]? with | some s => if s < 0 then none else (fsts fl ol r).map (s :: ·) | none => none) else none
def sitesE (g : GV) (p : Int) (ws : List Int) : Int × List Int × Int :=
  if checkE g ≠ 0 then (0, [], checkE g) else match ws with
    | [] => (0, [], 120)
    | n :: r => if p ≠ 0 ∨ 4096 < r.length + 1 ∨ inQ n g.ol = false then (0, [], 120) else match fsts (firstL g.ts g.ol) g.ol r with
      | none => (0, [], 120)
      | some l => (n, l, 0)
def SitesRet (R : Int × List Int × Int) (w : World) (e : Ending) (w' : World) : Prop := Below w.heap.size w w' ∧ ((R.2.2 ≠ 0 ∧ e = .returned (.tuple #[.int .i64 0, .slice none 0 0, .int .i64 R.2.2])) ∨ (R.2.2 = 0 ∧ ∃ a c, e = .returned (.tuple #[.int .i64 R.1, .slice a R.2.1.length c, .int .i64 0]) ∧ RowN w.heap.size w' a c R.2.1))
theorem sitesRet_bad {R : Int × List Int × Int} {w w' : World} {c : Int} (hb : Below w.heap.size w w') (h : R = (0, [], c)) (hc : c ≠ 0) : SitesRet R w (.returned (.tuple #[.int .i64 0, .slice none 0 0, .int .i64 c])) w' := by
  subst h; exact ⟨hb, .inl ⟨hc, rfl⟩⟩
theorem fsts_out {fl : List Int} {ol : Nat} {n : Int} {r : List Int} (h : inQ n ol = false) : fsts fl ol (n :: r) = none := by
  simp only [fsts]; rw [if_neg (by rw [h]; simp)]
theorem fsts_at {fl : List Int} {ol k : Nat} {s : Int} {r : List Int} (h : k < ol) (hs : fl[k]? = some s) : fsts fl ol ((k : Int) :: r) = if s < 0 then none else (fsts fl ol r).map (s :: ·) := by
  simp only [fsts]; rw [if_pos (inQ_of h), Int.toNat_natCast, hs]
theorem kind8 {g : GV} {s : TV} {n : Nat} (h8 : s.k = 8) (h : kindB g s n = true) : siteC g.ts s n = true := by
  unfold kindB at h
  rw [if_neg (by omega), if_pos h8] at h
  simp only [Bool.and_eq_true] at h
  exact h.2.2.2
theorem steps_back {g : GV} : ∀ {ss : List TV} {n m : Nat}, stepsFrom g ss n = some m → ∀ (i : Nat), n ≤ i → i < m → ∃ u, g.ts[i]? = some u ∧ inQ u.bk g.ol = true
  | [], n, m, h, i, h1, h2 => by simp only [stepsFrom, Option.some.injEq] at h; omega
  | s :: r, n, m, h, i, h1, h2 => by
    simp only [stepsFrom] at h
    split at h
    · rename_i hst
      by_cases h8 : s.k = 8
      · rw [if_pos h8] at h
        by_cases hin : i = n
        · subst hin
          unfold stepK at hst
          split at hst
          · cases hst
          · split at hst
            · cases hst
            · rename_i _ ht
              split at hst
              · cases hst
              · have hs := kind8 h8 hst
                unfold siteC at hs
                cases hu : g.ts[i]? with
                | none => rw [hu] at hs; simp at hs
                | some u =>
                  rw [hu] at hs
                  simp only [Bool.and_eq_true, decide_eq_true_eq] at hs
                  exact ⟨u, rfl, by rw [hs.2.2]; simpa using ht⟩
        · exact steps_back h i (by omega) h2
      · rw [if_neg h8] at h
        exact steps_back h i h1 h2
    · cases h
theorem backs_in {g : GV} (htl : g.ts.length = g.tl) (h : checkE g = 0) : ∀ u ∈ g.ts, inQ u.bk g.ol = true := fun u hu => by
  unfold checkE at h
  split at h
  · cases h
  · split at h
    · cases h
    · rename_i hs
      have hs2 : stepsB g = true := by simpa using hs
      unfold stepsB at hs2
      have hs3 := of_decide_eq_true hs2
      obtain ⟨i, hi, e⟩ := List.mem_iff_getElem.1 hu
      obtain ⟨v, hv, hin⟩ := steps_back hs3 i (Nat.zero_le _) (by omega)
      rw [List.getElem?_eq_getElem hi, e] at hv
      cases hv; exact hin
end Go.Proofs.Ytpinbmjkbkogdaa
namespace Go.Proofs.Ytpinbmjkbkogdaa
open Go Go.RowKit
set_option linter.unusedVariables false
theorem fa_31_0 (w : World) (b o : Nat) : (Instr.fieldAt 31 (.pointer (some ⟨b, o, none⟩)) 0).run Try.prog w = .ok (.pointer (some ⟨b, o + 0, none⟩)) w := by
  simp [Instr.fieldAt, run_underlying Try.underlying31, Instr.sureAddr, go_sem, Addr.add_lit]
theorem goes_17 : goesIn Try.prog 17 = true := by kernel_rfl
set_option maxRecDepth 100000 in
set_option maxHeartbeats 4000000 in
theorem sites_c (va : Option Addr) (vl : Nat) (vc : Nat) (pa : Option Addr) (pl : Nat) (pc : Nat) (ea : Option Addr) (el : Nat) (ec : Nat) (es : List Int) (xa : Option Addr) (xl : Nat) (xc : Nat) (xs : List Int) (mn : Int) (oa : Option Addr) (ol : Nat) (oc : Nat) (os : List Int) (sa : Option Addr) (sl : Nat) (sc : Nat) (ss : List TV) (ta : Option Addr) (tl : Nat) (tc : Nat) (ts : List UV) (na : Option Addr) (nl : Nat) (nc : Nat) (ns : List NV) (ka : Option Addr) (kl : Nat) (kc : Nat) (ks : List KV) (w : World) (he : RowI w ea es) (hel : es.length = el) (hx : RowI w xa xs) (hxl : xs.length = xl) (ho : RowI w oa os) (hol : os.length = ol) (hs : RowL TV.sev 7 w sa ss) (hsl : ss.length = sl) (ht : RowL UV.four 4 w ta ts) (htl : ts.length = tl) (hn : RowL NV.two 2 w na ns) (hnl : ns.length = nl) (hk : RowL KV.two 2 w ka ks) (hkl : ks.length = kl) (b1 : vl ≤ 5000) (b2 : pl ≤ 5000) (b3 : el ≤ 5000) (b4 : xl ≤ 5000) (b5 : ol ≤ 5000) (b6 : sl ≤ 5000) (b7 : tl ≤ 5000) (b8 : nl ≤ 5000) (b9 : kl ≤ 5000) (p : Int) (wa : Option Addr) (wl wc : Nat) (ws : List Int) (hrw : RowI w wa ws) (hwl : ws.length = wl) (hwc : wl ≤ wc) :
    Calls Try.prog 9 #[.agg #[.slice va vl vc, .slice pa pl pc, .slice ea el ec, .slice xa xl xc, .int .i64 mn, .slice oa ol oc, .slice sa sl sc, .slice ta tl tc, .slice na nl nc, .slice ka kl kc], .agg #[.int .i64 p, .slice wa wl wc]] w (SitesRet (sitesE ⟨va, vl, vc, pa, pl, pc, ea, el, ec, es, xa, xl, xc, xs, mn, oa, ol, oc, os, sa, sl, sc, ss, ta, tl, tc, ts, na, nl, nc, ns, ka, kl, kc, ks⟩ p ws) w) := by
  refine enterF (args := [.agg #[.slice va vl vc, .slice pa pl pc, .slice ea el ec, .slice xa xl xc, .int .i64 mn, .slice oa ol oc, .slice sa sl sc, .slice ta tl tc, .slice na nl nc, .slice ka kl kc], .agg #[.int .i64 p, .slice wa wl wc]]) Try.func9 rfl Try.ntmps9 rfl ?_
  have hS := St.start w
  refine seqF ?_
  refine regF ?_
  refine op_box (cs := [_, _, _, _, _, _, _, _, _, _]) hS rfl rfl rfl ?_
  clear hS; intro B1 W1 hS
  refine op_box (cs := [_, _]) hS rfl rfl rfl ?_
  clear hS; intro B2 W2 hS
  refine op_assign rfl rfl ?_
  refine op_assign rfl rfl ?_
  refine op_assign rfl rfl ?_
  refine endF ?_
  refine XF.thenN ?_
  refine seqF ?_
  refine seqF ?_
  refine regF ?_
  refine op_loadA (vs := [_, _, _, _, _, _, _, _, _, _]) Try.isAgg29 Try.sizeOf29 rfl (CellsAt.own (j := 0) (m := 10) (hS.at_ 1 rfl) rfl) rfl ?_
  refine op_call (vs := [_]) hS goes_15 rfl (check_c _ vl vc _ pl pc _ el ec es _ xl xc xs mn _ ol oc os _ sl sc ss _ tl tc ts _ nl nc ns _ kl kc ks  _ (he.below hS.below) hel (hx.below hS.below) hxl (ho.below hS.below) hol (hs.below hS.below) hsl (ht.below hS.below) htl (hn.below hS.below) hnl (hk.below hS.below) hkl b1 b2 b3 b4 b5 b6 b7 b8 b9) rfl ?_
  rintro e W3 ⟨rfl, hb⟩
  refine ⟨_, rfl, hb, fun hS' => ?_⟩
  clear hS; have hS := hS'; clear hS' hb
  refine op_assign rfl rfl ?_
  refine endF ?_
  refine XF.thenN ?_
  refine seqF ?_
  refine regF ?_
  refine op_move rfl rfl ?_
  refine op_neq rfl rfl rfl ?_
  refine endF ?_
  refine XF.thenN ?_
  refine condF rfl (fun hc => ?_) (fun hc => ?_)
  · have hc16 := of_decide_eq_true hc; clear hc
    have hce : checkE ⟨va, vl, vc, pa, pl, pc, ea, el, ec, es, xa, xl, xc, xs, mn, oa, ol, oc, os, sa, sl, sc, ss, ta, tl, tc, ts, na, nl, nc, ns, ka, kl, kc, ks⟩ ≠ 0 := hc16
    refine seqF ?_
    refine regF ?_
    refine op_move rfl rfl ?_
    refine op_assign rfl rfl ?_
    refine op_assign rfl rfl ?_
    refine op_assign rfl rfl ?_
    refine endF ?_
    refine XF.thenN ?_
    refine retF ?_
    refine XF.thenR ?_
    refine XF.res (res3 Try.results9 rfl rfl rfl) ?_
    exact sitesRet_bad hS.below (by unfold sitesE; rw [if_pos hce]) hce
  · have hc16 := of_decide_eq_false hc; clear hc
    have hce : checkE ⟨va, vl, vc, pa, pl, pc, ea, el, ec, es, xa, xl, xc, xs, mn, oa, ol, oc, os, sa, sl, sc, ss, ta, tl, tc, ts, na, nl, nc, ns, ka, kl, kc, ks⟩ = 0 := Decidable.of_not_not hc16
    have hbk := backs_in (g := ⟨va, vl, vc, pa, pl, pc, ea, el, ec, es, xa, xl, xc, xs, mn, oa, ol, oc, os, sa, sl, sc, ss, ta, tl, tc, ts, na, nl, nc, ns, ka, kl, kc, ks⟩) htl hce
    refine skipF ?_
    refine XF.thenN ?_
    refine seqF ?_
    refine regF ?_
    refine op_field (o' := 5) fa_29_5 rfl rfl rfl ?_
    refine op_load Try.isAgg23 rfl (cell_own (hS.at_ 1 rfl) rfl) rfl ?_
    refine op_len Try.underlying23 rfl rfl ?_
    refine op_assign rfl rfl ?_
    refine endF ?_
    refine XF.thenN ?_
    refine seqF ?_
    refine seqF ?_
    refine regF ?_
    refine op_field (o' := 0) fa_31_0 rfl rfl rfl ?_
    refine op_load Try.isAgg3 rfl (cell_own (hS.at_ 0 rfl) rfl) rfl ?_
    refine op_neq rfl rfl rfl ?_
    refine op_move rfl rfl ?_
    refine op_cases (d := 24) rfl (fun hc => ?_) (fun hc => ?_)
    · have hg24 := of_decide_eq_true hc; clear hc
      refine op_notF (d := 24) rfl rfl rfl rfl ?_
      refine op_notF (d := 24) rfl rfl rfl rfl ?_
      refine op_notF (d := 24) rfl rfl rfl rfl ?_
      refine op_notF (d := 24) rfl rfl rfl rfl ?_
      refine op_pickT rfl rfl rfl ?_
      refine op_move rfl rfl ?_
      refine op_notF (d := 30) rfl rfl rfl rfl ?_
      refine op_notF (d := 30) rfl rfl rfl rfl ?_
      refine op_notF (d := 30) rfl rfl rfl rfl ?_
      refine op_notF (d := 30) rfl rfl rfl rfl ?_
      refine op_pickT rfl rfl rfl ?_
      refine op_move rfl rfl ?_
      refine op_notF (d := 36) rfl rfl rfl rfl ?_
      refine op_notF (d := 36) rfl rfl rfl rfl ?_
      refine op_notF (d := 36) rfl rfl rfl rfl ?_
      refine op_notF (d := 36) rfl rfl rfl rfl ?_
      refine op_notF (d := 36) rfl rfl rfl rfl ?_
      refine op_pickT rfl rfl rfl ?_
      refine op_move rfl rfl ?_
      refine op_notF (d := 43) rfl rfl rfl rfl ?_
      refine op_notF (d := 43) rfl rfl rfl rfl ?_
      refine op_notF (d := 43) rfl rfl rfl rfl ?_
      refine op_notF (d := 43) rfl rfl rfl rfl ?_
      refine op_notF (d := 43) rfl rfl rfl rfl ?_
      refine op_notF (d := 43) rfl rfl rfl rfl ?_
      refine op_pickT rfl rfl rfl ?_
      refine endF ?_
      refine XF.thenN ?_
      refine condT rfl ?_
      refine seqF ?_
      refine regF ?_
      refine op_assign rfl rfl ?_
      refine op_assign rfl rfl ?_
      refine op_assign rfl rfl ?_
      refine endF ?_
      refine XF.thenN ?_
      refine retF ?_
      refine XF.thenR ?_
      refine XF.res (res3 Try.results9 rfl rfl rfl) ?_
      exact sitesRet_bad hS.below (by unfold sitesE; dsimp only; rw [if_neg (by rw [hce]; simp)]; cases ws with | nil => rfl | cons n r => exact if_pos (.inl hg24)) (by decide)
    · have hg24 := of_decide_eq_false hc; clear hc
      refine op_wantedF (d := 24) rfl rfl ?_
      refine op_field (o' := 1) fa_31_1 rfl rfl rfl ?_
      refine op_wantedF (d := 24) rfl rfl ?_
      refine op_load Try.isAgg23 rfl (cell_own (hS.at_ 0 rfl) rfl) rfl ?_
      refine op_wantedF (d := 24) rfl rfl ?_
      refine op_len Try.underlying23 rfl rfl ?_
      refine op_wantedF (d := 24) rfl rfl ?_
      refine op_lss rfl rfl rfl ?_
      refine op_pickF rfl rfl rfl ?_
      refine op_move rfl rfl ?_
      refine op_cases (d := 30) rfl (fun hc => ?_) (fun hc => ?_)
      · have hg30 := of_decide_eq_true hc; clear hc
        refine op_notF (d := 30) rfl rfl rfl rfl ?_
        refine op_notF (d := 30) rfl rfl rfl rfl ?_
        refine op_notF (d := 30) rfl rfl rfl rfl ?_
        refine op_notF (d := 30) rfl rfl rfl rfl ?_
        refine op_pickT rfl rfl rfl ?_
        refine op_move rfl rfl ?_
        refine op_notF (d := 36) rfl rfl rfl rfl ?_
        refine op_notF (d := 36) rfl rfl rfl rfl ?_
        refine op_notF (d := 36) rfl rfl rfl rfl ?_
        refine op_notF (d := 36) rfl rfl rfl rfl ?_
        refine op_notF (d := 36) rfl rfl rfl rfl ?_
        refine op_pickT rfl rfl rfl ?_
        refine op_move rfl rfl ?_
        refine op_notF (d := 43) rfl rfl rfl rfl ?_
        refine op_notF (d := 43) rfl rfl rfl rfl ?_
        refine op_notF (d := 43) rfl rfl rfl rfl ?_
        refine op_notF (d := 43) rfl rfl rfl rfl ?_
        refine op_notF (d := 43) rfl rfl rfl rfl ?_
        refine op_notF (d := 43) rfl rfl rfl rfl ?_
        refine op_pickT rfl rfl rfl ?_
        refine endF ?_
        refine XF.thenN ?_
        refine condT rfl ?_
        refine seqF ?_
        refine regF ?_
        refine op_assign rfl rfl ?_
        refine op_assign rfl rfl ?_
        refine op_assign rfl rfl ?_
        refine endF ?_
        refine XF.thenN ?_
        refine retF ?_
        refine XF.thenR ?_
        refine XF.res (res3 Try.results9 rfl rfl rfl) ?_
        exact sitesRet_bad hS.below (by unfold sitesE; dsimp only; rw [if_neg (by rw [hce]; simp)]; cases ws with | nil => rfl | cons n r => exact absurd hwl (by rw [List.length_cons]; omega)) (by decide)
      · have hg30 := of_decide_eq_false hc; clear hc
        obtain ⟨n0, r0, rfl⟩ : ∃ n r, ws = n :: r := by
          cases ws with
          | nil => exact absurd hwl (by show ¬ 0 = wl; omega)
          | cons n r => exact ⟨n, r, rfl⟩
        rw [List.length_cons] at hwl
        refine op_wantedF (d := 30) rfl rfl ?_
        refine op_field (o' := 1) fa_31_1 rfl rfl rfl ?_
        refine op_wantedF (d := 30) rfl rfl ?_
        refine op_load Try.isAgg23 rfl (cell_own (hS.at_ 0 rfl) rfl) rfl ?_
        refine op_wantedF (d := 30) rfl rfl ?_
        refine op_len Try.underlying23 rfl rfl ?_
        refine op_wantedF (d := 30) rfl rfl ?_
        refine op_gtr rfl rfl rfl ?_
        refine op_pickF rfl rfl rfl ?_
        refine op_move rfl rfl ?_
        refine op_cases (d := 36) rfl (fun hc => ?_) (fun hc => ?_)
        · have hg36 := of_decide_eq_true hc; clear hc
          refine op_notF (d := 36) rfl rfl rfl rfl ?_
          refine op_notF (d := 36) rfl rfl rfl rfl ?_
          refine op_notF (d := 36) rfl rfl rfl rfl ?_
          refine op_notF (d := 36) rfl rfl rfl rfl ?_
          refine op_notF (d := 36) rfl rfl rfl rfl ?_
          refine op_pickT rfl rfl rfl ?_
          refine op_move rfl rfl ?_
          refine op_notF (d := 43) rfl rfl rfl rfl ?_
          refine op_notF (d := 43) rfl rfl rfl rfl ?_
          refine op_notF (d := 43) rfl rfl rfl rfl ?_
          refine op_notF (d := 43) rfl rfl rfl rfl ?_
          refine op_notF (d := 43) rfl rfl rfl rfl ?_
          refine op_notF (d := 43) rfl rfl rfl rfl ?_
          refine op_pickT rfl rfl rfl ?_
          refine endF ?_
          refine XF.thenN ?_
          refine condT rfl ?_
          refine seqF ?_
          refine regF ?_
          refine op_assign rfl rfl ?_
          refine op_assign rfl rfl ?_
          refine op_assign rfl rfl ?_
          refine endF ?_
          refine XF.thenN ?_
          refine retF ?_
          refine XF.thenR ?_
          refine XF.res (res3 Try.results9 rfl rfl rfl) ?_
          exact sitesRet_bad hS.below (by unfold sitesE; dsimp only; rw [if_neg (by rw [hce]; simp)]; exact if_pos (.inr (.inl (by omega)))) (by decide)
        · have hg36 := of_decide_eq_false hc; clear hc
          obtain ⟨cb, co, n1, rfl, hn1, hnc⟩ := hrw.get (i := 0) (by simp)
          obtain rfl : n0 = n1 := Option.some.inj hn1
          have k1 : W3.cell? ⟨cb, co, none⟩ = some (.int .i64 n0) := (CellsAt.agree hS.agree (Nat.zero_le _) hnc).1
          refine op_wantedF (d := 36) rfl rfl ?_
          refine op_field (o' := 1) fa_31_1 rfl rfl rfl ?_
          refine op_wantedF (d := 36) rfl rfl ?_
          refine op_load Try.isAgg23 rfl (cell_own (hS.at_ 0 rfl) rfl) rfl ?_
          refine op_wantedF (d := 36) rfl rfl ?_
          refine op_indexA (j := 0) Try.underlying23 Try.sizeOf3 rfl rfl rfl (by omega) (Nat.add_zero _) rfl ?_
          refine op_wantedF (d := 36) rfl rfl ?_
          refine op_load Try.isAgg3 rfl (k1) rfl ?_
          refine op_wantedF (d := 36) rfl rfl ?_
          refine op_lss rfl rfl rfl ?_
          refine op_pickF rfl rfl rfl ?_
          refine op_move rfl rfl ?_
          refine op_cases (d := 43) rfl (fun hc => ?_) (fun hc => ?_)
          · have hg43 := of_decide_eq_true hc; clear hc
            refine op_notF (d := 43) rfl rfl rfl rfl ?_
            refine op_notF (d := 43) rfl rfl rfl rfl ?_
            refine op_notF (d := 43) rfl rfl rfl rfl ?_
            refine op_notF (d := 43) rfl rfl rfl rfl ?_
            refine op_notF (d := 43) rfl rfl rfl rfl ?_
            refine op_notF (d := 43) rfl rfl rfl rfl ?_
            refine op_pickT rfl rfl rfl ?_
            refine endF ?_
            refine XF.thenN ?_
            refine condT rfl ?_
            refine seqF ?_
            refine regF ?_
            refine op_assign rfl rfl ?_
            refine op_assign rfl rfl ?_
            refine op_assign rfl rfl ?_
            refine endF ?_
            refine XF.thenN ?_
            refine retF ?_
            refine XF.thenR ?_
            refine XF.res (res3 Try.results9 rfl rfl rfl) ?_
            exact sitesRet_bad hS.below (by unfold sitesE; dsimp only; rw [if_neg (by rw [hce]; simp)]; exact if_pos (.inr (.inr (inQ_neg hg43)))) (by decide)
          · have hg43 := of_decide_eq_false hc; clear hc
            refine op_wantedF (d := 43) rfl rfl ?_
            refine op_field (o' := 1) fa_31_1 rfl rfl rfl ?_
            refine op_wantedF (d := 43) rfl rfl ?_
            refine op_load Try.isAgg23 rfl (cell_own (hS.at_ 0 rfl) rfl) rfl ?_
            refine op_wantedF (d := 43) rfl rfl ?_
            refine op_indexA (j := 0) Try.underlying23 Try.sizeOf3 rfl rfl rfl (by omega) (Nat.add_zero _) rfl ?_
            refine op_wantedF (d := 43) rfl rfl ?_
            refine op_load Try.isAgg3 rfl (k1) rfl ?_
            refine op_wantedF (d := 43) rfl rfl ?_
            refine op_move rfl rfl ?_
            refine op_wantedF (d := 43) rfl rfl ?_
            refine op_geq rfl rfl rfl ?_
            refine op_pickF rfl rfl rfl ?_
            refine endF ?_
            refine XF.thenN ?_
            refine condF rfl (fun hc => ?_) (fun hc => ?_)
            · have hc50 := of_decide_eq_true hc; clear hc
              refine seqF ?_
              refine regF ?_
              refine op_assign rfl rfl ?_
              refine op_assign rfl rfl ?_
              refine op_assign rfl rfl ?_
              refine endF ?_
              refine XF.thenN ?_
              refine retF ?_
              refine XF.thenR ?_
              refine XF.res (res3 Try.results9 rfl rfl rfl) ?_
              exact sitesRet_bad hS.below (by unfold sitesE; dsimp only; rw [if_neg (by rw [hce]; simp)]; exact if_pos (.inr (.inr (inQ_big (by omega))))) (by decide)
            · have hc50 := of_decide_eq_false hc; clear hc
              have hnd : inQ n0 ol = true := by unfold inQ; rw [decide_eq_true (by omega), decide_eq_true (by omega)]; rfl
              refine skipF ?_
              refine XF.thenN ?_
              refine seqF ?_
              refine regF ?_
              refine op_loadA (vs := [_, _, _, _, _, _, _, _, _, _]) Try.isAgg29 Try.sizeOf29 rfl (CellsAt.own (j := 0) (m := 10) (hS.at_ 1 rfl) rfl) rfl ?_
              refine op_call (vs := [_]) hS goes_17 rfl (first_c _ vl vc _ pl pc _ el ec es _ xl xc xs mn _ ol oc os _ sl sc ss _ tl tc ts _ nl nc ns _ kl kc ks  _ (he.below hS.below) hel (hx.below hS.below) hxl (ho.below hS.below) hol (hs.below hS.below) hsl (ht.below hS.below) htl (hn.below hS.below) hnl (hk.below hS.below) hkl b1 b2 b3 b4 b5 b6 b7 b8 b9 hbk) rfl ?_
              rintro e W4 ⟨FB, rfl, hFl, hFc, hb⟩
              refine ⟨_, rfl, hb, fun hS' => ?_⟩
              clear hS; have hS := hS'; clear hS' hb
              refine op_assign rfl rfl ?_
              refine endF ?_
              refine XF.thenN ?_
              refine seqF ?_
              have HF : Held w [(_, _)] (fun W2 => W2.heap[FB]? = some (.cells ((firstL ts ol).map (Value.int .i64)).toArray 3 (0, 0))) := Held.one (fun W2 hg => (hg.2 _ hFl (lt_of_heap hFc)).trans hFc)
              refine regF ?_
              refine op_assign rfl rfl ?_
              refine endF ?_
              refine XF.thenN ?_
              refine seqF ?_
              refine seqF ?_
              have hS := hS.newG 3 1
              refine regF ?_
              refine op_field (o' := 1) fa_31_1 rfl rfl rfl ?_
              refine op_load Try.isAgg23 rfl (cell_own (hS.at_ 0 rfl) rfl) rfl ?_
              refine op_sliceFrom (j := 1) Try.underlying23 Try.sizeOf3 rfl rfl rfl (by omega) rfl ?_
              intro ad5 hadE5 hadN5
              obtain ⟨ad2, had2⟩ : ∃ a, a = ad5 := ⟨_, rfl⟩
              have hrt : RowI w ad5 r0 := by
                have h9 := hrw.tail1 (c := wc) (by rw [List.length_cons]; omega)
                by_cases h1 : wc = 1
                · rw [if_pos h1] at h9; rw [hadE5 h1]; exact h9
                · rw [if_neg h1] at h9; rw [hadN5 h1]; exact h9
              clear hadE5 hadN5
              subst had2
              refine op_len Try.underlying23 rfl rfl ?_
              refine op_move rfl rfl ?_
              refine endF ?_
              refine XF.thenN ?_
              refine blockF ?_
              refine loopF (fun m l W => ∃ (i : Nat) (acc : List Int) (v : Value) (Kk : List (Nat × World)), i ≤ wl - 1 ∧ m = wl - 1 - i ∧ l = [(2, .pointer (some ⟨B1, 0, none⟩)), (3, .pointer (some ⟨B2, 0, none⟩)), (8, .int .i64 (ol : Int)), (9, .slice (some ⟨FB, 0, none⟩) ol ol), (10, v), (55, .slice ad2 (wl - 1) (wc - 1)), (56, .int .i64 ((wl - 1 : Nat) : Int)), (57, .int .i64 (i : Int))] ∧ acc.length = i ∧ (fsts (firstL ts ol) ol (r0.drop i)).map (acc ++ ·) = fsts (firstL ts ol) ol r0 ∧ Held w Kk (fun W2 => W2.heap[FB]? = some (.cells ((firstL ts ol).map (Value.int .i64)).toArray 3 (0, 0))) ∧ St w [(B2, [.int .i64 p, .slice (some ⟨cb, co, none⟩) wl wc], 31), (B1, [.slice va vl vc, .slice pa pl pc, .slice ea el ec, .slice xa xl xc, .int .i64 mn, .slice oa ol oc, .slice sa sl sc, .slice ta tl tc, .slice na nl nc, .slice ka kl kc], 29)] [⟨v, i, acc.map (Value.int .i64), 3, 1⟩] Kk W) (wl - 1 - 0) ([(2, _), (3, _), (8, _), (9, _), (10, _), (55, _), (56, _), (57, _)]) ⟨rfl, rfl, rfl, rfl, rfl, rfl, rfl, rfl, trivial⟩ (⟨0, [], _, _, Nat.zero_le _, rfl, rfl, rfl, by rw [List.drop_zero]; cases fsts (firstL ts ol) ol r0 <;> rfl, HF, hS.keep [_] (fun q hq => by simp at hq; subst hq; exact List.mem_cons_self)⟩) ?_
              clear hS
              rintro m l W ⟨i, acc, v, Kk, hi, rfl, rfl, hacc, hrun, HF, hS⟩
              have hFW := HF.now hS
              refine seqF ?_
              refine regF ?_
              refine op_lss rfl rfl rfl ?_
              refine endF ?_
              refine XF.thenN ?_
              refine seqF ?_
              refine condF rfl (fun hc => ?_) (fun hc => ?_)
              · have hc58 := of_decide_eq_true hc; clear hc
                have hk1 : i < r0.length := by omega
                obtain ⟨yb, yo, y, hya, hy, hyc⟩ := hrt.get (i := i) hk1
                subst hya
                have k2 := (CellsAt.agree hS.agree (Nat.zero_le _) hyc).1
                rw [drop_at hy] at hrun
                refine skipF ?_
                refine XF.thenN ?_
                refine seqF ?_
                refine blockF ?_
                refine seqF ?_
                refine regF ?_
                refine op_indexA  Try.underlying23 Try.sizeOf3 rfl rfl rfl (by omega) rfl rfl ?_
                refine op_load Try.isAgg3 rfl (k2) rfl ?_
                refine op_assign rfl rfl ?_
                refine endF ?_
                refine XF.thenN ?_
                refine seqF ?_
                refine seqF ?_
                refine regF ?_
                refine op_move rfl rfl ?_
                refine op_lss rfl rfl rfl ?_
                refine op_move rfl rfl ?_
                refine op_cases (d := 63) rfl (fun hc => ?_) (fun hc => ?_)
                · have hg63 := of_decide_eq_true hc; clear hc
                  refine op_notF (d := 63) rfl rfl rfl rfl ?_
                  refine op_notF (d := 63) rfl rfl rfl rfl ?_
                  refine op_notF (d := 63) rfl rfl rfl rfl ?_
                  refine op_pickT rfl rfl rfl ?_
                  refine op_move rfl rfl ?_
                  refine op_notF (d := 68) rfl rfl rfl rfl ?_
                  refine op_notF (d := 68) rfl rfl rfl rfl ?_
                  refine op_notF (d := 68) rfl rfl rfl rfl ?_
                  refine op_notF (d := 68) rfl rfl rfl rfl ?_
                  refine op_notF (d := 68) rfl rfl rfl rfl ?_
                  refine op_pickT rfl rfl rfl ?_
                  refine endF ?_
                  refine XF.thenN ?_
                  refine condT rfl ?_
                  refine seqF ?_
                  refine regF ?_
                  refine op_assign rfl rfl ?_
                  refine op_assign rfl rfl ?_
                  refine op_assign rfl rfl ?_
                  refine endF ?_
                  refine XF.thenN ?_
                  refine retF ?_
                  refine XF.thenR ?_
                  refine XF.blkR ?_
                  refine XF.thenR ?_
                  refine XF.thenR ?_
                  refine XF.blkR ?_
                  refine XF.thenR ?_
                  refine XF.res (res3 Try.results9 rfl rfl rfl) ?_
                  rw [fsts_out (inQ_neg hg63)] at hrun
                  exact sitesRet_bad hS.below (by unfold sitesE; dsimp only; rw [if_neg (by rw [hce]; simp)]; rw [if_neg (by rw [hnd]; simp only [Bool.true_eq_false, or_false]; omega), ← hrun]; rfl) (by decide)
                · have hg63 := of_decide_eq_false hc; clear hc
                  refine op_wantedF (d := 63) rfl rfl ?_
                  refine op_move rfl rfl ?_
                  refine op_wantedF (d := 63) rfl rfl ?_
                  refine op_move rfl rfl ?_
                  refine op_wantedF (d := 63) rfl rfl ?_
                  refine op_geq rfl rfl rfl ?_
                  refine op_pickF rfl rfl rfl ?_
                  refine op_move rfl rfl ?_
                  refine op_cases (d := 68) rfl (fun hc => ?_) (fun hc => ?_)
                  · have hg68 := of_decide_eq_true hc; clear hc
                    rw [fsts_out (inQ_big (by omega))] at hrun
                    refine op_notF (d := 68) rfl rfl rfl rfl ?_
                    refine op_notF (d := 68) rfl rfl rfl rfl ?_
                    refine op_notF (d := 68) rfl rfl rfl rfl ?_
                    refine op_notF (d := 68) rfl rfl rfl rfl ?_
                    refine op_notF (d := 68) rfl rfl rfl rfl ?_
                    refine op_pickT rfl rfl rfl ?_
                    refine endF ?_
                    refine XF.thenN ?_
                    refine condT rfl ?_
                    refine seqF ?_
                    refine regF ?_
                    refine op_assign rfl rfl ?_
                    refine op_assign rfl rfl ?_
                    refine op_assign rfl rfl ?_
                    refine endF ?_
                    refine XF.thenN ?_
                    refine retF ?_
                    refine XF.thenR ?_
                    refine XF.blkR ?_
                    refine XF.thenR ?_
                    refine XF.thenR ?_
                    refine XF.blkR ?_
                    refine XF.thenR ?_
                    refine XF.res (res3 Try.results9 rfl rfl rfl) ?_
                    exact sitesRet_bad hS.below (by unfold sitesE; dsimp only; rw [if_neg (by rw [hce]; simp)]; rw [if_neg (by rw [hnd]; simp only [Bool.true_eq_false, or_false]; omega), ← hrun]; rfl) (by decide)
                  · have hg68 := of_decide_eq_false hc; clear hc
                    obtain ⟨ky, rfl⟩ := Int.eq_ofNat_of_zero_le (show 0 ≤ y by omega)
                    have hky : ky < ol := by omega
                    obtain ⟨s, hs_⟩ : ∃ s, (firstL ts ol)[ky]? = some s := ⟨(firstL ts ol)[ky]'(by unfold firstL; rw [valsF_len]; exact hky), by simp⟩
                    rw [fsts_at hky hs_] at hrun
                    have k3 : W.cell? ⟨FB, 0 + ky * 1, none⟩ = some (.int .i64 s) := cell_own (cs := (firstL ts ol).map (Value.int .i64)) hFW (by rw [Nat.zero_add, Nat.mul_one, List.getElem?_map, hs_]; rfl)
                    refine op_wantedF (d := 68) rfl rfl ?_
                    refine op_move rfl rfl ?_
                    refine op_wantedF (d := 68) rfl rfl ?_
                    refine op_move rfl rfl ?_
                    refine op_wantedF (d := 68) rfl rfl ?_
                    refine op_indexA (j := ky) Try.underlying23 Try.sizeOf3 rfl rfl (by omega) (by omega) rfl rfl ?_
                    refine op_wantedF (d := 68) rfl rfl ?_
                    refine op_load Try.isAgg3 rfl (k3) rfl ?_
                    refine op_wantedF (d := 68) rfl rfl ?_
                    refine op_lss rfl rfl rfl ?_
                    refine op_pickF rfl rfl rfl ?_
                    refine endF ?_
                    refine XF.thenN ?_
                    refine condF rfl (fun hc => ?_) (fun hc => ?_)
                    · have hc74 := of_decide_eq_true hc; clear hc
                      refine seqF ?_
                      refine regF ?_
                      refine op_assign rfl rfl ?_
                      refine op_assign rfl rfl ?_
                      refine op_assign rfl rfl ?_
                      refine endF ?_
                      refine XF.thenN ?_
                      refine retF ?_
                      refine XF.thenR ?_
                      refine XF.blkR ?_
                      refine XF.thenR ?_
                      refine XF.thenR ?_
                      refine XF.blkR ?_
                      refine XF.thenR ?_
                      refine XF.res (res3 Try.results9 rfl rfl rfl) ?_
                      rw [if_pos hc74] at hrun
                      exact sitesRet_bad hS.below (by unfold sitesE; dsimp only; rw [if_neg (by rw [hce]; simp)]; rw [if_neg (by rw [hnd]; simp only [Bool.true_eq_false, or_false]; omega), ← hrun]; rfl) (by decide)
                    · have hc74 := of_decide_eq_false hc; clear hc
                      rw [if_neg hc74, Option.map_map] at hrun
                      refine skipF ?_
                      refine XF.thenN ?_
                      refine regF ?_
                      refine op_move rfl rfl ?_
                      refine op_move rfl rfl ?_
                      refine op_move rfl rfl ?_
                      refine op_indexA (j := ky) Try.underlying23 Try.sizeOf3 rfl rfl (by omega) (by omega) rfl rfl ?_
                      refine op_load Try.isAgg3 rfl (k3) rfl ?_
                      refine op_buildSlice (us := [(0, .int .i64 _)]) hS Try.underlying23 Try.sizeOf3 Try.zeroValue3 rfl rfl rfl (bs_23_1 _) rfl ?_
                      clear hS; intro B6 W6 hS
                      refine op_append (i := 0) (news := [_]) hS Try.underlying23 inf_3 rfl rfl (by show 0 < 1; decide) rfl rfl rfl rfl rfl (CellsAt.own (j := 0) (m := 1) (hS.at_ 0 rfl) rfl) rfl rfl (by simp only [maxLen]; omega) (by show (i + 1) * 8 ≤ _; omega) rfl ?_
                      clear hS; intro v7 W7 hS
                      refine op_assign rfl rfl ?_
                      refine endF ?_
                      refine XF.blkN ?_
                      refine XF.thenN ?_
                      refine regF ?_
                      refine op_add rfl rfl (IntWalk.i64_in _ (by omega)) rfl ?_
                      refine op_move rfl rfl ?_
                      refine endF ?_
                      exact XF.round (wl - 1 - (i + 1)) [(2, _), (3, _), (8, _), (9, _), (10, _), (55, _), (56, _), (57, _)] (by omega) ⟨rfl, rfl, rfl, rfl, rfl, rfl, rfl, rfl, trivial⟩ ⟨i + 1, acc ++ [s], _, Kk, by omega, rfl, rfl, by simp [hacc], by rw [← hrun]; congr 1; funext z; simp, HF, (hS.tail.keep Kk (fun q hq => hq)).castG (by simp)⟩
              · have hc58 := of_decide_eq_false hc; clear hc
                rw [List.drop_of_length_le (by omega)] at hrun
                simp only [fsts, Option.map_some, List.append_nil] at hrun
                obtain ⟨a9, c9, rfl, hac⟩ := ownsRow_sl (v := v) (n := i) (hS.row 0 rfl)
                have k1 : W.cell? ⟨cb, co, none⟩ = some (.int .i64 n0) := (CellsAt.agree hS.agree (Nat.zero_le _) hnc).1
                refine exitF ?_
                refine XF.thenX ?_
                refine XF.thenX ?_
                refine XF.blkX ?_
                refine XF.thenN ?_
                refine seqF ?_
                refine regF ?_
                refine op_field (o' := 1) fa_31_1 rfl rfl rfl ?_
                refine op_load Try.isAgg23 rfl (cell_own (hS.at_ 0 rfl) rfl) rfl ?_
                refine op_indexA (j := 0) Try.underlying23 Try.sizeOf3 rfl rfl rfl (by omega) (Nat.add_zero _) rfl ?_
                refine op_load Try.isAgg3 rfl (k1) rfl ?_
                refine op_move rfl rfl ?_
                refine op_assign rfl rfl ?_
                refine op_assign rfl rfl ?_
                refine op_assign rfl rfl ?_
                refine endF ?_
                refine XF.thenN ?_
                refine retF ?_
                refine XF.res (res3 Try.results9 rfl rfl rfl) ?_
                have hR : sitesE ⟨va, vl, vc, pa, pl, pc, ea, el, ec, es, xa, xl, xc, xs, mn, oa, ol, oc, os, sa, sl, sc, ss, ta, tl, tc, ts, na, nl, nc, ns, ka, kl, kc, ks⟩ p (n0 :: r0) = (n0, acc, 0) := by unfold sitesE; dsimp only; rw [if_neg (by rw [hce]; simp)]; rw [if_neg (by rw [hnd]; simp only [Bool.true_eq_false, or_false]; omega), ← hrun]
                rw [hR]
                exact ⟨hS.below, .inr ⟨rfl, a9, c9, by rw [hacc], by have h9 := hS.row 0 rfl; unfold RowN; rw [hacc]; exact h9⟩⟩
end Go.Proofs.Ytpinbmjkbkogdaa
namespace Go.Proofs.Ytpinbmjkbkogdaa
open Go Go.RowKit
set_option linter.unusedVariables false
theorem take_same {α : Type} {xs ys : List α} {i : Nat} {y z : α} (h : xs.take i = ys.take i) (hy : xs[i]? = some y) (hz : ys[i]? = some z) (e : y = z) : xs.take (i + 1) = ys.take (i + 1) := by
  rw [List.take_add_one, List.take_add_one, h, hy, hz, e]
def smallB (g : GV) : Bool := if 10 < g.vl then false else if 20 < g.pl then false else if 20 < g.el then false else if 20 < g.xl then false else if 100 < g.ol then false else if 100 < g.sl then false else if 20 < g.tl then false else if 60 < g.nl then false else decide (g.kl ≤ 60)
theorem small_few {g : GV} (h : smallB g = true) : GFew g := by
  unfold smallB at h
  repeat (split at h; · cases h)
  have := of_decide_eq_true h
  exact ⟨by omega, by omega, by omega, by omega, by omega, by omega, by omega, by omega, by omega⟩
structure QV where
  g : Int
  a : Option Addr
  l : Nat
  c : Nat
  ws : List Int
abbrev QV.ten (q : QV) : List Value := [.int .i64 0, .int .i64 q.g, .int .i64 0, .slice q.a q.l q.c, .bool false, .int .i64 0, .int .u64 0, .slice none 0 0, .slice none 0 0, .slice none 0 0]
def QV.pl (q : QV) : Int × List Int := (q.g, q.ws)
def QN (lo : Nat) (W : World) (q : QV) : Prop := q.ws.length = q.l ∧ (q.ws = [] ∨ ∃ B, q.a = some ⟨B, 0, none⟩ ∧ lo ≤ B ∧ W.heap[B]? = some (.cells (q.ws.map (Value.int .i64)).toArray 3 (0, 0)))
theorem QN.agree {lo : Nat} {A W : World} {q : QV} (h : QN lo A q) (hg : Agree lo A W) : QN lo W q := by
  refine ⟨h.1, ?_⟩
  rcases h.2 with h2 | ⟨B, h2, h3, h4⟩
  · exact .inl h2
  · exact .inr ⟨B, h2, h3, (hg.2 B h3 (lt_of_heap h4)).trans h4⟩
def stepR (g : GV) (s : TV) : Int × List Int := (s.f, if s.k = 8 then [(g.es[(uat g.ts s.s.toNat).pr.toNat]?).getD 0, s.t] else [s.t])
def exitR' (n : Int) : Int × List Int := (n, [])
def PdsRet (g : GV) (w : World) (e : Ending) (w' : World) : Prop := Below w.heap.size w w' ∧ ((checkE g ≠ 0 ∧ e = .returned (.tuple #[.agg #[.int .i64 0, .int .i64 0, .slice none 0 0, .int .i64 0, .int .i64 0, .slice none 0 0], .int .i64 (checkE g)])) ∨ (checkE g = 0 ∧ ∃ a c, ∃ qs : List QV, e = .returned (.tuple #[.agg #[.int .i64 1, .int .i64 0, .slice none 0 0, .int .i64 1, .int .i64 (g.ol : Int), .slice a qs.length c], .int .i64 0]) ∧
  w'.ownsRow w.heap.size 69 10 (.slice a qs.length c) qs.length (qs.flatMap QV.ten) ∧ qs.map QV.pl = g.ss.map (stepR g) ++ g.xs.map exitR' ∧ ∀ q ∈ qs, QN w.heap.size w' q))
theorem rg_same {P : Program} {n : Nat} {Q : Exit → Act → World → Prop} {l : Fr} {W : World} {ops : Array Oper} {L : List Asr} {i d td : Nat} {ty : TypeId} {pos : String} {aft_ : Array Edge} {p : Asr} (hi : ops[i]? = some ⟨some d, .assign (.tmp td), ty, pos, aft_, none⟩) (hp : OpG n ops l L i td p) (hI : atI L i = p) : RG P n ops Q l W L i :=
  fun a ha => st_value hi (w_free rfl) fun b w hF hG hD => ⟨b.eval (.tmp td), w, by unfold execOp; rfl, by rw [hI]; exact hp a ha b w hF hD, Below.refl _ _⟩
theorem stepR_one {g : GV} {s : TV} (h : ¬ s.k = 8) : stepR g s = (s.f, [s.t]) := by unfold stepR; rw [if_neg h]
theorem stepR_two {g : GV} {s : TV} {n k : Nat} {u : UV} {e : Int} (h : s.k = 8) (hn : s.s = (n : Int)) (hu : g.ts[n]? = some u) (hk : u.pr = (k : Int)) (he : g.es[k]? = some e) : stepR g s = (s.f, [e, s.t]) := by
  unfold stepR
  rw [if_pos h, hn, Int.toNat_natCast, show uat g.ts n = u by unfold uat; rw [hu]; rfl, hk, Int.toNat_natCast, he]
  rfl
def CallsOk (g : GV) : Prop := ∀ s ∈ g.ss, s.k = 8 → ∃ (n k : Nat) (u : UV), s.s = (n : Int) ∧ n < g.tl ∧ g.ts[n]? = some u ∧ u.pr = (k : Int) ∧ k < g.el
theorem rowI_of1 {W : World} {B : Nat} {x : Int} (h : W.heap[B]? = some (.cells #[.int .i64 x] 3 (0, 0))) : RowI W (some ⟨B, 0, none⟩) [x] := by
  refine .inr ⟨B, 0, rfl, fun i y hy => ?_⟩
  match i, hy with
  | 0, hy => cases hy; exact ⟨cell_own (cs := [_]) h rfl, trivial⟩
  | k + 1, hy => simp at hy
theorem op_rowK {P : Program} {n : Nat} {ops : Array Oper} {Q : Exit → Act → World → Prop} {os : List Oper} {l : Fr} {w0 W : World} {O : Own} {G : Grows} {K : List (Nat × World)} {d : Nat} {ty : TypeId} {pos : String} {aft : Array Edge} {T e : TypeId} {m s : Nat} {xs : List (Nat × Operand)} {us : List (Nat × Value)} {z : Value} {cs : List Value} (hS : St w0 O G K W) (hU : P.underlying T = some (.slice e)) (hs : ∀ w, (sizeOf e).run P w = .ok s w) (hz : ∀ w, (zeroValue e).run P w = .ok z w)
    (hm : Nat.ble (m * s) 16777216 = true) (hm0 : Nat.beq (m * s) 0 = false) (hp : xs.map (fun p => (p.1, evL l p.2)) = us.map (fun p => (p.1, some p.2)))
    (hf : Instr.fill (fun i => some (i * s, s)) ((Array.range (m * s)).map (z.cells[· % z.cells.size]!)) us = some cs.toArray) (hd : Nat.blt d n = true)
    (h : ∀ B W', W'.heap[B]? = some (.cells cs.toArray e (0, 0)) → W.heap.size ≤ B → St w0 O G ((W.heap.size, W') :: K) W' → OpsF P n ops Q os ((d, .slice (some ⟨B, 0, none⟩) m m) :: l) W') : OpsF P n ops Q (⟨some d, .buildSlice T m xs.toArray, ty, pos, aft, none⟩ :: os) l W :=
  opV (W' := W.alloc (.cells cs.toArray e)) (v := .slice (some ⟨W.heap.size, 0, none⟩) m m) (fun ev he => by
    have h1 := parts_eval he xs us hp
    have h2 : (Array.map (fun p => (p.1, ev p.2)) xs.toArray) = us.toArray := by simp [h1]
    have h4 : m * s ≤ 16777216 := Nat.le_of_ble_eq_true hm
    have h5 : m * s ≠ 0 := fun e => by rw [e] at hm0; cases hm0
    have h6 : ¬ (m * s > 2 ^ 24) := by omega
    unfold execOp
    simp only []
    rw [h2]
    simp only [Instr.buildSlice, Sem.run_bind, run_underlying hU, Result.andThen_ok, hs, if_neg h6, if_neg h5, hz, Sem.run_pure, hf, newRow, run_newObj_alloc]) hd
    (h _ _ (heap_alloc_new W _) (Nat.le_refl _) (hS.call ((Below.refl _ _).alloc (Nat.le_refl _) _)))
end Go.Proofs.Ytpinbmjkbkogdaa
