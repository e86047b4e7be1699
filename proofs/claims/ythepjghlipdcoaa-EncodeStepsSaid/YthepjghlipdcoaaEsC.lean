import Derived.Orders
import Derived.Below
import Derived.Deep.RegionHeld
import Derived.WalkKit
import Derived.KernelRfl
import Derived.Laws.Rows
import Derived.Laws.AppendOwn
import Derived.Laws.Strings
import Derived.Laws.Small
import Derived.Lib.Hide
import Derived.IntWalk
import Derived.Laws.Tables
import Derived.Laws.Concat
import Derived.Laws.MakeOwn
import Derived.Lib.OwnBridge
import Derived.Laws.IdiomStrings
import Derived.Lib.ItoaLen
import Derived.Lib.UnsafeStr
import Derived.Lib.AppendIntMem
import Derived.Test.YthepjghlipdcoaaRows
import Derived.RangeFuncNested
import Derived.RangeFuncBound
import Derived.RangeFuncCalls
import Derived.RangeFuncLeaves
import Derived.OwnWalkIn
import Derived.TacticsInMore
import Derived.LoopNIn
import Derived.Shelf.Abstract
import Derived.Lib.SmallJoins
import Derived.Deep.Slices
import Derived.Deep.Fields
import Derived.ChangeSlices
import Derived.ChangeSame
import Derived.ProofKit
import Derived.Test.YthepjghlipdcoaaProg
import Derived.Lib.TrailingZeros
import Derived.Lib.LaidTab
import Derived.Lib.ItoaNum
import Derived.Stop.LaidErr
import Derived.WalkSmall
import Derived.LaidMore
import Derived.Shelf.Spec.TrailingZeros
import Derived.Laws.BitsAllLaws
import Derived.Laws.Bits64
import Derived.Deep.QuietTactic
import Derived.BigQuiet
import Derived.RegionTactic
import Derived.BigRegion
import Derived.Deep.RegionHeld3
import Derived.ChangeAlike
import Derived.Laws.Bits128
import Derived.Deep.AppendLies
import Derived.Sort.Grow
import Derived.Shelf.RegionOpen
import Derived.LoopIn
import Derived.Maps.AppendAt
import Derived.Shelf.Lay
import Derived.Shelf.LaySoft
import Derived.Lib.OthersKept
import Derived.StillTailTactics
import Derived.Deep.RegionLaw
import Derived.Deep.DeepCutAuto
import Derived.Deep.CutRange
import Derived.Deep.RegionWith
import Derived.Laws.Bits64b
import Derived.Deep.DrawnRows
import Derived.Test.YthepjghlipdcoaaEsA
import Derived.Test.YthepjghlipdcoaaEsB
set_option maxRecDepth 100000
set_option maxHeartbeats 4000000
set_option linter.unusedVariables false
set_option linter.unusedVariables false
set_option linter.unusedSimpArgs false
set_option linter.unusedSectionVars false
set_option linter.unnecessarySimpa false
namespace Go.Proofs.Ythepjghlipdcoaa
open Go Go.RowKit
theorem gr_bld_38 : Try.prog.built 38 [] = some #[.int .i64 0, .int .i64 0, .slice none 0 0, .int .i64 0, .int .i64 0, .slice none 0 0] := by kernel_rfl
theorem gr_bld_38_0_1_2 (v00 : Value) (v01 : Value) (v02 : Value) (v1 : Int) (v2 : Int) : Try.prog.built 38 [(0, .agg #[v00, v01, v02]), (1, .int .i64 v1), (2, .int .i64 v2)] = some #[v00, v01, v02, .int .i64 v1, .int .i64 v2, .slice none 0 0] := by kernel_rfl
theorem gr_bld_69_1_3_4 (v1 : Int) (v3a : Option Addr) (v3l : Nat) (v3c : Nat) (v40 : Value) (v41 : Value) (v42 : Value) (v43 : Value) (v44 : Value) (v45 : Value) : Try.prog.built 69 [(1, .int .i64 v1), (3, .slice v3a v3l v3c), (4, .agg #[v40, v41, v42, v43, v44, v45])] = some #[.int .i64 0, .int .i64 v1, .int .i64 0, .slice v3a v3l v3c, v40, v41, v42, v43, v44, v45] := by kernel_rfl
theorem gr_bld_69_1_4 (v1 : Int) (v40 : Value) (v41 : Value) (v42 : Value) (v43 : Value) (v44 : Value) (v45 : Value) : Try.prog.built 69 [(1, .int .i64 v1), (4, .agg #[v40, v41, v42, v43, v44, v45])] = some #[.int .i64 0, .int .i64 v1, .int .i64 0, .slice none 0 0, v40, v41, v42, v43, v44, v45] := by kernel_rfl
theorem gr_bld_50_2 (v2 : Int) : Try.prog.built 50 [(2, .int .i64 v2)] = some #[.int .i64 0, .int .i64 0, .int .i64 v2, .int .i64 0, .int .i64 0, .int .i64 0, .int .i64 0] := by kernel_rfl
theorem gr_bs_36_1 (v00 : Value) (v01 : Value) (v02 : Value) (v03 : Value) (v04 : Value) (v05 : Value) (v06 : Value) (v07 : Value) (v08 : Value) (v09 : Value) : Instr.fill (fun i => some (i * 10, 10)) ((Array.range (1 * 10)).map ((Value.cells (.agg #[.int .i64 0, .int .i64 0, .int .i64 0, .slice none 0 0, .bool false, .int .i64 0, .int .u64 0, .slice none 0 0, .slice none 0 0, .slice none 0 0]))[· % (Value.cells (.agg #[.int .i64 0, .int .i64 0, .int .i64 0, .slice none 0 0, .bool false, .int .i64 0, .int .u64 0, .slice none 0 0, .slice none 0 0, .slice none 0 0])).size]!)) [(0, .agg #[v00, v01, v02, v03, v04, v05, v06, v07, v08, v09])] = some (List.toArray [v00, v01, v02, v03, v04, v05, v06, v07, v08, v09]) := by kernel_rfl
theorem gr_fa_38_3 (w : World) (b o : Nat) : (Instr.fieldAt 38 (.pointer (some ⟨b, o, none⟩)) 3).run Try.prog w = .ok (.pointer (some ⟨b, o + 5, none⟩)) w := by
 simp [Instr.fieldAt, run_underlying Try.underlying38, Instr.sureAddr, go_sem, Addr.add_lit]
theorem gr_goes_12 : goesIn Try.prog 12 = true := by kernel_rfl
theorem gr_goes_13 : goesIn Try.prog 13 = true := by kernel_rfl
theorem gr_goes_14 : goesIn Try.prog 14 = true := by kernel_rfl
theorem gr_inf_69 : Try.prog.info? 69 = some Try.t69 := by kernel_rfl
theorem pds_c (va : Option Addr) (vl : Nat) (vc : Nat) (pa : Option Addr) (pl : Nat) (pc : Nat) (ea : Option Addr) (el : Nat) (ec : Nat) (es : List Int) (xa : Option Addr) (xl : Nat) (xc : Nat) (xs : List Int) (mn : Int) (oa : Option Addr) (ol : Nat) (oc : Nat) (os : List Int) (sa : Option Addr) (sl : Nat) (sc : Nat) (ss : List TV) (ta : Option Addr) (tl : Nat) (tc : Nat) (ts : List UV) (na : Option Addr) (nl : Nat) (nc : Nat) (ns : List NV) (ka : Option Addr) (kl : Nat) (kc : Nat) (ks : List KV) (w : World) (he : RowI w ea es) (hel : es.length = el) (hx : RowI w xa xs) (hxl : xs.length = xl) (ho : RowI w oa os) (hol : os.length = ol) (hs : RowL TV.sev 7 w sa ss) (hsl : ss.length = sl) (ht : RowL UV.four 4 w ta ts) (htl : ts.length = tl) (hn : RowL NV.two 2 w na ns) (hnl : ns.length = nl) (hk : RowL KV.two 2 w ka ks) (hkl : ks.length = kl) (b1 : vl ≤ 5000) (b2 : pl ≤ 5000) (b3 : el ≤ 5000) (b4 : xl ≤ 5000) (b5 : ol ≤ 5000) (b6 : sl ≤ 5000) (b7 : tl ≤ 5000) (b8 : nl ≤ 5000) (b9 : kl ≤ 5000) (hco : CallsOk ⟨va, vl, vc, pa, pl, pc, ea, el, ec, es, xa, xl, xc, xs, mn, oa, ol, oc, os, sa, sl, sc, ss, ta, tl, tc, ts, na, nl, nc, ns, ka, kl, kc, ks⟩) :
  Calls Try.prog 6 #[.agg #[.slice va vl vc, .slice pa pl pc, .slice ea el ec, .slice xa xl xc, .int .i64 mn, .slice oa ol oc, .slice sa sl sc, .slice ta tl tc, .slice na nl nc, .slice ka kl kc], .int .i64 1] w (PdsRet ⟨va, vl, vc, pa, pl, pc, ea, el, ec, es, xa, xl, xc, xs, mn, oa, ol, oc, os, sa, sl, sc, ss, ta, tl, tc, ts, na, nl, nc, ns, ka, kl, kc, ks⟩ w) := by
 refine enterF (args := [.agg #[.slice va vl vc, .slice pa pl pc, .slice ea el ec, .slice xa xl xc, .int .i64 mn, .slice oa ol oc, .slice sa sl sc, .slice ta tl tc, .slice na nl nc, .slice ka kl kc], .int .i64 1]) Try.func6 rfl Try.ntmps6 rfl ?_
 have hS := St.start w
 refine seqF (regF ?_)
 refine op_box (cs := [_, _, _, _, _, _, _, _, _, _]) hS rfl rfl rfl ?_
 clear hS; intro B1 W1 hS
 refine op_alloc (cs := [_, _, _, _, _, _]) hS Try.zeroValue38 rfl rfl ?_
 clear hS; intro B2 W2 hS
 refine op_assign rfl rfl ?_
 refine endF (XF.thenN ?_)
 refine seqF ?_
 refine seqF (regF ?_)
 refine op_loadA (vs := [_, _, _, _, _, _, _, _, _, _]) Try.isAgg29 Try.sizeOf29 rfl (CellsAt.own (j := 0) (m := 10) (hS.at_ 1 rfl) rfl) rfl ?_
 refine op_move rfl rfl ?_
 refine op_call (vs := [_, _]) hS gr_goes_12 rfl (echeck_c _ vl vc _ pl pc _ el ec es _ xl xc xs mn _ ol oc os _ sl sc ss _ tl tc ts _ nl nc ns _ kl kc ks  _ (he.below hS.below) hel (hx.below hS.below) hxl (ho.below hS.below) hol (hs.below hS.below) hsl (ht.below hS.below) htl (hn.below hS.below) hnl (hk.below hS.below) hkl b1 b2 b3 b4 b5 b6 b7 b8 b9) rfl ?_
 rintro e W3 ⟨rfl, hb⟩
 refine ⟨_, rfl, hb, fun hS' => ?_⟩
 clear hS; have hS := hS'; clear hS' hb
 refine op_assign rfl rfl ?_
 refine endF (XF.thenN ?_)
 refine seqF (regF ?_)
 refine op_move rfl rfl ?_
 refine op_neq rfl rfl rfl ?_
 refine endF (XF.thenN ?_)
 refine condF rfl (fun hc => ?_) (fun hc => ?_)
 ·have hc18 := of_decide_eq_true hc; clear hc
  refine seqF (regF ?_)
  refine op_build (us := []) rfl (gr_bld_38) rfl ?_
  refine op_move rfl rfl ?_
  refine op_storeA (i := 0) (vs := [_, _, _, _, _, _]) (cs' := [_, _, _, _, _, _]) (O' := [_, _]) hS Try.sizeOf38 rfl rfl rfl rfl rfl rfl rfl ?_
  clear hS; intro W4 hS
  refine op_assign rfl rfl ?_
  refine endF (XF.thenN ?_)
  refine retF ?_
  refine XF.thenR ?_
  refine XF.res (resCT (vs := [_, _, _, _, _, _]) Try.results6 Try.isAgg38 Try.sizeOf38 rfl (CellsAt.own (j := 0) (m := 6) (hS.at_ 0 rfl) rfl) rfl) ?_
  exact ⟨hS.below, .inl ⟨hc18, rfl⟩⟩
 ·have hc18 := of_decide_eq_false hc; clear hc
  have hce : gr_checkE ⟨va, vl, vc, pa, pl, pc, ea, el, ec, es, xa, xl, xc, xs, mn, oa, ol, oc, os, sa, sl, sc, ss, ta, tl, tc, ts, na, nl, nc, ns, ka, kl, kc, ks⟩ = 0 := Decidable.of_not_not hc18
  refine skipF ?_
  refine XF.thenN ?_
  refine seqF (regF ?_)
  refine op_field (o' := 0) gr_fa_29_0 rfl rfl rfl ?_
  refine op_load Try.isAgg22 rfl (cell_own (hS.at_ 1 rfl) rfl) rfl ?_
  refine op_len Try.underlying22 rfl rfl ?_
  refine op_assign rfl rfl ?_
  refine endF (XF.thenN ?_)
  refine seqF ?_
  refine regBA (cs := [_, _, _, _, _, _]) gr_followsM 8 7 hS rfl rfl rfl rfl Try.zeroValue38 rfl (by kernel_rfl) (by kernel_rfl) (by kernel_rfl) (fun d hd => by cases hd) ?_
  refine bla_cons 1 rfl rfl (isV _) (stab_isV _) (agV (li := [(1, _)]) rfl (w_free rfl) ⟨g_fr (by kernel_rfl) rfl, trivial⟩ (fun w hw => rn_move rfl) (at_top rfl)) ?_
  refine bla_cons 2 rfl rfl (isV _) (stab_isV _) (agV (li := [(7, _)]) rfl (w_free rfl) ⟨g_fr (by kernel_rfl) rfl, trivial⟩ (fun w hw => rn_move rfl) (at_top rfl)) ?_
  refine bla_cons 3 rfl rfl (isV (.agg #[.int .i64 1, .int .i64 0, .slice none 0 0])) (stab_isV _) (ag_call [isV _, isV _] rfl gr_goes_13 (w_free rfl) ⟨p_tmp (g_dep 0 (by kernel_rfl) (at_dep rfl rfl rfl)), p_tmp (g_dep 1 (by kernel_rfl) (at_dep rfl rfl rfl)), trivial⟩ (fun vs w' hb hh => by have e := holds_isV (us := [_, _]) hh; subst e; exact (space_is _ _).mono fun e w2 h => ⟨_, h.1, fun _ _ => rfl, h.2⟩) (at_top rfl)) ?_
  refine bla_cons 4 rfl rfl (isV _) (stab_isV _) (agV (li := [(2, _)]) rfl (w_free rfl) ⟨g_fr (by kernel_rfl) rfl, trivial⟩ (fun w hw => rn_field (o' := 5) gr_fa_29_5 rfl rfl) (at_top rfl)) ?_
  refine bla_cons 5 rfl rfl (isV _) (stab_isV _) (agV (li := [(27, _)]) rfl (w_free rfl) ⟨g_dep 3 (by kernel_rfl) (at_dep rfl rfl rfl), trivial⟩ (fun w hw => rn_load Try.isAgg23 rfl ((below_agree hw 0).cell (Nat.zero_le _) (cell_own (hS.at_ 1 rfl) rfl))) (at_top rfl)) ?_
  refine bla_cons 6 rfl rfl (isV _) (stab_isV _) (agV (li := [(28, _)]) rfl (w_free rfl) ⟨g_dep 4 (by kernel_rfl) (at_dep rfl rfl rfl), trivial⟩ (fun w hw => rn_len Try.underlying23 rfl) (at_top rfl)) ?_
  refine bla_cons 7 rfl rfl (isV _) (stab_isV _) (agV (li := [(26, _), (29, _)]) rfl (w_free rfl) ⟨g_dep 2 (by kernel_rfl) (at_dep rfl rfl rfl), g_dep 5 (by kernel_rfl) (at_dep rfl rfl rfl), trivial⟩ (fun w hw => rn_build (us := [(0, .agg (List.toArray [_, _, _])), (1, .int .i64 _), (2, .int .i64 _)]) rfl (gr_bld_38_0_1_2 _ _ _ _ _)) (at_top rfl)) ?_
  refine bla_alloc 8 rfl rfl ?_
  refine bla_nil ?_
  intro B5 AB5 W5 hbR hA1 hA2 hBlo hBhi hS'
  clear hS; have hS := hS'; clear hS'
  refine fin_av ?_
  refine fin_av ?_
  refine fin_av ?_
  refine fin_av ?_
  refine fin_av ?_
  refine fin_av ?_
  refine fin_av ?_
  refine fin_v ?_
  refine fin_nil ?_
  refine op_storeA (i := 0) (vs := [_, _, _, _, _, _]) (cs' := [_, _, _, _, _, _]) (O' := [_, _, _]) hS Try.sizeOf38 rfl rfl rfl rfl rfl rfl rfl ?_
  clear hS; intro W6 hS
  refine endF (XF.thenN ?_)
  refine seqF ?_
  refine seqF ?_
  have hS := hS.newG 69 10
  refine regF ?_
  refine op_field (o' := 6) gr_fa_29_6 rfl rfl rfl ?_
  refine op_load Try.isAgg24 rfl (cell_own (hS.at_ 2 rfl) rfl) rfl ?_
  refine op_len Try.underlying24 rfl rfl ?_
  refine op_move rfl rfl ?_
  refine endF (XF.thenN ?_)
  refine blockF ?_
  refine loopF (fun m l W => ∃ (i : Nat) (qs : List QV) (v : Value) (Kk : List (Nat × World)), i ≤ sl ∧ m = sl - i ∧ l = [(1, .int .i64 1), (2, .pointer (some ⟨B1, 0, none⟩)), (4, .pointer (some ⟨B2, 0, none⟩)), (7, .int .i64 (vl : Int)), (8, .pointer (some ⟨B5, 0, none⟩)), (32, .slice sa sl sc), (33, .int .i64 (sl : Int)), (34, .int .i64 (i : Int))] ∧ qs.length = i ∧ qs.map QV.pl = (ss.take i).map (stepR ⟨va, vl, vc, pa, pl, pc, ea, el, ec, es, xa, xl, xc, xs, mn, oa, ol, oc, os, sa, sl, sc, ss, ta, tl, tc, ts, na, nl, nc, ns, ka, kl, kc, ks⟩) ∧ Held w Kk (fun W2 => ∀ q ∈ qs, QN w.heap.size W2 q) ∧ St w [(B5, [.int .i64 1, .int .i64 0, .slice none 0 0, .int .i64 1, .int .i64 (ol : Int), v], 38), (B2, [.int .i64 0, .int .i64 0, .slice none 0 0, .int .i64 0, .int .i64 0, .slice none 0 0], 38), (B1, [.slice va vl vc, .slice pa pl pc, .slice ea el ec, .slice xa xl xc, .int .i64 mn, .slice oa ol oc, .slice sa sl sc, .slice ta tl tc, .slice na nl nc, .slice ka kl kc], 29)] [⟨v, i, qs.flatMap QV.ten, 69, 10⟩] Kk W) (sl - 0) ([(1, _), (2, _), (4, _), (7, _), (8, _), (32, _), (33, _), (34, _)]) ⟨rfl, rfl, rfl, rfl, rfl, rfl, rfl, rfl, trivial⟩ (⟨0, [], _, [], Nat.zero_le _, rfl, rfl, rfl, rfl, (fun _ _ q hq => by cases hq), hS.clear⟩) ?_
  clear hS
  rintro m l W ⟨i, qs, v, Kk, hi, rfl, rfl, hql, hqm, HQ, hS⟩
  refine seqF (regF ?_)
  refine op_lss rfl rfl rfl ?_
  refine endF (XF.thenN ?_)
  refine seqF ?_
  refine condF rfl (fun hc => ?_) (fun hc => ?_)
  ·have hc35 := of_decide_eq_true hc; clear hc
   have hk1 : i < sl := by omega
   obtain ⟨b, off, s, rfl, hy, hyc⟩ := hs.get (i := i) (by omega)
   have k1 := CellsAt.agree hS.agree (Nat.zero_le _) hyc
   refine skipF ?_
   refine XF.thenN ?_
   refine seqF ?_
   refine blockF ?_
   refine seqF (regF ?_)
   refine op_indexA  Try.underlying24 Try.sizeOf50 rfl rfl rfl (by omega) rfl rfl ?_
   refine op_loadA (vs := [_, _, _, _, _, _, _]) Try.isAgg50 Try.sizeOf50 rfl (k1) rfl ?_
   refine op_alloc (cs := [_, _, _, _, _, _, _]) hS Try.zeroValue50 rfl rfl ?_
   clear hS; intro B7 W7 hS
   refine op_storeA (i := 0) (vs := [_, _, _, _, _, _, _]) (cs' := [_, _, _, _, _, _, _]) (O' := [_, _, _, _]) hS Try.sizeOf50 rfl rfl rfl rfl rfl rfl rfl ?_
   clear hS; intro W8 hS
   refine endF (XF.thenN ?_)
   refine seqF ?_
   have hsz9 := hS.below.size
   refine regF ?_
   refine op_field (o' := 1) gr_fa_50_1 rfl rfl rfl ?_
   refine op_load Try.isAgg3 rfl (cell_own (hS.at_ 0 rfl) rfl) rfl ?_
   refine op_rowK (us := [(0, .int .i64 s.t)]) hS Try.underlying23 Try.sizeOf3 Try.zeroValue3 rfl rfl rfl (gr_bs_23_1 _) rfl ?_
   intro B90 W90 hB90 hlo90 hS9
   clear hS; have hS := hS9; clear hS9
   have H90 : Held w [(_, W90)] (fun W2 => W2.heap[B90]? = some (.cells #[.int .i64 s.t] 3 (0, 0))) := Held.one (fun W2 hg => (hg.2 _ hlo90 (lt_of_heap hB90)).trans hB90)
   refine op_assign rfl rfl ?_
   refine endF (XF.thenN ?_)
   refine seqF ?_
   refine seqF (regF ?_)
   refine op_field (o' := 2) gr_fa_50_2 rfl rfl rfl ?_
   refine op_load Try.isAgg48 rfl (cell_own (hS.at_ 0 rfl) rfl) rfl ?_
   refine op_eql rfl rfl rfl ?_
   refine endF (XF.thenN ?_)
   refine condF rfl (fun hc => ?_) (fun hc => ?_)
   ·have hc43 := of_decide_eq_true hc; clear hc
    have h8 : s.k = 8 := hc43
    obtain ⟨n8, k8, u8, hn8, hnt8, hu8, hk8, hke8⟩ := hco s (List.mem_of_getElem? hy) h8
    have hnt9 : n8 < tl := hnt8
    have hke9 : k8 < el := hke8
    obtain ⟨tb, to_, u9, rfl, hu9, huc9⟩ := ht.get (i := n8) (by omega)
    obtain rfl : u8 = u9 := Option.some.inj (hu8.symm.trans hu9)
    obtain ⟨eb, eo, e8, rfl, he8, hec8⟩ := he.get (i := k8) (by omega)
    have k2 := (CellsAt.agree hS.agree (Nat.zero_le _) huc9).2.1
    have k3 := (CellsAt.agree hS.agree (Nat.zero_le _) hec8).1
    have hsz11 := hS.below.size
    refine regB (m := 15) gr_followsM hS (by kernel_rfl) (by kernel_rfl) rfl ?_
    refine bl_cons 1 rfl (isV _) (stab_isV _) (rgV (li := [(2, _)]) rfl (w_free rfl) ⟨g_fr (by kernel_rfl) rfl, trivial⟩ (fun w hw => rn_field (o' := 2) gr_fa_29_2 rfl rfl) (at_top rfl)) ?_
    refine bl_cons 2 rfl (isV _) (stab_isV _) (rgV (li := [(44, _)]) rfl (w_free rfl) ⟨g_dep 0 (by kernel_rfl) (at_dep rfl rfl rfl), trivial⟩ (fun w hw => rn_load Try.isAgg23 rfl ((below_agree hw 0).cell (Nat.zero_le _) (cell_own (hS.at_ 3 rfl) rfl))) (at_top rfl)) ?_
    refine bl_cons 3 rfl (isV _) (stab_isV _) (rgV (li := [(2, _)]) rfl (w_free rfl) ⟨g_fr (by kernel_rfl) rfl, trivial⟩ (fun w hw => rn_field (o' := 7) gr_fa_29_7 rfl rfl) (at_top rfl)) ?_
    refine bl_cons 4 rfl (isV _) (stab_isV _) (rgV (li := [(46, _)]) rfl (w_free rfl) ⟨g_dep 2 (by kernel_rfl) (at_dep rfl rfl rfl), trivial⟩ (fun w hw => rn_load Try.isAgg25 rfl ((below_agree hw 0).cell (Nat.zero_le _) (cell_own (hS.at_ 3 rfl) rfl))) (at_top rfl)) ?_
    refine bl_cons 5 rfl (isV _) (stab_isV _) (rgV (li := [(10, _)]) rfl (w_free rfl) ⟨g_fr (by kernel_rfl) rfl, trivial⟩ (fun w hw => rn_field (o' := 6) gr_fa_50_6 rfl rfl) (at_top rfl)) ?_
    refine bl_cons 6 rfl (isV _) (stab_isV _) (rgV (li := [(48, _)]) rfl (w_free rfl) ⟨g_dep 4 (by kernel_rfl) (at_dep rfl rfl rfl), trivial⟩ (fun w hw => rn_load Try.isAgg3 rfl ((below_agree hw 0).cell (Nat.zero_le _) (cell_own (hS.at_ 0 rfl) rfl))) (at_top rfl)) ?_
    refine bl_cons 7 rfl (isV _) (stab_isV _) (rgV (li := [(47, _), (49, _)]) rfl (w_free rfl) ⟨g_dep 3 (by kernel_rfl) (at_dep rfl rfl rfl), g_dep 5 (by kernel_rfl) (at_dep rfl rfl rfl), trivial⟩ (fun w hw => rn_indexA (j := n8) Try.underlying25 Try.sizeOf54 rfl rfl (hn8) (hnt8) rfl) (at_top rfl)) ?_
    refine bl_cons 8 rfl (isV _) (stab_isV _) (rgV (li := [(50, _)]) rfl (w_free rfl) ⟨g_dep 6 (by kernel_rfl) (at_dep rfl rfl rfl), trivial⟩ (fun w hw => rn_field gr_fa_54_1 rfl rfl) (at_top rfl)) ?_
    refine bl_cons 9 rfl (isV _) (stab_isV _) (rgV (li := [(51, _)]) rfl (w_free rfl) ⟨g_dep 7 (by kernel_rfl) (at_dep rfl rfl rfl), trivial⟩ (fun w hw => rn_load Try.isAgg3 rfl ((below_agree hw 0).cell (Nat.zero_le _) (k2))) (at_top rfl)) ?_
    refine bl_cons 10 rfl (isV _) (stab_isV _) (rgV (li := [(45, _), (52, _)]) rfl (w_free rfl) ⟨g_dep 1 (by kernel_rfl) (at_dep rfl rfl rfl), g_dep 8 (by kernel_rfl) (at_dep rfl rfl rfl), trivial⟩ (fun w hw => rn_indexA (j := k8) Try.underlying23 Try.sizeOf3 rfl rfl (hk8) (hke8) rfl) (at_top rfl)) ?_
    refine bl_cons 11 rfl (isV _) (stab_isV _) (rgV (li := [(53, _)]) rfl (w_free rfl) ⟨g_dep 9 (by kernel_rfl) (at_dep rfl rfl rfl), trivial⟩ (fun w hw => rn_load Try.isAgg3 rfl ((below_agree hw 0).cell (Nat.zero_le _) (k3))) (at_top rfl)) ?_
    refine bl_cons 12 rfl (isV _) (stab_isV _) (rgV (li := [(10, _)]) rfl (w_free rfl) ⟨g_fr (by kernel_rfl) rfl, trivial⟩ (fun w hw => rn_field (o' := 1) gr_fa_50_1 rfl rfl) (at_top rfl)) ?_
    refine bl_cons 13 rfl (isV _) (stab_isV _) (rgV (li := [(55, _)]) rfl (w_free rfl) ⟨g_dep 11 (by kernel_rfl) (at_dep rfl rfl rfl), trivial⟩ (fun w hw => rn_load Try.isAgg3 rfl ((below_agree hw 0).cell (Nat.zero_le _) (cell_own (hS.at_ 0 rfl) rfl))) (at_top rfl)) ?_
    refine bl_cons 14 rfl (isRow W90.heap.size 2 3 _) (stab_isRow) (rg_rowV (us := [.int .i64 _, .int .i64 _]) rfl (w_free rfl) Try.underlying23 Try.sizeOf3 Try.zeroValue3 rfl rfl ⟨p_tmp (g_dep 10 (by kernel_rfl) (at_dep rfl rfl rfl)), p_tmp (g_dep 12 (by kernel_rfl) (at_dep rfl rfl rfl)), trivial⟩ (gr_bs_23_2 _ _) (at_top rfl)) ?_
    refine bl_cons 15 rfl (isRow W90.heap.size 2 3 _) (stab_isRow) (rg_same rfl (g_dep 13 (by kernel_rfl) (at_dep rfl rfl rfl)) (at_top rfl)) ?_
    refine bl_nil ?_
    intro W9 hbR hS'
    clear hS; have hS := hS'; clear hS'
    refine fin_v ?_
    refine fin_v ?_
    refine fin_v ?_
    refine fin_v ?_
    refine fin_v ?_
    refine fin_v ?_
    refine fin_v ?_
    refine fin_v ?_
    refine fin_v ?_
    refine fin_v ?_
    refine fin_v ?_
    refine fin_v ?_
    refine fin_v ?_
    refine fin_p ?_; rintro _ ⟨B11_13, rfl, hlo11_13, hrow11_13⟩
    refine fin_p ?_; rintro _ ⟨B11_14, rfl, hlo11_14, hrow11_14⟩
    have H11 : Held w [(_, W9)] (fun W2 => W2.heap[B11_14]? = some (.cells #[.int .i64 e8, .int .i64 s.t] 3 (0, 0))) := Held.one (fun W2 hg => (hg.2 _ hlo11_14 (lt_of_heap hrow11_14)).trans hrow11_14)
    refine fin_nil ?_
    refine XF.thenN ?_
    refine regBP (p := 11) (k := 13) (gi := 0) (m := 1) gr_followsM hS rfl rfl (by kernel_rfl) (by kernel_rfl) (by kernel_rfl) (fun d hd => by cases hd) rfl rfl Try.underlying36 gr_inf_69 rfl rfl (by show 0 < 10; decide) rfl rfl rfl (by simp only [maxLen]; omega) (by show (i + 1) * 144 ≤ _; omega) ?_
    refine blp_v 1 rfl rfl (by kernel_rfl) (rgV (li := [(8, _)]) rfl (w_free rfl) ⟨g_fr (by kernel_rfl) rfl, trivial⟩ (fun w hw => rn_field (o' := 5) gr_fa_38_3 rfl rfl) (at_top rfl)) ?_
    refine blp_v 2 rfl rfl (by kernel_rfl) (rgV (li := [(58, _)]) rfl (w_free rfl) ⟨g_dep 0 (by kernel_rfl) (at_dep rfl rfl rfl), trivial⟩ (fun w hw => rn_load Try.isAgg36 rfl ((below_agree hw 0).cell (Nat.zero_le _) (cell_own (hS.at_ 1 rfl) rfl))) (at_top rfl)) ?_
    refine blp_v 3 rfl rfl (by kernel_rfl) (rgV (li := [(10, _)]) rfl (w_free rfl) ⟨g_fr (by kernel_rfl) rfl, trivial⟩ (fun w hw => rn_field (o' := 0) gr_fa_50_0 rfl rfl) (at_top rfl)) ?_
    refine blp_v 4 rfl rfl (by kernel_rfl) (rgV (li := [(60, _)]) rfl (w_free rfl) ⟨g_dep 2 (by kernel_rfl) (at_dep rfl rfl rfl), trivial⟩ (fun w hw => rn_load Try.isAgg3 rfl ((below_agree hw 0).cell (Nat.zero_le _) (cell_own (hS.at_ 0 rfl) rfl))) (at_top rfl)) ?_
    refine blp_v 5 rfl rfl (by kernel_rfl) (rgV (li := [(11, _)]) rfl (w_free rfl) ⟨g_fr (by kernel_rfl) rfl, trivial⟩ (fun w hw => rn_move rfl) (at_top rfl)) ?_
    refine blp_v 6 rfl rfl (by kernel_rfl) (rgV (li := [(1, _)]) rfl (w_free rfl) ⟨g_fr (by kernel_rfl) rfl, trivial⟩ (fun w hw => rn_move rfl) (at_top rfl)) ?_
    refine blp_v 7 rfl rfl (by kernel_rfl) (rgV (li := [(7, _)]) rfl (w_free rfl) ⟨g_fr (by kernel_rfl) rfl, trivial⟩ (fun w hw => rn_move rfl) (at_top rfl)) ?_
    refine blp_v 8 rfl rfl (by kernel_rfl) (rgV (li := [(10, _)]) rfl (w_free rfl) ⟨g_fr (by kernel_rfl) rfl, trivial⟩ (fun w hw => rn_loadA (vs := [_, _, _, _, _, _, _]) Try.isAgg50 Try.sizeOf50 rfl (CellsAt.agree (below_agree hw 0) (Nat.zero_le _) (CellsAt.own (j := 0) (m := 7) (hS.at_ 0 rfl) rfl))) (at_top rfl)) ?_
    refine blp_v 9 rfl rfl (by kernel_rfl) (rg_call [isV _, isV _, isV _] rfl gr_goes_14 (w_free rfl) ⟨p_tmp (g_dep 5 (by kernel_rfl) (at_dep rfl rfl rfl)), p_tmp (g_dep 6 (by kernel_rfl) (at_dep rfl rfl rfl)), p_tmp (g_dep 7 (by kernel_rfl) (at_dep rfl rfl rfl)), trivial⟩ (fun vs w' hb hh => by have e := holds_isV (us := [_, _, _]) hh; subst e; exact (worth_is _ ⟨_, _, _, _, _, _, _⟩ _).mono fun e w2 h => ⟨_, h.1, rfl, h.2⟩) (at_top rfl)) ?_
    refine blp_v 10 rfl rfl (by kernel_rfl) (rgV (li := [(61, _), (62, _), (66, _)]) rfl (w_free rfl) ⟨g_dep 3 (by kernel_rfl) (at_dep rfl rfl rfl), g_dep 4 (by kernel_rfl) (at_dep rfl rfl rfl), g_dep 8 (by kernel_rfl) (at_dep rfl rfl rfl), trivial⟩ (fun w hw => rn_build (us := [(1, .int .i64 _), (3, .slice _ _ _), (4, .agg (List.toArray [_, _, _, _, _, _]))]) rfl (gr_bld_69_1_3_4 _ _ _ _ _ _ _ _ _ _)) (at_top rfl)) ?_
    refine blp_q 11 rfl rfl (by kernel_rfl) (isRow W9.heap.size 1 69 _) (stab_isRow) (rg_rowV (us := [.agg (List.toArray [_, _, _, _, _, _, _, _, _, _])]) rfl (w_free rfl) Try.underlying36 Try.sizeOf69 Try.zeroValue69 rfl rfl ⟨p_tmp (g_dep 9 (by kernel_rfl) (at_dep rfl rfl rfl)), trivial⟩ (gr_bs_36_1 _ _ _ _ _ _ _ _ _ _) (at_top rfl)) ?_
    refine blp_app 12 rfl rfl ?_
    refine blp_late 13 rfl rfl (rgV (li := [(8, _)]) rfl (w_free rfl) ⟨g_fr (by kernel_rfl) rfl, trivial⟩ (fun w hw => rn_field (o' := 5) gr_fa_38_3 rfl rfl) (at_top rfl)) (lgV (li := [(8, _)]) rfl (w_free rfl) ⟨g_fr (by kernel_rfl) rfl, trivial⟩ (fun w => rn_field (o' := 5) gr_fa_38_3 rfl rfl) (at_top rfl) rfl) ?_
    refine blp_nil ⟨_, _, g_dep 1 (by kernel_rfl) (at_dep rfl rfl rfl), g_dep 10 (by kernel_rfl) (at_dep rfl rfl rfl), rowOf_isRow rfl rfl, ?_⟩
    intro A10 v10 news10 W10 hbR hqA10 hS'
    clear hS; have hS := hS'; clear hS'
    cases hqA10
    refine fin_v ?_
    refine fin_v ?_
    refine fin_v ?_
    refine fin_v ?_
    refine fin_v ?_
    refine fin_v ?_
    refine fin_v ?_
    refine fin_v ?_
    refine fin_v ?_
    refine fin_v ?_
    refine fin_p ?_; intro _ _
    refine fin_v ?_
    refine fin_v ?_
    obtain ⟨a2, c2, e2, hac2⟩ := ownsRow_sl (hS.row 0 rfl)
    dsimp only at e2
    subst e2
    refine fin_nil ?_
    refine op_store (i := 1) (cs' := [_, _, _, _, _, _]) (O' := [_, _, _, _]) hS Try.sizeOf36 rfl rfl rfl rfl rfl rfl rfl ?_
    clear hS; intro W11 hS
    refine endF ?_
    refine XF.blkN ?_
    refine XF.thenN ?_
    refine regF ?_
    refine op_add rfl rfl (IntWalk.i64_in _ (by omega)) rfl ?_
    refine op_move rfl rfl ?_
    refine endF ?_
    have hS9 := hS.tail
    refine XF.round (sl - (i + 1)) [(1, _), (2, _), (4, _), (7, _), (8, _), (32, _), (33, _), (34, _)] (by omega) ⟨rfl, rfl, rfl, rfl, rfl, rfl, rfl, rfl, trivial⟩ ⟨i + 1, qs ++ [⟨s.f, some ⟨B11_14, 0, none⟩, 2, 2, [e8, s.t]⟩], _, _, by omega, rfl, rfl, by simp [hql]; try omega, by rw [List.map_append, hqm, List.take_add_one, List.map_append, hy, List.map_cons, List.map_nil]; show _ = _ ++ [_]; rw [stepR_two h8 hn8 hu8 hk8 he8]; rfl, ?_, hS9.castG (by simp [Nat.add_assoc])⟩
    exact fun h2 hk q hq => by
     rcases List.mem_append.1 hq with hq | hq
     ·exact HQ h2 (fun r hr => hk r (by simp [hr])) q hq
     ·rw [List.mem_singleton] at hq; subst hq
      exact ⟨rfl, .inr ⟨B11_14, rfl, Nat.le_trans hsz11 hlo11_14, H11 h2 (fun r hr => hk r (by simp at hr; subst hr; simp))⟩⟩
   ·have hc43 := of_decide_eq_false hc; clear hc
    have n8 : ¬ s.k = 8 := hc43
    refine skipF ?_
    refine XF.thenN ?_
    refine regBP (p := 11) (k := 13) (gi := 0) (m := 1) gr_followsM hS rfl rfl (by kernel_rfl) (by kernel_rfl) (by kernel_rfl) (fun d hd => by cases hd) rfl rfl Try.underlying36 gr_inf_69 rfl rfl (by show 0 < 10; decide) rfl rfl rfl (by simp only [maxLen]; omega) (by show (i + 1) * 144 ≤ _; omega) ?_
    refine blp_v 1 rfl rfl (by kernel_rfl) (rgV (li := [(8, _)]) rfl (w_free rfl) ⟨g_fr (by kernel_rfl) rfl, trivial⟩ (fun w hw => rn_field (o' := 5) gr_fa_38_3 rfl rfl) (at_top rfl)) ?_
    refine blp_v 2 rfl rfl (by kernel_rfl) (rgV (li := [(58, _)]) rfl (w_free rfl) ⟨g_dep 0 (by kernel_rfl) (at_dep rfl rfl rfl), trivial⟩ (fun w hw => rn_load Try.isAgg36 rfl ((below_agree hw 0).cell (Nat.zero_le _) (cell_own (hS.at_ 1 rfl) rfl))) (at_top rfl)) ?_
    refine blp_v 3 rfl rfl (by kernel_rfl) (rgV (li := [(10, _)]) rfl (w_free rfl) ⟨g_fr (by kernel_rfl) rfl, trivial⟩ (fun w hw => rn_field (o' := 0) gr_fa_50_0 rfl rfl) (at_top rfl)) ?_
    refine blp_v 4 rfl rfl (by kernel_rfl) (rgV (li := [(60, _)]) rfl (w_free rfl) ⟨g_dep 2 (by kernel_rfl) (at_dep rfl rfl rfl), trivial⟩ (fun w hw => rn_load Try.isAgg3 rfl ((below_agree hw 0).cell (Nat.zero_le _) (cell_own (hS.at_ 0 rfl) rfl))) (at_top rfl)) ?_
    refine blp_v 5 rfl rfl (by kernel_rfl) (rgV (li := [(11, _)]) rfl (w_free rfl) ⟨g_fr (by kernel_rfl) rfl, trivial⟩ (fun w hw => rn_move rfl) (at_top rfl)) ?_
    refine blp_v 6 rfl rfl (by kernel_rfl) (rgV (li := [(1, _)]) rfl (w_free rfl) ⟨g_fr (by kernel_rfl) rfl, trivial⟩ (fun w hw => rn_move rfl) (at_top rfl)) ?_
    refine blp_v 7 rfl rfl (by kernel_rfl) (rgV (li := [(7, _)]) rfl (w_free rfl) ⟨g_fr (by kernel_rfl) rfl, trivial⟩ (fun w hw => rn_move rfl) (at_top rfl)) ?_
    refine blp_v 8 rfl rfl (by kernel_rfl) (rgV (li := [(10, _)]) rfl (w_free rfl) ⟨g_fr (by kernel_rfl) rfl, trivial⟩ (fun w hw => rn_loadA (vs := [_, _, _, _, _, _, _]) Try.isAgg50 Try.sizeOf50 rfl (CellsAt.agree (below_agree hw 0) (Nat.zero_le _) (CellsAt.own (j := 0) (m := 7) (hS.at_ 0 rfl) rfl))) (at_top rfl)) ?_
    refine blp_v 9 rfl rfl (by kernel_rfl) (rg_call [isV _, isV _, isV _] rfl gr_goes_14 (w_free rfl) ⟨p_tmp (g_dep 5 (by kernel_rfl) (at_dep rfl rfl rfl)), p_tmp (g_dep 6 (by kernel_rfl) (at_dep rfl rfl rfl)), p_tmp (g_dep 7 (by kernel_rfl) (at_dep rfl rfl rfl)), trivial⟩ (fun vs w' hb hh => by have e := holds_isV (us := [_, _, _]) hh; subst e; exact (worth_is _ ⟨_, _, _, _, _, _, _⟩ _).mono fun e w2 h => ⟨_, h.1, rfl, h.2⟩) (at_top rfl)) ?_
    refine blp_v 10 rfl rfl (by kernel_rfl) (rgV (li := [(61, _), (62, _), (66, _)]) rfl (w_free rfl) ⟨g_dep 3 (by kernel_rfl) (at_dep rfl rfl rfl), g_dep 4 (by kernel_rfl) (at_dep rfl rfl rfl), g_dep 8 (by kernel_rfl) (at_dep rfl rfl rfl), trivial⟩ (fun w hw => rn_build (us := [(1, .int .i64 _), (3, .slice _ _ _), (4, .agg (List.toArray [_, _, _, _, _, _]))]) rfl (gr_bld_69_1_3_4 _ _ _ _ _ _ _ _ _ _)) (at_top rfl)) ?_
    refine blp_q 11 rfl rfl (by kernel_rfl) (isRow W90.heap.size 1 69 _) (stab_isRow) (rg_rowV (us := [.agg (List.toArray [_, _, _, _, _, _, _, _, _, _])]) rfl (w_free rfl) Try.underlying36 Try.sizeOf69 Try.zeroValue69 rfl rfl ⟨p_tmp (g_dep 9 (by kernel_rfl) (at_dep rfl rfl rfl)), trivial⟩ (gr_bs_36_1 _ _ _ _ _ _ _ _ _ _) (at_top rfl)) ?_
    refine blp_app 12 rfl rfl ?_
    refine blp_late 13 rfl rfl (rgV (li := [(8, _)]) rfl (w_free rfl) ⟨g_fr (by kernel_rfl) rfl, trivial⟩ (fun w hw => rn_field (o' := 5) gr_fa_38_3 rfl rfl) (at_top rfl)) (lgV (li := [(8, _)]) rfl (w_free rfl) ⟨g_fr (by kernel_rfl) rfl, trivial⟩ (fun w => rn_field (o' := 5) gr_fa_38_3 rfl rfl) (at_top rfl) rfl) ?_
    refine blp_nil ⟨_, _, g_dep 1 (by kernel_rfl) (at_dep rfl rfl rfl), g_dep 10 (by kernel_rfl) (at_dep rfl rfl rfl), rowOf_isRow rfl rfl, ?_⟩
    intro A12 v12 news12 W12 hbR hqA12 hS'
    clear hS; have hS := hS'; clear hS'
    cases hqA12
    refine fin_v ?_
    refine fin_v ?_
    refine fin_v ?_
    refine fin_v ?_
    refine fin_v ?_
    refine fin_v ?_
    refine fin_v ?_
    refine fin_v ?_
    refine fin_v ?_
    refine fin_v ?_
    refine fin_p ?_; intro _ _
    refine fin_v ?_
    refine fin_v ?_
    obtain ⟨a2, c2, e2, hac2⟩ := ownsRow_sl (hS.row 0 rfl)
    dsimp only at e2
    subst e2
    refine fin_nil ?_
    refine op_store (i := 1) (cs' := [_, _, _, _, _, _]) (O' := [_, _, _, _]) hS Try.sizeOf36 rfl rfl rfl rfl rfl rfl rfl ?_
    clear hS; intro W13 hS
    refine endF ?_
    refine XF.blkN ?_
    refine XF.thenN ?_
    refine regF ?_
    refine op_add rfl rfl (IntWalk.i64_in _ (by omega)) rfl ?_
    refine op_move rfl rfl ?_
    refine endF ?_
    have hS9 := hS.tail
    refine XF.round (sl - (i + 1)) [(1, _), (2, _), (4, _), (7, _), (8, _), (32, _), (33, _), (34, _)] (by omega) ⟨rfl, rfl, rfl, rfl, rfl, rfl, rfl, rfl, trivial⟩ ⟨i + 1, qs ++ [⟨s.f, some ⟨B90, 0, none⟩, 1, 1, [s.t]⟩], _, _, by omega, rfl, rfl, by simp [hql]; try omega, by rw [List.map_append, hqm, List.take_add_one, List.map_append, hy, List.map_cons, List.map_nil]; show _ = _ ++ [_]; rw [stepR_one n8]; rfl, ?_, hS9.castG (by simp [Nat.add_assoc])⟩
    exact fun h2 hk q hq => by
     rcases List.mem_append.1 hq with hq | hq
     ·exact HQ h2 (fun r hr => hk r (by simp [hr])) q hq
     ·rw [List.mem_singleton] at hq; subst hq
      exact ⟨rfl, .inr ⟨B90, rfl, Nat.le_trans hsz9 hlo90, H90 h2 (fun r hr => hk r (by simp at hr; subst hr; simp))⟩⟩
  ·have hc35 := of_decide_eq_false hc; clear hc
   rw [List.take_of_length_le (by omega)] at hqm
   refine exitF ?_
   refine XF.thenX ?_
   refine XF.thenX ?_
   refine XF.blkX ?_
   refine XF.thenN ?_
   refine seqF ?_
   refine seqF (regF ?_)
   refine op_field (o' := 3) gr_fa_29_3 rfl rfl rfl ?_
   refine op_load Try.isAgg23 rfl (cell_own (hS.at_ 2 rfl) rfl) rfl ?_
   refine op_len Try.underlying23 rfl rfl ?_
   refine op_move rfl rfl ?_
   refine endF (XF.thenN ?_)
   refine blockF ?_
   refine loopF (fun m l W => ∃ (i : Nat) (qs : List QV) (v : Value) (Kk : List (Nat × World)), i ≤ xl ∧ m = xl - i ∧ l = [(1, .int .i64 1), (2, .pointer (some ⟨B1, 0, none⟩)), (4, .pointer (some ⟨B2, 0, none⟩)), (7, .int .i64 (vl : Int)), (8, .pointer (some ⟨B5, 0, none⟩)), (73, .slice xa xl xc), (74, .int .i64 (xl : Int)), (75, .int .i64 (i : Int))] ∧ qs.length = sl + i ∧ qs.map QV.pl = ss.map (stepR ⟨va, vl, vc, pa, pl, pc, ea, el, ec, es, xa, xl, xc, xs, mn, oa, ol, oc, os, sa, sl, sc, ss, ta, tl, tc, ts, na, nl, nc, ns, ka, kl, kc, ks⟩) ++ (xs.take i).map exitR' ∧ Held w Kk (fun W2 => ∀ q ∈ qs, QN w.heap.size W2 q) ∧ St w [(B5, [.int .i64 1, .int .i64 0, .slice none 0 0, .int .i64 1, .int .i64 (ol : Int), v], 38), (B2, [.int .i64 0, .int .i64 0, .slice none 0 0, .int .i64 0, .int .i64 0, .slice none 0 0], 38), (B1, [.slice va vl vc, .slice pa pl pc, .slice ea el ec, .slice xa xl xc, .int .i64 mn, .slice oa ol oc, .slice sa sl sc, .slice ta tl tc, .slice na nl nc, .slice ka kl kc], 29)] [⟨v, sl + i, qs.flatMap QV.ten, 69, 10⟩] Kk W) (xl - 0) ([(1, _), (2, _), (4, _), (7, _), (8, _), (73, _), (74, _), (75, _)]) ⟨rfl, rfl, rfl, rfl, rfl, rfl, rfl, rfl, trivial⟩ (⟨0, qs, _, Kk, Nat.zero_le _, rfl, rfl, by omega, by rw [hqm]; simp, HQ, hS.castG (by rw [show i = sl + 0 by omega])⟩) ?_
   clear hS
   rintro m l W ⟨i, qs, v, Kk, hi, rfl, rfl, hql, hqm, HQ, hS⟩
   refine seqF (regF ?_)
   refine op_lss rfl rfl rfl ?_
   refine endF (XF.thenN ?_)
   refine seqF ?_
   refine condF rfl (fun hc => ?_) (fun hc => ?_)
   ·have hc76 := of_decide_eq_true hc; clear hc
    have hk1 : i < xl := by omega
    obtain ⟨b, off, y, rfl, hy, hyc⟩ := hx.get (i := i) (by omega)
    have k1 := (CellsAt.agree hS.agree (Nat.zero_le _) hyc).1
    refine skipF ?_
    refine XF.thenN ?_
    refine seqF ?_
    refine blockF ?_
    refine seqF (regF ?_)
    refine op_indexA  Try.underlying23 Try.sizeOf3 rfl rfl rfl (by omega) rfl rfl ?_
    refine op_load Try.isAgg3 rfl (k1) rfl ?_
    refine op_assign rfl rfl ?_
    refine endF (XF.thenN ?_)
    refine regBP (p := 9) (k := 11) (gi := 0) (m := 1) gr_followsM hS rfl rfl (by kernel_rfl) (by kernel_rfl) (by kernel_rfl) (fun d hd => by cases hd) rfl rfl Try.underlying36 gr_inf_69 rfl rfl (by show 0 < 10; decide) rfl rfl rfl (by simp only [maxLen]; omega) (by show (sl + i + 1) * 144 ≤ _; omega) ?_
    refine blp_v 1 rfl rfl (by kernel_rfl) (rgV (li := [(8, _)]) rfl (w_free rfl) ⟨g_fr (by kernel_rfl) rfl, trivial⟩ (fun w hw => rn_field (o' := 5) gr_fa_38_3 rfl rfl) (at_top rfl)) ?_
    refine blp_v 2 rfl rfl (by kernel_rfl) (rgV (li := [(79, _)]) rfl (w_free rfl) ⟨g_dep 0 (by kernel_rfl) (at_dep rfl rfl rfl), trivial⟩ (fun w hw => rn_load Try.isAgg36 rfl ((below_agree hw 0).cell (Nat.zero_le _) (cell_own (hS.at_ 0 rfl) rfl))) (at_top rfl)) ?_
    refine blp_v 3 rfl rfl (by kernel_rfl) (rgV (li := [(13, _)]) rfl (w_free rfl) ⟨g_fr (by kernel_rfl) rfl, trivial⟩ (fun w hw => rn_move rfl) (at_top rfl)) ?_
    refine blp_v 4 rfl rfl (by kernel_rfl) (rgV (li := [(1, _)]) rfl (w_free rfl) ⟨g_fr (by kernel_rfl) rfl, trivial⟩ (fun w hw => rn_move rfl) (at_top rfl)) ?_
    refine blp_v 5 rfl rfl (by kernel_rfl) (rgV (li := [(7, _)]) rfl (w_free rfl) ⟨g_fr (by kernel_rfl) rfl, trivial⟩ (fun w hw => rn_move rfl) (at_top rfl)) ?_
    refine blp_v 6 rfl rfl (by kernel_rfl) (rgV (li := []) rfl (w_free rfl) trivial (fun w hw => rn_build (us := [(2, .int .i64 _)]) rfl (gr_bld_50_2 _)) (at_top rfl)) ?_
    refine blp_v 7 rfl rfl (by kernel_rfl) (rg_call [isV _, isV _, isV _] rfl gr_goes_14 (w_free rfl) ⟨p_tmp (g_dep 3 (by kernel_rfl) (at_dep rfl rfl rfl)), p_tmp (g_dep 4 (by kernel_rfl) (at_dep rfl rfl rfl)), p_tmp (g_dep 5 (by kernel_rfl) (at_dep rfl rfl rfl)), trivial⟩ (fun vs w' hb hh => by have e := holds_isV (us := [_, _, _]) hh; subst e; exact (worth_is _ ⟨_, _, _, _, _, _, _⟩ _).mono fun e w2 h => ⟨_, h.1, rfl, h.2⟩) (at_top rfl)) ?_
    refine blp_v 8 rfl rfl (by kernel_rfl) (rgV (li := [(81, _), (85, _)]) rfl (w_free rfl) ⟨g_dep 2 (by kernel_rfl) (at_dep rfl rfl rfl), g_dep 6 (by kernel_rfl) (at_dep rfl rfl rfl), trivial⟩ (fun w hw => rn_build (us := [(1, .int .i64 _), (4, .agg (List.toArray [_, _, _, _, _, _]))]) rfl (gr_bld_69_1_4 _ _ _ _ _ _ _)) (at_top rfl)) ?_
    refine blp_q 9 rfl rfl (by kernel_rfl) (isRow W.heap.size 1 69 _) (stab_isRow) (rg_rowV (us := [.agg (List.toArray [_, _, _, _, _, _, _, _, _, _])]) rfl (w_free rfl) Try.underlying36 Try.sizeOf69 Try.zeroValue69 rfl rfl ⟨p_tmp (g_dep 7 (by kernel_rfl) (at_dep rfl rfl rfl)), trivial⟩ (gr_bs_36_1 _ _ _ _ _ _ _ _ _ _) (at_top rfl)) ?_
    refine blp_app 10 rfl rfl ?_
    refine blp_late 11 rfl rfl (rgV (li := [(8, _)]) rfl (w_free rfl) ⟨g_fr (by kernel_rfl) rfl, trivial⟩ (fun w hw => rn_field (o' := 5) gr_fa_38_3 rfl rfl) (at_top rfl)) (lgV (li := [(8, _)]) rfl (w_free rfl) ⟨g_fr (by kernel_rfl) rfl, trivial⟩ (fun w => rn_field (o' := 5) gr_fa_38_3 rfl rfl) (at_top rfl) rfl) ?_
    refine blp_nil ⟨_, _, g_dep 1 (by kernel_rfl) (at_dep rfl rfl rfl), g_dep 8 (by kernel_rfl) (at_dep rfl rfl rfl), rowOf_isRow rfl rfl, ?_⟩
    intro A14 v14 news14 W14 hbR hqA14 hS'
    clear hS; have hS := hS'; clear hS'
    cases hqA14
    refine fin_v ?_
    refine fin_v ?_
    refine fin_v ?_
    refine fin_v ?_
    refine fin_v ?_
    refine fin_v ?_
    refine fin_v ?_
    refine fin_v ?_
    refine fin_p ?_; intro _ _
    refine fin_v ?_
    refine fin_v ?_
    obtain ⟨a2, c2, e2, hac2⟩ := ownsRow_sl (hS.row 0 rfl)
    dsimp only at e2
    subst e2
    refine fin_nil ?_
    refine op_store (i := 0) (cs' := [_, _, _, _, _, _]) (O' := [_, _, _]) hS Try.sizeOf36 rfl rfl rfl rfl rfl rfl rfl ?_
    clear hS; intro W15 hS
    refine endF ?_
    refine XF.blkN ?_
    refine XF.thenN ?_
    refine regF ?_
    refine op_add rfl rfl (IntWalk.i64_in _ (by omega)) rfl ?_
    refine op_move rfl rfl ?_
    refine endF ?_
    have hS9 := hS
    refine XF.round (xl - (i + 1)) [(1, _), (2, _), (4, _), (7, _), (8, _), (73, _), (74, _), (75, _)] (by omega) ⟨rfl, rfl, rfl, rfl, rfl, rfl, rfl, rfl, trivial⟩ ⟨i + 1, qs ++ [⟨y, none, 0, 0, []⟩], _, _, by omega, rfl, rfl, by simp [hql]; try omega, by rw [List.map_append, hqm, List.take_add_one, List.map_append, hy, List.append_assoc]; rfl, ?_, hS9.castG (by simp [Nat.add_assoc])⟩
    exact fun h2 hk q hq => by
     rcases List.mem_append.1 hq with hq | hq
     ·exact HQ h2 (fun r hr => hk r (by simp [hr])) q hq
     ·rw [List.mem_singleton] at hq; subst hq
      exact ⟨rfl, .inl rfl⟩
   ·have hc76 := of_decide_eq_false hc; clear hc
    rw [List.take_of_length_le (by omega)] at hqm
    obtain ⟨a9, c9, rfl, hac⟩ := ownsRow_sl (v := v) (n := sl + i) (hS.row 0 rfl)
    refine exitF ?_
    refine XF.thenX ?_
    refine XF.thenX ?_
    refine XF.blkX ?_
    refine XF.thenN ?_
    refine seqF (regF ?_)
    refine op_loadA (vs := [_, _, _, _, _, _]) Try.isAgg38 Try.sizeOf38 rfl (CellsAt.own (j := 0) (m := 6) (hS.at_ 0 rfl) rfl) rfl ?_
    refine op_storeA (i := 1) (vs := [_, _, _, _, _, _]) (cs' := [_, _, _, _, _, _]) (O' := [_, _, _]) hS Try.sizeOf38 rfl rfl rfl rfl rfl rfl rfl ?_
    clear hS; intro W16 hS
    refine op_assign rfl rfl ?_
    refine endF (XF.thenN ?_)
    refine retF ?_
    refine XF.res (resCT (vs := [_, _, _, _, _, _]) Try.results6 Try.isAgg38 Try.sizeOf38 rfl (CellsAt.own (j := 0) (m := 6) (hS.at_ 1 rfl) rfl) rfl) ?_
    exact ⟨hS.below, .inr ⟨hce, a9, c9, qs, by rw [hql], by rw [hql]; exact hS.row 0 rfl, hqm, HQ hS (fun r hr => by simp [hr])⟩⟩
end Go.Proofs.Ythepjghlipdcoaa
namespace Go.Proofs.Ythepjghlipdcoaa
open Go Go.RowKit
theorem gr_flat_at {α : Type} {f : α → List Value} {sz : Nat} (hf : ∀ x, (f x).length = sz) : ∀ {xs : List α} {i : Nat} {x : α}, xs[i]? = some x → ((xs.flatMap f).drop (i * sz)).take sz = f x
 | [], i, x, h => by simp at h
 | y :: xs, 0, x, h => by
  simp at h; subst h
  rw [Nat.zero_mul, List.drop_zero, List.flatMap_cons, List.take_append_of_le_length (by rw [hf]; exact Nat.le_refl _), List.take_of_length_le (by rw [hf]; exact Nat.le_refl _)]
 | y :: xs, i + 1, x, h => by
  have h2 : (i + 1) * sz = (f y).length + i * sz := by rw [hf, Nat.succ_mul, Nat.add_comm]
  rw [List.flatMap_cons, h2, ← List.drop_drop, List.drop_left]
  exact gr_flat_at hf (by simpa using h)
theorem rowL_own {α : Type} {f : α → List Value} {sz : Nat} {W : World} {B : Nat} {xs : List α} {T : TypeId} (hf : ∀ x, (f x).length = sz) (h : W.heap[B]? = some (.cells (xs.flatMap f).toArray T (0, 0))) : RowL f sz W (some ⟨B, 0, none⟩) xs :=
 .inr ⟨B, 0, rfl, fun i x hx => by rw [Nat.zero_add]; exact CellsAt.own h (gr_flat_at hf hx)⟩
structure KnownG (g : GV) : Prop where
 v : g.vl = 0
 p : g.pl = 2
 el : g.el = 2
 es : g.es = [0, 3]
 xl : g.xl = 2
 xs : g.xs = [1, 4]
 mn : g.mn = 0
 ol : g.ol = 5
 os : g.os = [0, 0, 0, 1, 1]
 sl : g.sl = 3
 ss : g.ss = [⟨0, 2, 8, 0, 0, 0, 0⟩, ⟨2, 1, 1, 0, 0, 0, 0⟩, ⟨3, 4, 1, 0, 0, 0, 0⟩]
 tl : g.tl = 1
 ts : ∃ nm, g.ts = [⟨nm, 1, 0, 2⟩]
 nl : g.nl = 0
 ns : g.ns = []
 kl : g.kl = 0
 ks : g.ks = []
theorem KnownG.few {g : GV} (h : KnownG g) : GFew g := ⟨by rw [h.v]; decide, by rw [h.p]; decide, by rw [h.el]; decide, by rw [h.xl]; decide, by rw [h.ol]; decide, by rw [h.sl]; decide, by rw [h.tl]; decide, by rw [h.nl]; decide, by rw [h.kl]; decide⟩
theorem KnownG.facts {g : GV} (h : KnownG g) : gr_checkE g = 0 ∧ CallsOk g ∧ g.ss.map (stepR g) ++ g.xs.map exitR' = [(0, [3, 2]), (2, [1]), (3, [4]), (1, []), (4, [])] ∧ confE g 3 [0] = (0, [3, 2]) := by
 obtain ⟨va, vl, vc, pa, pl, pc, ea, el, ec, es, xa, xl, xc, xs, mn, oa, ol, oc, os, sa, sl, sc, ss, ta, tl, tc, ts, na, nl, nc, ns, ka, kl, kc, ks⟩ := g
 obtain ⟨h1, h2, h3, h4, h5, h6, h7, h8, h9, h10, h11, h12, ⟨nm, h13⟩, h14, h15, h16, h17⟩ := h
 dsimp only at h1 h2 h3 h4 h5 h6 h7 h8 h9 h10 h11 h12 h13 h14 h15 h16 h17
 subst h1 h2 h3 h4 h5 h6 h7 h8 h9 h10 h11 h12 h13 h14 h15 h16 h17
 refine ⟨rfl, fun s hs h8 => ?_, rfl, rfl⟩
 simp only [List.mem_cons, List.not_mem_nil, or_false] at hs
 rcases hs with rfl | rfl | rfl
 ·exact ⟨0, 1, ⟨nm, 1, 0, 2⟩, rfl, by show (0 : Nat) < 1; decide, rfl, rfl, by show (1 : Nat) < 2; decide⟩
 ·exact absurd h8 (by decide)
 ·exact absurd h8 (by decide)
theorem pdsRet_ok {g : GV} {w : World} {e : Ending} {w' : World} (h : PdsRet g w e w') (hc : gr_checkE g = 0) : ∃ a c, ∃ qs : List QV, e = .returned (.tuple #[.agg #[.int .i64 1, .int .i64 0, .slice none 0 0, .int .i64 1, .int .i64 (g.ol : Int), .slice a qs.length c], .int .i64 0]) ∧
  w'.ownsRow w.heap.size 69 10 (.slice a qs.length c) qs.length (qs.flatMap QV.ten) ∧ qs.map QV.pl = g.ss.map (stepR g) ++ g.xs.map exitR' ∧ (∀ q ∈ qs, QN w.heap.size w' q) ∧ Below w.heap.size w w' := by
 obtain ⟨hb, ⟨h1, _⟩ | ⟨_, a, c, qs, h2, h3, h4, h5⟩⟩ := h
 ·exact absurd hc h1
 ·exact ⟨a, c, qs, h2, h3, h4, h5, hb⟩
theorem confRet_ok {R : Int × List Int} {w : World} {e : Ending} {w' : World} {l : List Int} (h : ConfRet R w e w') (hR : R = (0, l)) : ∃ a c, e = .returned (.tuple #[.agg #[.int .i64 0, .slice a l.length c], .int .i64 0]) ∧ gr_RowN w.heap.size w' a c l ∧ Below w.heap.size w w' := by
 subst hR
 obtain ⟨hb, ⟨h1, _⟩ | ⟨_, a, c, h2, h3⟩⟩ := h
 ·exact absurd rfl h1
 ·exact ⟨a, c, h2, h3, hb⟩
theorem five_rules {qs : List QV} (h : qs.map QV.pl = [(0, [3, 2]), (2, [1]), (3, [4]), (1, []), (4, [])]) : ∃ a0 l0 c0 q1 q2 q3 a4 l4 c4, qs = [⟨0, a0, l0, c0, [3, 2]⟩, q1, q2, q3, ⟨4, a4, l4, c4, []⟩] := by
 have hl : qs.length = 5 := by simpa using congrArg List.length h
 match qs, hl, h with
 | [⟨g0, a0, l0, c0, w0⟩, q1, q2, q3, ⟨g4, a4, l4, c4, w4⟩], _, h =>
  simp only [List.map_cons, List.map_nil, List.cons.injEq, QV.pl, Prod.mk.injEq] at h
  obtain ⟨⟨rfl, rfl⟩, _, _, _, ⟨rfl, rfl⟩, _⟩ := h
  exact ⟨a0, l0, c0, q1, q2, q3, a4, l4, c4, rfl⟩
theorem old_heap {lo : Nat} {A W : World} {B : Nat} {o : Obj} (hg : Agree lo A W) (hB : lo ≤ B) (h : A.heap[B]? = some o) : W.heap[B]? = some o := (hg.2 B hB (lt_of_heap h)).trans h
end Go.Proofs.Ythepjghlipdcoaa
namespace Go.Proofs.Ythepjghlipdcoaa
open Go Go.RowKit
theorem gr_bld_29_1_2_3_5_6_7 (v1a : Option Addr) (v1l : Nat) (v1c : Nat) (v2a : Option Addr) (v2l : Nat) (v2c : Nat) (v3a : Option Addr) (v3l : Nat) (v3c : Nat) (v5a : Option Addr) (v5l : Nat) (v5c : Nat) (v6a : Option Addr) (v6l : Nat) (v6c : Nat) (v7a : Option Addr) (v7l : Nat) (v7c : Nat) : Try.prog.built 29 [(1, .slice v1a v1l v1c), (2, .slice v2a v2l v2c), (3, .slice v3a v3l v3c), (5, .slice v5a v5l v5c), (6, .slice v6a v6l v6c), (7, .slice v7a v7l v7c)] = some #[.slice none 0 0, .slice v1a v1l v1c, .slice v2a v2l v2c, .slice v3a v3l v3c, .int .i64 0, .slice v5a v5l v5c, .slice v6a v6l v6c, .slice v7a v7l v7c, .slice none 0 0, .slice none 0 0] := by kernel_rfl
theorem gr_bld_54_0_1_3 (v0 : ByteArray) (v1 : Int) (v3 : Int) : Try.prog.built 54 [(0, .string v0), (1, .int .i64 v1), (3, .int .i64 v3)] = some #[.string v0, .int .i64 v1, .int .i64 0, .int .i64 v3] := by kernel_rfl
theorem gr_bld_50_0_1_2 (v0 : Int) (v1 : Int) (v2 : Int) : Try.prog.built 50 [(0, .int .i64 v0), (1, .int .i64 v1), (2, .int .i64 v2)] = some #[.int .i64 v0, .int .i64 v1, .int .i64 v2, .int .i64 0, .int .i64 0, .int .i64 0, .int .i64 0] := by kernel_rfl
theorem gr_bld_50_1_2 (v1 : Int) (v2 : Int) : Try.prog.built 50 [(1, .int .i64 v1), (2, .int .i64 v2)] = some #[.int .i64 0, .int .i64 v1, .int .i64 v2, .int .i64 0, .int .i64 0, .int .i64 0, .int .i64 0] := by kernel_rfl
theorem gr_bs_22_2 (v0 : ByteArray) (v1 : ByteArray) : Instr.fill (fun i => some (i * 1, 1)) ((Array.range (2 * 1)).map ((Value.cells (.string ByteArray.empty))[· % (Value.cells (.string ByteArray.empty)).size]!)) [(0, .string v0), (1, .string v1)] = some (List.toArray [.string v0, .string v1]) := by kernel_rfl
theorem gr_bs_23_5 (v0 : Int) (v1 : Int) (v2 : Int) (v3 : Int) (v4 : Int) : Instr.fill (fun i => some (i * 1, 1)) ((Array.range (5 * 1)).map ((Value.cells (.int .i64 0))[· % (Value.cells (.int .i64 0)).size]!)) [(0, .int .i64 v0), (1, .int .i64 v1), (2, .int .i64 v2), (3, .int .i64 v3), (4, .int .i64 v4)] = some (List.toArray [.int .i64 v0, .int .i64 v1, .int .i64 v2, .int .i64 v3, .int .i64 v4]) := by kernel_rfl
theorem gr_bs_24_3 (v00 : Value) (v01 : Value) (v02 : Value) (v03 : Value) (v04 : Value) (v05 : Value) (v06 : Value) (v10 : Value) (v11 : Value) (v12 : Value) (v13 : Value) (v14 : Value) (v15 : Value) (v16 : Value) (v20 : Value) (v21 : Value) (v22 : Value) (v23 : Value) (v24 : Value) (v25 : Value) (v26 : Value) : Instr.fill (fun i => some (i * 7, 7)) ((Array.range (3 * 7)).map ((Value.cells (.agg #[.int .i64 0, .int .i64 0, .int .i64 0, .int .i64 0, .int .i64 0, .int .i64 0, .int .i64 0]))[· % (Value.cells (.agg #[.int .i64 0, .int .i64 0, .int .i64 0, .int .i64 0, .int .i64 0, .int .i64 0, .int .i64 0])).size]!)) [(0, .agg #[v00, v01, v02, v03, v04, v05, v06]), (1, .agg #[v10, v11, v12, v13, v14, v15, v16]), (2, .agg #[v20, v21, v22, v23, v24, v25, v26])] = some (List.toArray [v00, v01, v02, v03, v04, v05, v06, v10, v11, v12, v13, v14, v15, v16, v20, v21, v22, v23, v24, v25, v26]) := by kernel_rfl
theorem gr_bs_25_1 (v00 : Value) (v01 : Value) (v02 : Value) (v03 : Value) : Instr.fill (fun i => some (i * 4, 4)) ((Array.range (1 * 4)).map ((Value.cells (.agg #[.string ByteArray.empty, .int .i64 0, .int .i64 0, .int .i64 0]))[· % (Value.cells (.agg #[.string ByteArray.empty, .int .i64 0, .int .i64 0, .int .i64 0])).size]!)) [(0, .agg #[v00, v01, v02, v03])] = some (List.toArray [v00, v01, v02, v03]) := by kernel_rfl
theorem gr_fa_69_1 (w : World) (b o : Nat) : (Instr.fieldAt 69 (.pointer (some ⟨b, o, none⟩)) 1).run Try.prog w = .ok (.pointer (some ⟨b, o + 1, none⟩)) w := by
 simp [Instr.fieldAt, run_underlying Try.underlying69, Instr.sureAddr, go_sem, Addr.add_lit]
theorem gr_fa_69_3 (w : World) (b o : Nat) : (Instr.fieldAt 69 (.pointer (some ⟨b, o, none⟩)) 3).run Try.prog w = .ok (.pointer (some ⟨b, o + 3, none⟩)) w := by
 simp [Instr.fieldAt, run_underlying Try.underlying69, Instr.sureAddr, go_sem, Addr.add_lit]
theorem gr_goes_11 : goesIn Try.prog 11 = true := by kernel_rfl
theorem gr_goes_6 : goesIn Try.prog 6 = true := by kernel_rfl
theorem gr_goes_7 : goesIn Try.prog 7 = true := by kernel_rfl
theorem known_is (w : World) :
  Calls Try.prog 11 #[] w (fun e w' => ∃ g : GV, e = .returned g.val ∧ KnownG g ∧ (∀ W2, Agree w.heap.size w' W2 → GIn W2 g) ∧ Below w.heap.size w w') := by
 refine enterF (args := []) Try.func11 rfl Try.ntmps11 rfl ?_
 have hS := St.start w
 refine seqF (regF ?_)
 refine op_alloc (cs := [_, _, _, _, _, _, _, _, _, _]) hS Try.zeroValue29 rfl rfl ?_
 clear hS; intro B1 W1 hS
 refine endF (XF.thenN ?_)
 refine seqF (regF ?_)
 refine op_buildSlice (us := [(0, .string _), (1, .string _)]) hS Try.underlying22 Try.sizeOf9 Try.zeroValue9 rfl rfl rfl (gr_bs_22_2 _ _) rfl ?_
 clear hS; intro B2 W2 hS
 refine op_buildSlice (us := [(0, .int .i64 _), (1, .int .i64 _)]) hS Try.underlying23 Try.sizeOf3 Try.zeroValue3 rfl rfl rfl (gr_bs_23_2 _ _) rfl ?_
 clear hS; intro B3 W3 hS
 refine op_buildSlice (us := [(0, .int .i64 _), (1, .int .i64 _)]) hS Try.underlying23 Try.sizeOf3 Try.zeroValue3 rfl rfl rfl (gr_bs_23_2 _ _) rfl ?_
 clear hS; intro B4 W4 hS
 refine op_buildSlice (us := [(0, .int .i64 _), (1, .int .i64 _), (2, .int .i64 _), (3, .int .i64 _), (4, .int .i64 _)]) hS Try.underlying23 Try.sizeOf3 Try.zeroValue3 rfl rfl rfl (gr_bs_23_5 _ _ _ _ _) rfl ?_
 clear hS; intro B5 W5 hS
 refine op_build (us := [(1, .int .i64 _), (2, .int .i64 _)]) rfl (gr_bld_50_1_2 _ _) rfl ?_
 refine op_build (us := [(0, .int .i64 _), (1, .int .i64 _), (2, .int .i64 _)]) rfl (gr_bld_50_0_1_2 _ _ _) rfl ?_
 refine op_build (us := [(0, .int .i64 _), (1, .int .i64 _), (2, .int .i64 _)]) rfl (gr_bld_50_0_1_2 _ _ _) rfl ?_
 refine op_buildSlice (us := [(0, .agg (List.toArray [_, _, _, _, _, _, _])), (1, .agg (List.toArray [_, _, _, _, _, _, _])), (2, .agg (List.toArray [_, _, _, _, _, _, _]))]) hS Try.underlying24 Try.sizeOf50 Try.zeroValue50 rfl rfl rfl (gr_bs_24_3 _ _ _ _ _ _ _ _ _ _ _ _ _ _ _ _ _ _ _ _ _) rfl ?_
 clear hS; intro B6 W6 hS
 refine op_build (us := [(0, .string _), (1, .int .i64 _), (3, .int .i64 _)]) rfl (gr_bld_54_0_1_3 _ _ _) rfl ?_
 refine op_buildSlice (us := [(0, .agg (List.toArray [_, _, _, _]))]) hS Try.underlying25 Try.sizeOf54 Try.zeroValue54 rfl rfl rfl (gr_bs_25_1 _ _ _ _) rfl ?_
 clear hS; intro B7 W7 hS
 refine op_build (us := [(1, .slice _ _ _), (2, .slice _ _ _), (3, .slice _ _ _), (5, .slice _ _ _), (6, .slice _ _ _), (7, .slice _ _ _)]) rfl (gr_bld_29_1_2_3_5_6_7 _ _ _ _ _ _ _ _ _ _ _ _ _ _ _ _ _ _) rfl ?_
 refine op_storeA (i := 6) (vs := [_, _, _, _, _, _, _, _, _, _]) (cs' := [_, _, _, _, _, _, _, _, _, _]) (O' := [_, _, _, _, _, _, _]) hS Try.sizeOf29 rfl rfl rfl rfl rfl rfl rfl ?_
 clear hS; intro W8 hS
 refine endF (XF.thenN ?_)
 refine retF ?_
 refine XF.res (resC1 (vs := [_, _, _, _, _, _, _, _, _, _]) Try.results11 Try.isAgg29 Try.sizeOf29 rfl (CellsAt.own (j := 0) (m := 10) (hS.at_ 6 rfl) rfl)) ?_
 obtain ⟨nm, hnm⟩ : ∃ nm, W8.heap[B7]? = some (.cells #[.string nm, .int .i64 1, .int .i64 0, .int .i64 2] 54 (0, 0)) := ⟨_, hS.at_ 0 rfl⟩
 refine ⟨⟨none, 0, 0, some ⟨B2, 0, none⟩, 2, 2, some ⟨B3, 0, none⟩, 2, 2, [0, 3], some ⟨B4, 0, none⟩, 2, 2, [1, 4], 0, some ⟨B5, 0, none⟩, 5, 5, [0, 0, 0, 1, 1], some ⟨B6, 0, none⟩, 3, 3, [⟨0, 2, 8, 0, 0, 0, 0⟩, ⟨2, 1, 1, 0, 0, 0, 0⟩, ⟨3, 4, 1, 0, 0, 0, 0⟩], some ⟨B7, 0, none⟩, 1, 1, [⟨nm, 1, 0, 2⟩], none, 0, 0, [], none, 0, 0, []⟩, rfl, ⟨rfl, rfl, rfl, rfl, rfl, rfl, rfl, rfl, rfl, rfl, rfl, rfl, ⟨_, rfl⟩, rfl, rfl, rfl, rfl⟩, fun W2 hg => ?_, hS.below⟩
 exact ⟨rowL_own (fun _ => rfl) (old_heap hg (hS.ge 4 rfl) (hS.at_ 4 rfl)), rfl, rowL_own (fun _ => rfl) (old_heap hg (hS.ge 3 rfl) (hS.at_ 3 rfl)), rfl, rowL_own (fun _ => rfl) (old_heap hg (hS.ge 2 rfl) (hS.at_ 2 rfl)), rfl, rowL_own (fun _ => rfl) (old_heap hg (hS.ge 1 rfl) (hS.at_ 1 rfl)), rfl, rowL_own (fun _ => rfl) (old_heap hg (hS.ge 0 rfl) hnm), rfl, .inl rfl, rfl, .inl rfl, rfl⟩
theorem pds_is (g : GV) (w : World) (hg : GIn w g) (hf : GFew g) (hco : CallsOk g) : Calls Try.prog 6 #[g.val, .int .i64 1] w (PdsRet g w) :=
 pds_c g.va g.vl g.vc g.pa g.pl g.pc g.ea g.el g.ec g.es g.xa g.xl g.xc g.xs g.mn g.oa g.ol g.oc g.os g.sa g.sl g.sc g.ss g.ta g.tl g.tc g.ts g.na g.nl g.nc g.ns g.ka g.kl g.kc g.ks w hg.e hg.el hg.x hg.xl hg.o hg.ol hg.s hg.sl hg.t hg.tl hg.n hg.nl hg.k hg.kl hf.v hf.p hf.e hf.x hf.o hf.s hf.t hf.n hf.k hco
theorem conf_is (g : GV) (node : Int) (la : Option Addr) (ll lc : Nat) (is : List Int) (w : World) (hg : GIn w g) (hf : GFew g) (hrla : RowI w la is) (hll : is.length = ll) (hlm : ll ≤ 5000) : Calls Try.prog 7 #[g.val, .int .i64 node, .slice la ll lc] w (ConfRet (confE g node is) w) :=
 conf_c g.va g.vl g.vc g.pa g.pl g.pc g.ea g.el g.ec g.es g.xa g.xl g.xc g.xs g.mn g.oa g.ol g.oc g.os g.sa g.sl g.sc g.ss g.ta g.tl g.tc g.ts g.na g.nl g.nc g.ns g.ka g.kl g.kc g.ks node la ll lc is w hg.e hg.el hg.x hg.xl hg.o hg.ol hg.s hg.sl hg.t hg.tl hg.n hg.nl hg.k hg.kl hf.v hf.p hf.e hf.x hf.o hf.s hf.t hf.n hf.k hrla hll hlm
theorem alive_is (w : World) :
  Calls Try.prog 5 #[] w (fun e w' => e = .returned (.bool (true)) ∧ Below w.heap.size w w') := by
 refine enterF (args := []) Try.func5 rfl Try.ntmps5 rfl ?_
 have hS := St.start w
 refine seqF (regF ?_)
 refine op_assign rfl rfl ?_
 refine endF (XF.thenN ?_)
 refine seqF (regF ?_)
 refine op_call (vs := []) hS gr_goes_11 rfl (known_is _) rfl ?_
 rintro e W1 ⟨g, rfl, hkn, hgin, hb⟩
 refine ⟨_, rfl, hb, fun hS' => ?_⟩
 clear hS; have hS := hS'; clear hS'
 obtain ⟨hce, hco, hrules, hcf⟩ := hkn.facts
 refine op_alloc (cs := [_, _, _, _, _, _, _, _, _, _]) hS Try.zeroValue29 rfl rfl ?_
 clear hS; intro B2 W2 hS
 refine op_storeA (i := 0) (vs := [_, _, _, _, _, _, _, _, _, _]) (cs' := [_, _, _, _, _, _, _, _, _, _]) (O' := [_]) hS Try.sizeOf29 rfl rfl rfl rfl rfl rfl rfl ?_
 clear hS; intro W3 hS
 refine endF (XF.thenN ?_)
 refine seqF (regF ?_)
 refine op_loadA (vs := [_, _, _, _, _, _, _, _, _, _]) Try.isAgg29 Try.sizeOf29 rfl (CellsAt.own (j := 0) (m := 10) (hS.at_ 0 rfl) rfl) rfl ?_
 have hgi2 := hgin _ (hS.since 0 rfl)
 refine op_call (vs := [_, _]) hS gr_goes_6 rfl ((pds_is g _ hgi2 hkn.few hco).mono fun e w2 h => pdsRet_ok h hce) rfl ?_
 rintro e W4 ⟨ap, cp, qs, rfl, hrow, hqm, hqn, hb⟩
 refine ⟨_, rfl, hb, fun hS' => ?_⟩
 clear hS; have hS := hS'; clear hS'
 rw [hrules] at hqm
 obtain ⟨a0, l0, c0, q1, q2, q3, a4, l4, c4, rfl⟩ := five_rules hqm
 refine op_move rfl rfl ?_
 refine op_extract rfl rfl rfl ?_
 refine op_extract rfl rfl rfl ?_
 refine op_alloc (cs := [_, _, _, _, _, _]) hS Try.zeroValue38 rfl rfl ?_
 clear hS; intro B5 W5 hS
 refine op_storeA (i := 0) (vs := [_, _, _, _, _, _]) (cs' := [_, _, _, _, _, _]) (O' := [_, _]) hS Try.sizeOf38 rfl rfl rfl rfl rfl rfl rfl ?_
 clear hS; intro W6 hS
 refine op_assign rfl rfl ?_
 refine endF (XF.thenN ?_)
 refine seqF (regF ?_)
 refine op_loadA (vs := [_, _, _, _, _, _, _, _, _, _]) Try.isAgg29 Try.sizeOf29 rfl (CellsAt.own (j := 0) (m := 10) (hS.at_ 1 rfl) rfl) rfl ?_
 refine op_buildSlice (us := [(0, .int .i64 _)]) hS Try.underlying23 Try.sizeOf3 Try.zeroValue3 rfl rfl rfl (gr_bs_23_1 _) rfl ?_
 clear hS; intro B7 W7 hS
 have hgi3 := hgin _ (hS.since 1 rfl)
 refine op_call (vs := [_, _, _]) hS gr_goes_7 rfl ((conf_is g 3 _ 1 1 [0] _ hgi3 hkn.few (rowI_of1 (hS.at_ 0 rfl)) rfl (by decide)).mono fun e w2 h => confRet_ok h hcf) rfl ?_
 rintro e W8 ⟨ac, cc, rfl, hcn, hb⟩
 refine ⟨_, rfl, hb, fun hS' => ?_⟩
 clear hS; have hS := hS'; clear hS'
 refine op_move rfl rfl ?_
 refine op_extract rfl rfl rfl ?_
 refine op_extract rfl rfl rfl ?_
 refine op_alloc (cs := [_, _]) hS Try.zeroValue44 rfl rfl ?_
 clear hS; intro B9 W9 hS
 refine op_storeA (i := 0) (vs := [_, _]) (cs' := [_, _]) (O' := [_, _, _, _]) hS Try.sizeOf44 rfl rfl rfl rfl rfl rfl rfl ?_
 clear hS; intro W10 hS
 refine op_assign rfl rfl ?_
 refine endF (XF.thenN ?_)
 refine seqF ?_
 have hg4 := hS.since 1 rfl
 have hrow4 := ownsRow_agree hrow hg4
 obtain ⟨hne, h0⟩ | ⟨br, rfl, _, hcell⟩ := ownsRow_cells hrow4
 ·simp at h0
 have hq0 := (hqn _ List.mem_cons_self).agree hg4
 have hq4 := (hqn ⟨4, a4, l4, c4, []⟩ (by simp)).agree hg4
 have hl0 : 2 = l0 := hq0.1
 have hl4 : 0 = l4 := hq4.1
 subst hl0; subst hl4
 obtain ⟨B0, ha0, _, hB0⟩ := hq0.2.resolve_left (by simp)
 have ha0' : a0 = some ⟨B0, 0, none⟩ := ha0
 subst ha0'
 have k1 := hcell 3 _ rfl
 have k2 : W10.cell? ⟨B0, 0, none⟩ = some (.int .i64 3) := cell_own (cs := [_, _]) (j := 0) hB0 rfl
 have k3 : W10.cell? ⟨B0, 1, none⟩ = some (.int .i64 2) := cell_own (cs := [_, _]) (j := 1) hB0 rfl
 have k4 := hcell 43 _ rfl
 have k5 := hcell 41 _ rfl
 obtain ⟨bc, oc_, y, rfl, hy, hyc⟩ := (hcn.agree (hS.since 0 rfl)).row.get (i := 1) (by decide)
 obtain rfl : (2 : Int) = y := Option.some.inj hy
 have k6 := hyc.1
 refine regF ?_
 refine op_move rfl rfl ?_
 refine op_eql rfl rfl rfl ?_
 refine op_move rfl rfl ?_
 refine op_cases (d := 20) rfl (fun hc => ?_) (fun hc => absurd (of_decide_eq_false hc) (by exact fun h => h rfl))
 have hc := of_decide_eq_true hc
 refine op_wantedF (d := 20) rfl rfl ?_
 refine op_move rfl rfl ?_
 refine op_wantedF (d := 20) rfl rfl ?_
 refine op_eql rfl rfl rfl ?_
 refine op_pickT rfl rfl rfl ?_
 refine op_move rfl rfl ?_
 refine op_cases (d := 24) rfl (fun hc => ?_) (fun hc => absurd (of_decide_eq_false hc) (by exact fun h => h rfl))
 have hc := of_decide_eq_true hc
 refine op_wantedF (d := 24) rfl rfl ?_
 refine op_field (o' := 5) gr_fa_38_3 rfl rfl rfl ?_
 refine op_wantedF (d := 24) rfl rfl ?_
 refine op_load Try.isAgg36 rfl (cell_own (hS.at_ 2 rfl) rfl) rfl ?_
 refine op_wantedF (d := 24) rfl rfl ?_
 refine op_len Try.underlying36 rfl rfl ?_
 refine op_wantedF (d := 24) rfl rfl ?_
 refine op_eql rfl rfl rfl ?_
 refine op_pickT rfl rfl rfl ?_
 refine op_move rfl rfl ?_
 refine op_cases (d := 30) rfl (fun hc => ?_) (fun hc => absurd (of_decide_eq_false hc) (by exact fun h => h rfl))
 have hc := of_decide_eq_true hc
 refine op_wantedF (d := 30) rfl rfl ?_
 refine op_field (o' := 5) gr_fa_38_3 rfl rfl rfl ?_
 refine op_wantedF (d := 30) rfl rfl ?_
 refine op_load Try.isAgg36 rfl (cell_own (hS.at_ 2 rfl) rfl) rfl ?_
 refine op_wantedF (d := 30) rfl rfl ?_
 refine op_indexA (j := 0) Try.underlying36 Try.sizeOf69 rfl rfl rfl (by omega) (Nat.add_zero _) rfl ?_
 refine op_wantedF (d := 30) rfl rfl ?_
 refine op_field gr_fa_69_3 rfl rfl rfl ?_
 refine op_wantedF (d := 30) rfl rfl ?_
 refine op_load Try.isAgg23 rfl (k1) rfl ?_
 refine op_wantedF (d := 30) rfl rfl ?_
 refine op_len Try.underlying23 rfl rfl ?_
 refine op_wantedF (d := 30) rfl rfl ?_
 refine op_eql rfl rfl rfl ?_
 refine op_pickT rfl rfl rfl ?_
 refine op_move rfl rfl ?_
 refine op_cases (d := 39) rfl (fun hc => ?_) (fun hc => absurd (of_decide_eq_false hc) (by exact fun h => h rfl))
 have hc := of_decide_eq_true hc
 refine op_wantedF (d := 39) rfl rfl ?_
 refine op_field (o' := 5) gr_fa_38_3 rfl rfl rfl ?_
 refine op_wantedF (d := 39) rfl rfl ?_
 refine op_load Try.isAgg36 rfl (cell_own (hS.at_ 2 rfl) rfl) rfl ?_
 refine op_wantedF (d := 39) rfl rfl ?_
 refine op_indexA (j := 0) Try.underlying36 Try.sizeOf69 rfl rfl rfl (by omega) (Nat.add_zero _) rfl ?_
 refine op_wantedF (d := 39) rfl rfl ?_
 refine op_field gr_fa_69_3 rfl rfl rfl ?_
 refine op_wantedF (d := 39) rfl rfl ?_
 refine op_load Try.isAgg23 rfl (k1) rfl ?_
 refine op_wantedF (d := 39) rfl rfl ?_
 refine op_indexA (j := 0) Try.underlying23 Try.sizeOf3 rfl rfl rfl (by omega) (Nat.add_zero _) rfl ?_
 refine op_wantedF (d := 39) rfl rfl ?_
 refine op_load Try.isAgg3 rfl (k2) rfl ?_
 refine op_wantedF (d := 39) rfl rfl ?_
 refine op_eql rfl rfl rfl ?_
 refine op_pickT rfl rfl rfl ?_
 refine op_move rfl rfl ?_
 refine op_cases (d := 49) rfl (fun hc => ?_) (fun hc => absurd (of_decide_eq_false hc) (by exact fun h => h rfl))
 have hc := of_decide_eq_true hc
 refine op_wantedF (d := 49) rfl rfl ?_
 refine op_field (o' := 5) gr_fa_38_3 rfl rfl rfl ?_
 refine op_wantedF (d := 49) rfl rfl ?_
 refine op_load Try.isAgg36 rfl (cell_own (hS.at_ 2 rfl) rfl) rfl ?_
 refine op_wantedF (d := 49) rfl rfl ?_
 refine op_indexA (j := 0) Try.underlying36 Try.sizeOf69 rfl rfl rfl (by omega) (Nat.add_zero _) rfl ?_
 refine op_wantedF (d := 49) rfl rfl ?_
 refine op_field gr_fa_69_3 rfl rfl rfl ?_
 refine op_wantedF (d := 49) rfl rfl ?_
 refine op_load Try.isAgg23 rfl (k1) rfl ?_
 refine op_wantedF (d := 49) rfl rfl ?_
 refine op_indexA (j := 1) Try.underlying23 Try.sizeOf3 rfl rfl rfl (by omega) rfl rfl ?_
 refine op_wantedF (d := 49) rfl rfl ?_
 refine op_load Try.isAgg3 rfl (k3) rfl ?_
 refine op_wantedF (d := 49) rfl rfl ?_
 refine op_eql rfl rfl rfl ?_
 refine op_pickT rfl rfl rfl ?_
 refine op_move rfl rfl ?_
 refine op_cases (d := 59) rfl (fun hc => ?_) (fun hc => absurd (of_decide_eq_false hc) (by exact fun h => h rfl))
 have hc := of_decide_eq_true hc
 refine op_wantedF (d := 59) rfl rfl ?_
 refine op_field (o' := 5) gr_fa_38_3 rfl rfl rfl ?_
 refine op_wantedF (d := 59) rfl rfl ?_
 refine op_load Try.isAgg36 rfl (cell_own (hS.at_ 2 rfl) rfl) rfl ?_
 refine op_wantedF (d := 59) rfl rfl ?_
 refine op_indexA (j := 4) Try.underlying36 Try.sizeOf69 rfl rfl rfl (by omega) rfl rfl ?_
 refine op_wantedF (d := 59) rfl rfl ?_
 refine op_field gr_fa_69_3 rfl rfl rfl ?_
 refine op_wantedF (d := 59) rfl rfl ?_
 refine op_load Try.isAgg23 rfl (k4) rfl ?_
 refine op_wantedF (d := 59) rfl rfl ?_
 refine op_len Try.underlying23 rfl rfl ?_
 refine op_wantedF (d := 59) rfl rfl ?_
 refine op_eql rfl rfl rfl ?_
 refine op_pickT rfl rfl rfl ?_
 refine op_move rfl rfl ?_
 refine op_cases (d := 68) rfl (fun hc => ?_) (fun hc => absurd (of_decide_eq_false hc) (by exact fun h => h rfl))
 have hc := of_decide_eq_true hc
 refine op_wantedF (d := 68) rfl rfl ?_
 refine op_field (o' := 5) gr_fa_38_3 rfl rfl rfl ?_
 refine op_wantedF (d := 68) rfl rfl ?_
 refine op_load Try.isAgg36 rfl (cell_own (hS.at_ 2 rfl) rfl) rfl ?_
 refine op_wantedF (d := 68) rfl rfl ?_
 refine op_indexA (j := 4) Try.underlying36 Try.sizeOf69 rfl rfl rfl (by omega) rfl rfl ?_
 refine op_wantedF (d := 68) rfl rfl ?_
 refine op_field gr_fa_69_1 rfl rfl rfl ?_
 refine op_wantedF (d := 68) rfl rfl ?_
 refine op_load Try.isAgg3 rfl (k5) rfl ?_
 refine op_wantedF (d := 68) rfl rfl ?_
 refine op_eql rfl rfl rfl ?_
 refine op_pickT rfl rfl rfl ?_
 refine op_move rfl rfl ?_
 refine op_cases (d := 76) rfl (fun hc => ?_) (fun hc => absurd (of_decide_eq_false hc) (by exact fun h => h rfl))
 have hc := of_decide_eq_true hc
 refine op_wantedF (d := 76) rfl rfl ?_
 refine op_field (o' := 1) gr_fa_44_1 rfl rfl rfl ?_
 refine op_wantedF (d := 76) rfl rfl ?_
 refine op_load Try.isAgg23 rfl (cell_own (hS.at_ 0 rfl) rfl) rfl ?_
 refine op_wantedF (d := 76) rfl rfl ?_
 refine op_len Try.underlying23 rfl rfl ?_
 refine op_wantedF (d := 76) rfl rfl ?_
 refine op_eql rfl rfl rfl ?_
 refine op_pickT rfl rfl rfl ?_
 refine op_move rfl rfl ?_
 refine op_cases (d := 82) rfl (fun hc => ?_) (fun hc => absurd (of_decide_eq_false hc) (by exact fun h => h rfl))
 have hc := of_decide_eq_true hc
 refine op_wantedF (d := 82) rfl rfl ?_
 refine op_field (o' := 1) gr_fa_44_1 rfl rfl rfl ?_
 refine op_wantedF (d := 82) rfl rfl ?_
 refine op_load Try.isAgg23 rfl (cell_own (hS.at_ 0 rfl) rfl) rfl ?_
 refine op_wantedF (d := 82) rfl rfl ?_
 refine op_indexA (j := 1) Try.underlying23 Try.sizeOf3 rfl rfl rfl (by omega) rfl rfl ?_
 refine op_wantedF (d := 82) rfl rfl ?_
 refine op_load Try.isAgg3 rfl (k6) rfl ?_
 refine op_wantedF (d := 82) rfl rfl ?_
 refine op_eql rfl rfl rfl ?_
 refine op_pickT rfl rfl rfl ?_
 refine op_assign rfl rfl ?_
 refine endF (XF.thenN ?_)
 refine retF ?_
 refine XF.res (res1 Try.results5 rfl) ?_
 exact ⟨gr_rbool rfl, hS.below⟩
end Go.Proofs.Ythepjghlipdcoaa
namespace Go.Proofs.Ythepjghlipdcoaa
open Go Go.RowKit
theorem conf_cases (g : GV) (node : Int) (is : List Int) : (∃ c, c ≠ 0 ∧ confE g node is = (c, [])) ∨ ∃ l, confE g node is = (0, node :: l) ∧ gr_checkE g = 0 ∧ gr_inQ node g.ol = true ∧ backs g.ts g.tl is = some l ∧ l.length + 1 ≤ 4096 := by
 by_cases h1 : gr_checkE g = 0
 ·cases h2 : gr_inQ node g.ol with
  | false => exact .inl ⟨5, by decide, by unfold confE; rw [if_neg (by rw [h1]; simp), if_pos h2]⟩
  | true =>
   cases h3 : backs g.ts g.tl is with
   | none => exact .inl ⟨5, by decide, by unfold confE; rw [if_neg (by rw [h1]; simp), if_neg (by rw [h2]; simp), h3]⟩
   | some l =>
    by_cases h4 : 4096 < l.length + 1
    ·exact .inl ⟨2, by decide, by unfold confE; rw [if_neg (by rw [h1]; simp), if_neg (by rw [h2]; simp), h3]; exact if_pos h4⟩
    ·exact .inr ⟨l, by unfold confE; rw [if_neg (by rw [h1]; simp), if_neg (by rw [h2]; simp), h3]; exact if_neg h4, h1, rfl, rfl, by omega⟩
 ·exact .inl ⟨_, h1, by unfold confE; rw [if_pos h1]⟩
theorem confRet_no {R : Int × List Int} {w : World} {e : Ending} {w' : World} {c : Int} (h : ConfRet R w e w') (hR : R = (c, [])) (hc : c ≠ 0) : e = .returned (.tuple #[.agg #[.int .i64 0, .slice none 0 0], .int .i64 c]) ∧ Below w.heap.size w w' := by
 subst hR
 obtain ⟨hb, ⟨_, h1⟩ | ⟨h1, _⟩⟩ := h
 ·exact ⟨h1, hb⟩
 ·exact absurd h1 hc
end Go.Proofs.Ythepjghlipdcoaa
namespace Go.Proofs.Ythepjghlipdcoaa
open Go Go.RowKit
theorem gr_goes_10 : goesIn Try.prog 10 = true := by kernel_rfl
theorem gr_goes_4 : goesIn Try.prog 4 = true := by kernel_rfl
theorem gr_goes_5 : goesIn Try.prog 5 = true := by kernel_rfl
end Go.Proofs.Ythepjghlipdcoaa
namespace Go.Proofs.Ythepjghlipdcoaa
open Go.RowKit Go.ChangeShapes Go.WideShapes Go.Deep Go.Joins
theorem list_pick {α : Type} : ∀ (n : Nat) (p : Nat → α → Prop), (∀ i, i < n → ∃ c, p i c) → ∃ xs : List α, xs.length = n ∧ ∀ i c, xs[i]? = some c → p i c
 | 0, p, h => ⟨[], rfl, fun i c hi => by simp at hi⟩
 | n + 1, p, h => by
  obtain ⟨xs, hl, hp⟩ := list_pick n p (fun i hi => h i (by omega))
  obtain ⟨c, hc⟩ := h n (by omega)
  refine ⟨xs ++ [c], by simp [hl], fun i d hi => ?_⟩
  rcases Nat.lt_or_ge i n with h1 | h1
  ·rw [List.getElem?_append_left (by omega)] at hi
   exact hp i d hi
  ·obtain ⟨h2, _⟩ := List.getElem?_eq_some_iff.1 hi
   simp [hl] at h2
   obtain rfl : i = n := by omega
   rw [List.getElem?_append_right (by omega), hl, Nat.sub_self] at hi
   simp at hi
   subst hi
   exact hc
theorem two_len {cs : List Value} (h : cs.length = 2) : ∃ a b, cs = [a, b] := by
 match cs, h with
 | [a, b], _ => exact ⟨a, b, rfl⟩
theorem four_len {cs : List Value} (h : cs.length = 4) : ∃ a b c d, cs = [a, b, c, d] := by
 match cs, h with
 | [a, b, c, d], _ => exact ⟨a, b, c, d, rfl⟩
theorem seven_len {cs : List Value} (h : cs.length = 7) : ∃ a b c d e f g, cs = [a, b, c, d, e, f, g] := by
 match cs, h with
 | [a, b, c, d, e, f, g], _ => exact ⟨a, b, c, d, e, f, g, rfl⟩
theorem ten_len {cs : List Value} (h : cs.length = 10) : ∃ a b c d e f g i j k, cs = [a, b, c, d, e, f, g, i, j, k] := by
 match cs, h with
 | [a, b, c, d, e, f, g, i, j, k], _ => exact ⟨a, b, c, d, e, f, g, i, j, k, rfl⟩
theorem cellsAt_of {w : World} {b : Nat} : ∀ (vs : List Value) (o : Nat), (∀ (j : Nat) u, vs[j]? = some u → w.cell? ⟨b, o + j, none⟩ = some u) → CellsAt w b o vs
 | [], _, _ => trivial
 | v :: vs, o, h => ⟨h 0 v rfl, cellsAt_of vs (o + 1) fun j u hj => by have := h (j + 1) u (by simpa using hj); rwa [show o + 1 + j = o + (j + 1) by omega]⟩
section
variable {H : Type} {enc : TypeId × Value → H} {w : World} {base : Nat} {spare : Nat → Bool} {held : Bool}
theorem rows_in {α : Type} {f : α → List Value} {sz : Nat} {t e : TypeId} {n : Nat} {v : Value} {x : DataW H × List MemPlace} (ht : Try.prog.underlying t = some (.slice e)) (hc : Try.prog.cellsOf e = sz) (hp : 0 < sz) (hf : ∀ y, (f y).length = sz)
  (one : ∀ (n : Nat) (cs : List Value) (x : DataW H × List MemPlace), DataW.trod enc Try.prog w base spare held n e cs = some x → ∃ y, cs = f y) (h : DataW.trod enc Try.prog w base spare held n t [v] = some x) :
  ∃ (a : Option Addr) (len cap : Nat) (xs : List α), v = .slice a len cap ∧ RowL f sz w a xs ∧ xs.length = len ∧ len ≤ cap ∧ cap ≤ maxLen := by
 rcases DataW.trod_slice ht h with ⟨hcs, _⟩ | ⟨ad, len, cap, elems, rest, n2, hn2, hcs, _, hb, hle, hcap, hel, hi, _, _⟩
 ·simp at hcs
  subst hcs
  exact ⟨none, 0, 0, [], rfl, .inl rfl, rfl, Nat.le_refl _, Nat.zero_le _⟩
 ·simp at hcs
  subst hcs
  rw [hc] at hi
  obtain ⟨rs, hrl, hrs⟩ := list_pick len (fun i (r : α) => ∀ (j : Nat) u, (f r)[j]? = some u → w.cell? (ad.add (i * sz + j)) = some u) (fun i hil => by
   have hii := hi i hil
   rw [List.getElem?_eq_getElem (by omega)] at hii
   obtain ⟨cs', hc', ht'⟩ := Option.bind_eq_some_iff.1 hii
   obtain ⟨_, hcl, hat⟩ := World.cells?_some hc'
   obtain ⟨r, rfl⟩ := one _ _ _ ht'
   refine ⟨r, fun j u hj => ?_⟩
   have hjs : j < sz := by have := (List.getElem?_eq_some_iff.1 hj).1; rw [hf] at this; exact this
   have h0 := hat j hjs
   rw [Go.Deep.add_add] at h0
   rw [h0]; exact hj)
  refine ⟨some ad, len, cap, rs, rfl, ?_, hrl, hle, hcap⟩
  rcases Nat.eq_zero_or_pos len with h0 | h0
  ·exact .inl (List.length_eq_zero_iff.1 (by omega))
  ·obtain ⟨b, off, spot⟩ := ad
   have h1 := hrs 0 (rs[0]'(by omega)) (List.getElem?_eq_getElem (by omega)) 0 _ (List.getElem?_eq_getElem (by rw [hf]; exact hp))
   have hspot : spot = none := by simpa [Addr.add] using World.cell?_spot h1
   subst hspot
   refine .inr ⟨b, off, rfl, fun i r hir => cellsAt_of _ _ fun j u hj => ?_⟩
   have h3 := hrs i r hir j u hj
   have e : ∀ k, ({ block := b, off := off } : Addr).add k = ⟨b, off + k, none⟩ := fun k => by simp [Addr.add]
   rw [e, ← Nat.add_assoc] at h3
   exact h3
theorem ints_in {n : Nat} {v : Value} {x : DataW H × List MemPlace} (h : DataW.trod enc Try.prog w base spare held n 23 [v] = some x) :
  ∃ (a : Option Addr) (len cap : Nat) (zs : List Int), v = .slice a len cap ∧ RowI w a zs ∧ zs.length = len ∧ len ≤ cap ∧ cap ≤ maxLen :=
 rows_in (e := 3) (by kernel_rfl) (by kernel_rfl) (by omega) (fun _ => rfl) (fun n cs x h => by
  obtain ⟨z0, e0, _, _⟩ := DataW.trod_int (k := .i64) (by kernel_rfl) h
  exact ⟨z0, e0⟩) h
theorem texts_in {n : Nat} {v : Value} {x : DataW H × List MemPlace} (h : DataW.trod enc Try.prog w base spare held n 22 [v] = some x) :
  ∃ (a : Option Addr) (len cap : Nat), v = .slice a len cap := by
 obtain ⟨a, len, cap, _, e, _⟩ := rows_in (f := fun s : ByteArray => [.string s]) (sz := 1) (e := 9) (by kernel_rfl) (by kernel_rfl) (by omega) (fun _ => rfl) (fun n cs x h => by
  obtain ⟨z0, e0, _, _⟩ := DataW.trod_string (by kernel_rfl) h
  exact ⟨z0, e0⟩) h
 exact ⟨a, len, cap, e⟩
theorem steps_in {n : Nat} {v : Value} {x : DataW H × List MemPlace} (h : DataW.trod enc Try.prog w base spare held n 24 [v] = some x) :
  ∃ (a : Option Addr) (len cap : Nat) (zs : List TV), v = .slice a len cap ∧ RowL TV.sev 7 w a zs ∧ zs.length = len ∧ len ≤ cap ∧ cap ≤ maxLen :=
 rows_in (e := 50) (by kernel_rfl) (by kernel_rfl) (by omega) (fun _ => rfl) (fun n cs x h => by
  obtain ⟨xs, n', hn, _, hl, hlen, hg⟩ := DataW.trod_struct Try.underlying50 h
  rw [show Try.prog.cellsOf 50 = 7 by kernel_rfl] at hl
  obtain ⟨a, b, c, d, e, f, g, rfl⟩ := seven_len hl
  have hlen' : xs.length = 7 := hlen
  have g0 := hg 0 _ rfl
  have g1 := hg 1 _ rfl
  have g2 := hg 2 _ rfl
  have g3 := hg 3 _ rfl
  have g4 := hg 4 _ rfl
  have g5 := hg 5 _ rfl
  have g6 := hg 6 _ rfl
  rw [show Try.prog.cellsOf _ = 1 by kernel_rfl, List.getElem?_eq_getElem (by omega)] at g0 g1 g2 g3 g4 g5 g6
  obtain ⟨z0, e0, _, _⟩ := DataW.trod_int (k := .i64) (by kernel_rfl) g0
  obtain ⟨z1, e1, _, _⟩ := DataW.trod_int (k := .i64) (by kernel_rfl) g1
  obtain ⟨z2, e2, _, _⟩ := DataW.trod_int (k := .i64) (by kernel_rfl) g2
  obtain ⟨z3, e3, _, _⟩ := DataW.trod_int (k := .i64) (by kernel_rfl) g3
  obtain ⟨z4, e4, _, _⟩ := DataW.trod_int (k := .i64) (by kernel_rfl) g4
  obtain ⟨z5, e5, _, _⟩ := DataW.trod_int (k := .i64) (by kernel_rfl) g5
  obtain ⟨z6, e6, _, _⟩ := DataW.trod_int (k := .i64) (by kernel_rfl) g6
  simp at e0 e1 e2 e3 e4 e5 e6
  subst e0 e1 e2 e3 e4 e5 e6
  exact ⟨⟨z0, z1, z2, z3, z4, z5, z6⟩, rfl⟩) h
theorem sites_in {n : Nat} {v : Value} {x : DataW H × List MemPlace} (h : DataW.trod enc Try.prog w base spare held n 25 [v] = some x) :
  ∃ (a : Option Addr) (len cap : Nat) (zs : List UV), v = .slice a len cap ∧ RowL UV.four 4 w a zs ∧ zs.length = len ∧ len ≤ cap ∧ cap ≤ maxLen :=
 rows_in (e := 54) (by kernel_rfl) (by kernel_rfl) (by omega) (fun _ => rfl) (fun n cs x h => by
  obtain ⟨xs, n', hn, _, hl, hlen, hg⟩ := DataW.trod_struct Try.underlying54 h
  rw [show Try.prog.cellsOf 54 = 4 by kernel_rfl] at hl
  obtain ⟨a, b, c, d, rfl⟩ := four_len hl
  have hlen' : xs.length = 4 := hlen
  have g0 := hg 0 _ rfl
  have g1 := hg 1 _ rfl
  have g2 := hg 2 _ rfl
  have g3 := hg 3 _ rfl
  rw [show Try.prog.cellsOf _ = 1 by kernel_rfl, List.getElem?_eq_getElem (by omega)] at g0 g1 g2 g3
  obtain ⟨z0, e0, _, _⟩ := DataW.trod_string (by kernel_rfl) g0
  obtain ⟨z1, e1, _, _⟩ := DataW.trod_int (k := .i64) (by kernel_rfl) g1
  obtain ⟨z2, e2, _, _⟩ := DataW.trod_int (k := .i64) (by kernel_rfl) g2
  obtain ⟨z3, e3, _, _⟩ := DataW.trod_int (k := .i64) (by kernel_rfl) g3
  simp at e0 e1 e2 e3
  subst e0 e1 e2 e3
  exact ⟨⟨z0, z1, z2, z3⟩, rfl⟩) h
theorem points_in {n : Nat} {v : Value} {x : DataW H × List MemPlace} (h : DataW.trod enc Try.prog w base spare held n 26 [v] = some x) :
  ∃ (a : Option Addr) (len cap : Nat) (zs : List NV), v = .slice a len cap ∧ RowL NV.two 2 w a zs ∧ zs.length = len ∧ len ≤ cap ∧ cap ≤ maxLen :=
 rows_in (e := 87) (by kernel_rfl) (by kernel_rfl) (by omega) (fun _ => rfl) (fun n cs x h => by
  obtain ⟨xs, n', hn, _, hl, hlen, hg⟩ := DataW.trod_struct Try.underlying87 h
  rw [show Try.prog.cellsOf 87 = 2 by kernel_rfl] at hl
  obtain ⟨a, b, rfl⟩ := two_len hl
  have hlen' : xs.length = 2 := hlen
  have g0 := hg 0 _ rfl
  have g1 := hg 1 _ rfl
  rw [show Try.prog.cellsOf _ = 1 by kernel_rfl, List.getElem?_eq_getElem (by omega)] at g0 g1
  obtain ⟨z0, e0, _, _⟩ := DataW.trod_string (by kernel_rfl) g0
  obtain ⟨z1, e1, _, _⟩ := DataW.trod_int (k := .i64) (by kernel_rfl) g1
  simp at e0 e1
  subst e0 e1
  exact ⟨⟨z0, z1⟩, rfl⟩) h
theorem sinks_in {n : Nat} {v : Value} {x : DataW H × List MemPlace} (h : DataW.trod enc Try.prog w base spare held n 27 [v] = some x) :
  ∃ (a : Option Addr) (len cap : Nat) (zs : List KV), v = .slice a len cap ∧ RowL KV.two 2 w a zs ∧ zs.length = len ∧ len ≤ cap ∧ cap ≤ maxLen :=
 rows_in (e := 89) (by kernel_rfl) (by kernel_rfl) (by omega) (fun _ => rfl) (fun n cs x h => by
  obtain ⟨xs, n', hn, _, hl, hlen, hg⟩ := DataW.trod_struct Try.underlying89 h
  rw [show Try.prog.cellsOf 89 = 2 by kernel_rfl] at hl
  obtain ⟨a, b, rfl⟩ := two_len hl
  have hlen' : xs.length = 2 := hlen
  have g0 := hg 0 _ rfl
  have g1 := hg 1 _ rfl
  rw [show Try.prog.cellsOf _ = 1 by kernel_rfl, List.getElem?_eq_getElem (by omega)] at g0 g1
  obtain ⟨z0, e0, _, _⟩ := DataW.trod_int (k := .i64) (by kernel_rfl) g0
  obtain ⟨z1, e1, _, _⟩ := DataW.trod_int (k := .i64) (by kernel_rfl) g1
  simp at e0 e1
  subst e0 e1
  exact ⟨⟨z0, z1⟩, rfl⟩) h
theorem graph_in {n : Nat} {cs : List Value} {x : DataW H × List MemPlace} (h : DataW.trod enc Try.prog w base spare held n 29 cs = some x) : ∃ g : GV, cs = g.ten ∧ GIn w g := by
 obtain ⟨xs, n', hn, _, hl, hlen, hg⟩ := DataW.trod_struct Try.underlying29 h
 rw [show Try.prog.cellsOf 29 = 10 by kernel_rfl] at hl
 obtain ⟨a, b, c, d, e, f, g, i, j, k, rfl⟩ := ten_len hl
 have hlen' : xs.length = 10 := hlen
 have g0 := hg 0 _ rfl
 have g1 := hg 1 _ rfl
 have g2 := hg 2 _ rfl
 have g3 := hg 3 _ rfl
 have g4 := hg 4 _ rfl
 have g5 := hg 5 _ rfl
 have g6 := hg 6 _ rfl
 have g7 := hg 7 _ rfl
 have g8 := hg 8 _ rfl
 have g9 := hg 9 _ rfl
 rw [show Try.prog.cellsOf _ = 1 by kernel_rfl, List.getElem?_eq_getElem (by omega)] at g0 g1 g2 g3 g4 g5 g6 g7 g8 g9
 obtain ⟨va, vl, vc, rfl⟩ := texts_in (v := a) g0
 obtain ⟨pa, pl, pc, rfl⟩ := texts_in (v := b) g1
 obtain ⟨ea, el, ec, es, rfl, he, hel, _⟩ := ints_in (v := c) g2
 obtain ⟨xa, xl, xc, ys, rfl, hx, hxl, _⟩ := ints_in (v := d) g3
 obtain ⟨mn, e4, _, _⟩ := DataW.trod_int (k := .i64) (by kernel_rfl) g4
 simp at e4
 subst e4
 obtain ⟨oa, ol, oc, os, rfl, ho, hol, _⟩ := ints_in (v := f) g5
 obtain ⟨sa, sl, sc, ss, rfl, hs, hsl, _⟩ := steps_in (v := g) g6
 obtain ⟨ta, tl, tc, ts, rfl, ht, htl, _⟩ := sites_in (v := i) g7
 obtain ⟨na, nl, nc, ns, rfl, hn', hnl, _⟩ := points_in (v := j) g8
 obtain ⟨ka, kl, kc, ks, rfl, hk, hkl, _⟩ := sinks_in (v := k) g9
 exact ⟨⟨va, vl, vc, pa, pl, pc, ea, el, ec, es, xa, xl, xc, ys, mn, oa, ol, oc, os, sa, sl, sc, ss, ta, tl, tc, ts, na, nl, nc, ns, ka, kl, kc, ks⟩, rfl, ⟨he, hel, hx, hxl, ho, hol, hs, hsl, ht, htl, hn', hnl, hk, hkl⟩⟩
theorem graph_open {r : Reach} {b0 : Nat} {v : Value} {d : DataW H} {p : List MemPlace} (hv : Value.okWide Try.prog w r b0 29 v) (h : DataW.Trod enc Try.prog w base spare held 29 v d p) :
  ∃ g : GV, v = g.val ∧ GIn w g := by
 obtain ⟨cs, rfl, _⟩ := okWide_struct Try.underlying29 hv
 obtain ⟨n, h⟩ := h
 obtain ⟨s, e, hs⟩ := graph_in (n := n) h
 have e' : cs.toList = _ := e
 exact ⟨s, by show Value.agg cs = Value.agg _; congr 1; exact Array.ext' e', hs⟩
theorem list_open {n : Nat} {a : Option Addr} {len cap : Nat} {x : DataW H × List MemPlace} (h : DataW.trod enc Try.prog w base spare held n 23 [.slice a len cap] = some x) : ∃ zs : List Int, RowI w a zs ∧ zs.length = len ∧ len ≤ cap ∧ len ≤ 9223372036854775807 := by
 obtain ⟨a', len', cap', zs, e, h1, h2, h3, h4⟩ := ints_in h
 cases e
 exact ⟨zs, h1, h2, h3, by simp only [maxLen] at h4; omega⟩
end
end Go.Proofs.Ythepjghlipdcoaa
namespace Go.Proofs.Ythepjghlipdcoaa
open Go Go.RowKit
theorem followsM : Try.prog.follows .mixedOrders = true := by kernel_rfl
theorem fa_63_1 (w : World) (b o : Nat) : (Instr.fieldAt 63 (.pointer (some ⟨b, o, none⟩)) 1).run Try.prog w = .ok (.pointer (some ⟨b, o + 1, none⟩)) w := by
 simp [Instr.fieldAt, run_underlying Try.underlying63, Instr.sureAddr, go_sem, Addr.add_lit]
theorem goes_42 : goesIn Try.prog 42 = true := by kernel_rfl
theorem goes_44 : goesIn Try.prog 44 = true := by kernel_rfl
theorem goes_49 : goesIn Try.prog 49 = true := by kernel_rfl
end Go.Proofs.Ythepjghlipdcoaa
namespace Go.Proofs.Ythepjghlipdcoaa
open Go Go.RowKit
theorem goes_53 : goesIn Try.prog 53 = true := by kernel_rfl
theorem goes_54 : goesIn Try.prog 54 = true := by kernel_rfl
end Go.Proofs.Ythepjghlipdcoaa
namespace Go.Proofs.Ythepjghlipdcoaa
open Go Go.RowKit
theorem bld_44_0_1 (v0 : Int) (v1a : Option Addr) (v1l : Nat) (v1c : Nat) : Try.prog.built 44 [(0, .int .i64 v0), (1, .slice v1a v1l v1c)] = some #[.int .i64 v0, .slice v1a v1l v1c] := by kernel_rfl
theorem bs_23_1 (v0 : Int) : Instr.fill (fun i => some (i * 1, 1)) ((Array.range (1 * 1)).map ((Value.cells (.int .i64 0))[· % (Value.cells (.int .i64 0)).size]!)) [(0, .int .i64 v0)] = some (List.toArray [.int .i64 v0]) := by kernel_rfl
theorem fa_38_0 (w : World) (b o : Nat) : (Instr.fieldAt 38 (.pointer (some ⟨b, o, none⟩)) 0).run Try.prog w = .ok (.pointer (some ⟨b, o + 0, none⟩)) w := by
 simp [Instr.fieldAt, run_underlying Try.underlying38, Instr.sureAddr, go_sem, Addr.add_lit]
theorem fa_38_1 (w : World) (b o : Nat) : (Instr.fieldAt 38 (.pointer (some ⟨b, o, none⟩)) 1).run Try.prog w = .ok (.pointer (some ⟨b, o + 3, none⟩)) w := by
 simp [Instr.fieldAt, run_underlying Try.underlying38, Instr.sureAddr, go_sem, Addr.add_lit]
theorem fa_38_2 (w : World) (b o : Nat) : (Instr.fieldAt 38 (.pointer (some ⟨b, o, none⟩)) 2).run Try.prog w = .ok (.pointer (some ⟨b, o + 4, none⟩)) w := by
 simp [Instr.fieldAt, run_underlying Try.underlying38, Instr.sureAddr, go_sem, Addr.add_lit]
theorem fa_38_3 (w : World) (b o : Nat) : (Instr.fieldAt 38 (.pointer (some ⟨b, o, none⟩)) 3).run Try.prog w = .ok (.pointer (some ⟨b, o + 5, none⟩)) w := by
 simp [Instr.fieldAt, run_underlying Try.underlying38, Instr.sureAddr, go_sem, Addr.add_lit]
theorem fa_44_0 (w : World) (b o : Nat) : (Instr.fieldAt 44 (.pointer (some ⟨b, o, none⟩)) 0).run Try.prog w = .ok (.pointer (some ⟨b, o + 0, none⟩)) w := by
 simp [Instr.fieldAt, run_underlying Try.underlying44, Instr.sureAddr, go_sem, Addr.add_lit]
theorem fa_44_1 (w : World) (b o : Nat) : (Instr.fieldAt 44 (.pointer (some ⟨b, o, none⟩)) 1).run Try.prog w = .ok (.pointer (some ⟨b, o + 1, none⟩)) w := by
 simp [Instr.fieldAt, run_underlying Try.underlying44, Instr.sureAddr, go_sem, Addr.add_lit]
theorem fa_69_0 (w : World) (b o : Nat) : (Instr.fieldAt 69 (.pointer (some ⟨b, o, none⟩)) 0).run Try.prog w = .ok (.pointer (some ⟨b, o + 0, none⟩)) w := by
 simp [Instr.fieldAt, run_underlying Try.underlying69, Instr.sureAddr, go_sem, Addr.add_lit]
theorem fa_69_1 (w : World) (b o : Nat) : (Instr.fieldAt 69 (.pointer (some ⟨b, o, none⟩)) 1).run Try.prog w = .ok (.pointer (some ⟨b, o + 1, none⟩)) w := by
 simp [Instr.fieldAt, run_underlying Try.underlying69, Instr.sureAddr, go_sem, Addr.add_lit]
theorem fa_69_2 (w : World) (b o : Nat) : (Instr.fieldAt 69 (.pointer (some ⟨b, o, none⟩)) 2).run Try.prog w = .ok (.pointer (some ⟨b, o + 2, none⟩)) w := by
 simp [Instr.fieldAt, run_underlying Try.underlying69, Instr.sureAddr, go_sem, Addr.add_lit]
theorem fa_69_3 (w : World) (b o : Nat) : (Instr.fieldAt 69 (.pointer (some ⟨b, o, none⟩)) 3).run Try.prog w = .ok (.pointer (some ⟨b, o + 3, none⟩)) w := by
 simp [Instr.fieldAt, run_underlying Try.underlying69, Instr.sureAddr, go_sem, Addr.add_lit]
theorem fa_69_4 (w : World) (b o : Nat) : (Instr.fieldAt 69 (.pointer (some ⟨b, o, none⟩)) 4).run Try.prog w = .ok (.pointer (some ⟨b, o + 4, none⟩)) w := by
 simp [Instr.fieldAt, run_underlying Try.underlying69, Instr.sureAddr, go_sem, Addr.add_lit]
theorem goes_17 : goesIn Try.prog 17 = true := by kernel_rfl
theorem goes_18 : goesIn Try.prog 18 = true := by kernel_rfl
theorem goes_19 : goesIn Try.prog 19 = true := by kernel_rfl
theorem goes_20 : goesIn Try.prog 20 = true := by kernel_rfl
theorem goes_31 : goesIn Try.prog 31 = true := by kernel_rfl
theorem goes_30 : goesIn Try.prog 30 = true := by kernel_rfl
theorem goes_43 : goesIn Try.prog 43 = true := by kernel_rfl
theorem goes_48 : goesIn Try.prog 48 = true := by kernel_rfl
theorem inf_3 : Try.prog.info? 3 = some Try.t3 := by kernel_rfl
end Go.Proofs.Ythepjghlipdcoaa
namespace Go.Proofs.Ythepjghlipdcoaa
def lanes (c : Nat) : Nat → Nat
 | 0 => 0
 | m + 1 => 256 * lanes c m + c
def py (m x : Nat) : Nat := (x / 2 &&& lanes 85 m) + (x &&& lanes 85 m)
def y1 (b : Nat) : Nat := ((b / 2) &&& 85) + (b &&& 85)
def z1 (b : Nat) : Nat := (y1 b / 4 &&& 51) + (y1 b &&& 51)
def v1 (b : Nat) : Nat := (z1 b / 16 + z1 b) &&& 15
end Go.Proofs.Ythepjghlipdcoaa
namespace Go.Proofs.Ythepjghlipdcoaa
open Go.RowKit
theorem rint {k : IntKind} {a b : Int} (h : a = b) : Ending.returned (.int k a) = .returned (.int k b) := by rw [h]
theorem rbool {a b : Bool} (h : a = b) : Ending.returned (.bool a) = .returned (.bool b) := by rw [h]
theorem rii {k m : IntKind} {a b c d : Int} (h : a = b) (h2 : c = d) : Ending.returned (.tuple #[.int k a, .int m c]) = .returned (.tuple #[.int k b, .int m d]) := by rw [h, h2]
theorem pow_le64 {n : Nat} (hn : n ≤ 64) : 2 ^ n ≤ 18446744073709551616 := Nat.pow_le_pow_right (by decide : 1 ≤ 2) hn
theorem pow_lt64 {n : Nat} (hn : n ≤ 63) : 2 ^ n ≤ 9223372036854775808 := Nat.pow_le_pow_right (by decide : 1 ≤ 2) hn
theorem worth_step (k : Nat) (hk : k < 63) : IntKind.u64.wrap (((2 ^ k : Nat) : Int) * 2) = ((2 ^ (k + 1) : Nat) : Int) := by
 have h := pow_lt64 (show k + 1 ≤ 63 by omega)
 rw [Nat.pow_succ] at *
 generalize 2 ^ k = q at *
 rw [IntKind.wrap_u64]; omega
theorem worth_any (i : Int) (hi : i ≤ 63) (w : World) : Calls Try.prog 59 #[.int .i64 i] w fun e w' => e = .returned (.int .u64 ((2 ^ i.toNat : Nat) : Int)) ∧ w = w' := by
 go_enter Try.func59, Try.ntmps59
 go_wp2_with fail
 go_loop [0, 3] (fun j v => ∃ (k : Nat) (q : Int), k ≤ i.toNat ∧ q = i - (k : Int) ∧ j = .int .i64 q ∧ ∃ p : Int, v = .int .u64 p ∧ Hid (((2 ^ k : Nat) : Int) = p)) (fun j _ => (intOf j).toNat)
 case atStart => exact ⟨0, i, Nat.zero_le _, by omega, rfl, 1, rfl, rfl⟩
 case round =>
  obtain ⟨k, q, hk, hq, rfl, p, rfl, HP⟩ := hrel
  by_cases hlt : 0 < q
  ·have HN : Hid (((2 ^ (k + 1) : Nat) : Int) = IntKind.u64.wrap (p * 2)) := by show _ = _; rw [← HP.out]; exact (worth_step k (by omega)).symm
   have g : IntKind.i64.wrap (q - 1) = q - 1 := by simp [IntKind.wrap, IntKind.signed, IntKind.bits]; omega
   go_wp2
   go_round
   case rel => exact ⟨k + 1, q - 1, by omega, by omega, by congr 1; omega, _, rfl, HN⟩
   case measure => simp [intOf]; omega
  ·have HE : Hid (p = ((2 ^ i.toNat : Nat) : Int)) := by show _ = _; rw [← HP.out, show k = i.toNat by omega]
   go_wp2
   go_ret
   exact ⟨rint HE.out, rfl⟩
end Go.Proofs.Ythepjghlipdcoaa
namespace Go.Proofs.Ythepjghlipdcoaa
open Go.RowKit
theorem not_bit (b j : Nat) (hb : b < 18446744073709551616) : (18446744073709551615 - b).testBit j = (decide (j < 64) && !b.testBit j) := by
 have e : 18446744073709551615 - b = 2 ^ 64 - (b + 1) := by omega
 rw [e, Nat.testBit_two_pow_sub_succ (by simpa using hb)]
theorem mask_bit (n j : Nat) : (2 ^ n - 1).testBit j = decide (j < n) := Nat.testBit_two_pow_sub_one n j
theorem mask_lt {n : Nat} (hn : n ≤ 64) : 2 ^ n - 1 < 18446744073709551616 := by have := pow_le64 hn; have := Nat.two_pow_pos n; omega
theorem bit_lt {x j : Nat} (hx : x < 18446744073709551616) (h : x.testBit j = true) : j < 64 := by
 rcases Nat.lt_or_ge j 64 with h1 | h1
 ·exact h1
 ·rw [Nat.testBit_lt_two_pow (Nat.lt_of_lt_of_le hx (Nat.pow_le_pow_right (by omega : 0 < 2) h1))] at h; cases h
def fullV (n : Int) : Int := if 0 ≤ n ∧ n ≤ 64 then ((2 ^ n.toNat - 1 : Nat) : Int) else 0
def fullE (n : Int) : Int := if 0 ≤ n ∧ n ≤ 64 then 0 else 10
theorem full_step (k : Nat) (hk : k < 64) : IntKind.u64.wrap (((2 ^ k - 1 : Nat) : Int) + ((2 ^ k : Nat) : Int)) = ((2 ^ (k + 1) - 1 : Nat) : Int) := by
 have h := pow_lt64 (show k ≤ 63 by omega)
 have hp := Nat.two_pow_pos k
 rw [Nat.pow_succ] at *
 generalize 2 ^ k = q at *
 rw [IntKind.wrap_u64]; omega
theorem fullR_is (n : Int) (r e0 : Int) (hr : fullV n = r) (he : fullE n = e0) (w : World) : Calls Try.prog 58 #[.int .i64 n] w fun e w' => e = .returned (.tuple #[.int .u64 r, .int .i64 e0]) ∧ w = w' := by
 by_cases h : 0 ≤ n ∧ n ≤ 64
 ·have HR : Hid (((2 ^ n.toNat - 1 : Nat) : Int) = r) := by show _ = _; rw [← hr, fullV, if_pos h]
  have HE : Hid (0 = e0) := by show _ = _; rw [← he, fullE, if_pos h]
  obtain ⟨m, rfl⟩ : ∃ m : Nat, n = m := ⟨n.toNat, by omega⟩
  have hm : m ≤ 64 := by omega
  clear hr he h
  go_enter Try.func58, Try.ntmps58
  go_wp2_with fail
  go_loop [4, 5] (fun s i => ∃ (k : Nat) (p : Int), k ≤ m ∧ i = .int .i64 k ∧ s = .int .u64 p ∧ Hid (((2 ^ k - 1 : Nat) : Int) = p)) (fun _ i => m - (intOf i).toNat)
  case atStart => exact ⟨0, 0, Nat.zero_le _, rfl, rfl, rfl⟩
  case round =>
   obtain ⟨k, p, hk, rfl, rfl, HP⟩ := hrel
   by_cases hlt : k < m
   ·have HN : Hid (((2 ^ (k + 1) - 1 : Nat) : Int) = IntKind.u64.wrap (p + ((2 ^ k : Nat) : Int))) := by show _ = _; rw [← HP.out]; exact (full_step k (by omega)).symm
    obtain ⟨q, hq⟩ : ∃ q : Nat, 2 ^ k = q := ⟨_, rfl⟩
    have HQ := Lib.hid hq
    rw [hq] at HN
    clear hq
    go_wp2_with fail
    refine (worth_any k (by omega) _).mono ?_
    rintro e w1 ⟨rfl, rfl⟩
    rw [show (k : Int).toNat = k from rfl, HQ.out]
    go_wp2
    go_round
    case rel => exact ⟨k + 1, _, by omega, by go_num, rfl, HN⟩
    case measure => simp [intOf]; omega
   ·have HF : Hid (p = r) := by show _ = _; rw [← HP.out, ← HR.out, show k = m by omega]; rfl
    go_wp2
    go_ret2
    exact ⟨rii HF.out HE.out, rfl⟩
 ·have HR : Hid (0 = r) := by show _ = _; rw [← hr, fullV, if_neg h]
  have HE : Hid (10 = e0) := by show _ = _; rw [← he, fullE, if_neg h]
  clear hr he
  by_cases h0 : n < 0
  ·clear h
   go_enter Try.func58, Try.ntmps58
   go_wp2
   go_ret2
   exact ⟨rii HR.out HE.out, rfl⟩
  ·have h1 : 64 < n := by omega
   clear h
   go_enter Try.func58, Try.ntmps58
   go_wp2
   go_ret2
   exact ⟨rii HR.out HE.out, rfl⟩
def restN (f m : Nat) : Nat := f &&& (18446744073709551615 - (2 ^ m - 1))
theorem restN_bit (f m : Nat) (hm : m ≤ 64) (hf : f < 18446744073709551616) (j : Nat) : (restN f m).testBit j = (f.testBit j && decide (m ≤ j)) := by
 unfold restN
 rw [Nat.testBit_and, not_bit _ _ (mask_lt hm), mask_bit]
 cases hb : f.testBit j
 ·rfl
 ·have := bit_lt hf hb
  simp [this]
  by_cases h : m ≤ j
  ·simp [h]
  ·simp [h]; omega
end Go.Proofs.Ythepjghlipdcoaa
namespace Go.Proofs.Ythepjghlipdcoaa
open Go.RowKit
def VRow (w : World) (a : Option Addr) (vs : List Value) : Prop :=
 vs = [] ∨ ∃ b off, a = some ⟨b, off, none⟩ ∧ ∀ (i : Nat) v, vs[i]? = some v → w.cell? ⟨b, off + i, none⟩ = some v
theorem cell_lt {w : World} {p : Addr} {v : Value} (h : w.cell? p = some v) : p.block < w.heap.size := by
 unfold World.cell? at h
 rcases Nat.lt_or_ge p.block w.heap.size with h' | h'
 ·exact h'
 ·simp [Array.getElem?_eq_none h'] at h
theorem VRow.below {w w' : World} {a : Option Addr} {vs : List Value} (h : VRow w a vs) (hb : Below w.heap.size w w') : VRow w' a vs := by
 rcases h with h | ⟨b, off, ha, hc⟩
 ·exact .inl h
 ·exact .inr ⟨b, off, ha, fun i v hi => (hb.cell (p := ⟨b, off + i, none⟩) (cell_lt (hc i v hi))).trans (hc i v hi)⟩
theorem VRow.at_ {w : World} {a : Option Addr} {vs : List Value} (h : VRow w a vs) {i : Nat} (hi : i < vs.length) :
  ∃ b off v, a = some ⟨b, off, none⟩ ∧ vs[i]? = some v ∧ b < w.heap.size ∧ w.cell? ⟨b, off + i, none⟩ = some v := by
 rcases h with h | ⟨b, off, ha, hc⟩
 ·subst h; simp at hi
 ·have e : vs[i]? = some vs[i] := by simp [hi]
  exact ⟨b, off, vs[i], ha, e, cell_lt (hc i _ e), hc i _ e⟩
theorem VRow.of_own {w : World} {base : Nat} {E : Nat} {v : Value} {n : Nat} {vs : List Value} (h : w.ownsRow base E 1 v n vs) :
  n = vs.length ∧ ∃ a cap, v = .slice a vs.length cap ∧ VRow w a vs ∧ ∀ ad, a = some ad → base ≤ ad.block ∧ ad.block < w.heap.size := by
 have hl := h.1
 have hn : n = vs.length := by omega
 refine ⟨hn, ?_⟩
 rcases h.2 with ⟨rfl, h0⟩ | ⟨g, cap, cur, rfl, hg, hh, hnc, hcm, hcs, ht⟩
 ·have : vs = [] := List.length_eq_zero_iff.1 (by omega)
  subst this
  exact ⟨none, 0, rfl, .inl rfl, fun ad e => by cases e⟩
 ·subst hn
  refine ⟨some ⟨g, 0, none⟩, cap, rfl, .inr ⟨g, 0, rfl, fun i x hi => ?_⟩, fun ad e => by cases e; exact ⟨hg, (Array.getElem?_eq_some_iff.1 hh).1⟩⟩
  have hi2 : i < vs.length := (List.getElem?_eq_some_iff.1 hi).1
  have c0 := h.cellAt i (by omega)
  rw [Nat.zero_add]
  exact c0.trans hi
theorem heapV_new (w : World) (o : Obj) : (w.alloc o).heap[w.heap.size]? = some o := by
 show (w.heap.push o)[w.heap.size]? = some o
 simp
end Go.Proofs.Ythepjghlipdcoaa
namespace Go.Proofs.Ythepjghlipdcoaa
open Go.RowKit
def u64s (l : List Nat) : List Value := l.map fun r : Nat => Value.int .u64 (r : Int)
theorem u64s_length (l : List Nat) : (u64s l).length = l.length := by simp [u64s]
theorem u64s_snoc (l : List Nat) (x : Nat) : u64s (l ++ [x]) = u64s l ++ [Value.int .u64 (x : Int)] := by simp [u64s]
theorem u64s_at {l : List Nat} {i : Nat} {v : Value} (h : (u64s l)[i]? = some v) : ∃ r, l[i]? = some r ∧ v = .int .u64 (r : Int) := by
 unfold u64s at h
 rw [List.getElem?_map] at h
 cases hr : l[i]? with
 | none => rw [hr] at h; cases h
 | some r => rw [hr] at h; exact ⟨r, rfl, (Option.some.inj h).symm⟩
structure FAt (w : World) (a : Option Addr) (gen : Nat) (rows : List Nat) : Prop where
 row : VRow w a (u64s rows)
 gen : gen < 18446744073709551616
 all : ∀ r ∈ rows, r < 18446744073709551616
 len : rows.length ≤ 100
theorem FAt.below {w w' : World} {a : Option Addr} {gen : Nat} {rows : List Nat} (h : FAt w a gen rows) (hb : Below w.heap.size w w') : FAt w' a gen rows := ⟨h.row.below hb, h.gen, h.all, h.len⟩
theorem FAt.at_ {w : World} {a : Option Addr} {gen : Nat} {rows : List Nat} (h : FAt w a gen rows) {i : Nat} (hi : i < rows.length) :
  ∃ b off r, a = some ⟨b, off, none⟩ ∧ rows[i]? = some r ∧ r < 18446744073709551616 ∧ b < w.heap.size ∧ w.cell? ⟨b, off + i, none⟩ = some (.int .u64 (r : Int)) := by
 obtain ⟨b, off, v, ha, hv, hb, hc⟩ := h.row.at_ (i := i) (by rw [u64s_length]; exact hi)
 obtain ⟨r, hr, rfl⟩ := u64s_at hv
 exact ⟨b, off, r, ha, hr, h.all r (List.mem_of_getElem? hr), hb, hc⟩
def fval (gen : Nat) (a : Option Addr) (len cap : Nat) : Value := .agg #[.int .u64 (gen : Int), .slice a len cap]
def dimB (n : Int) : Bool := decide (0 ≤ n) && decide (n ≤ 64)
theorem dim_is (n : Int) (r : Bool) (hr : dimB n = r) (w : World) : Calls Try.prog 53 #[.int .i64 n] w fun e w' => e = .returned (.bool r) ∧ w = w' := by
 subst hr
 by_cases h1 : 0 ≤ n
 ·by_cases h2 : n ≤ 64
  ·have H : Hid (dimB n = true) := by show _ = _; simp [dimB, h1, h2]
   rw [H.out]
   go_enter Try.func53, Try.ntmps53
   go_wp2
   go_ret
   exact ⟨rfl, rfl⟩
  ·have H : Hid (dimB n = false) := by show _ = _; simp [dimB, h2]
   rw [H.out]
   go_enter Try.func53, Try.ntmps53
   go_wp2
   go_ret
   exact ⟨rfl, rfl⟩
 ·have H : Hid (dimB n = false) := by show _ = _; simp [dimB, h1]
  rw [H.out]
  go_enter Try.func53, Try.ntmps53
  go_wp2
  go_ret
  exact ⟨rfl, rfl⟩
def insN (m s : Nat) : Bool := restN s m == 0
theorem insN_iff {m s : Nat} (hm : m ≤ 64) (hs : s < 18446744073709551616) : insN m s = true ↔ s < 2 ^ m := by
 unfold insN
 rw [beq_iff_eq]
 constructor
 ·intro h
  apply Nat.lt_pow_two_of_testBit
  intro i hi
  have := restN_bit s m hm hs i
  rw [h, Nat.zero_testBit] at this
  cases hb : s.testBit i
  ·rfl
  ·rw [hb] at this; simp at this; omega
 ·intro h
  apply Nat.eq_of_testBit_eq
  intro i
  rw [restN_bit s m hm hs, Nat.zero_testBit]
  by_cases hi : m ≤ i
  ·rw [Nat.testBit_lt_two_pow (Nat.lt_of_lt_of_le h (Nat.pow_le_pow_right (by omega) hi))]; rfl
  ·simp [hi]
def insI (n : Int) (s : Nat) : Bool := if dimB n = true then insN n.toNat s else s == 0
theorem dim_full {n : Int} (h : dimB n = true) : fullV n = ((2 ^ n.toNat - 1 : Nat) : Int) ∧ fullE n = 0 := by
 simp only [dimB, Bool.and_eq_true, decide_eq_true_eq] at h
 exact ⟨by rw [fullV, if_pos h], by rw [fullE, if_pos h]⟩
theorem dim_full_no {n : Int} (h : dimB n = false) : fullV n = 0 ∧ fullE n = 10 := by
 have : ¬ (0 ≤ n ∧ n ≤ 64) := by intro x; simp [dimB, x.1, x.2] at h
 exact ⟨by rw [fullV, if_neg this], by rw [fullE, if_neg this]⟩
theorem andNot_mask (s m : Nat) (hs : s < 18446744073709551616) (hm : m ≤ 64) : bits BinOp.andNot IntKind.u64 (s : Int) ((2 ^ m - 1 : Nat) : Int) = ((restN s m : Nat) : Int) := u64_andNot_nat s _ hs (mask_lt hm)
theorem dim_nat {n : Int} (h : dimB n = true) : ∃ m : Nat, n = m ∧ m ≤ 64 := by
 simp only [dimB, Bool.and_eq_true, decide_eq_true_eq] at h
 exact ⟨n.toNat, by omega, by omega⟩
theorem andNot_zero (s : Nat) (hs : s < 18446744073709551616) : bits BinOp.andNot IntKind.u64 (s : Int) 0 = (s : Int) := by
 have h := u64_andNot_nat s 0 hs (by decide)
 have e : s &&& (18446744073709551615 - 0) = s := by
  apply Nat.eq_of_testBit_eq
  intro i
  rw [Nat.testBit_and, not_bit 0 i (by decide), Nat.zero_testBit]
  cases hb : s.testBit i
  ·rfl
  ·simp [bit_lt hs hb]
 rw [e] at h
 exact h
theorem inside_is (n : Int) (s : Nat) (hs : s < 18446744073709551616) (r : Bool) (hr : insI n s = r) (w : World) : Calls Try.prog 57 #[.int .i64 n, .int .u64 s] w fun e w' => e = .returned (.bool r) ∧ w = w' := by
 cases hd : dimB n
 ·obtain ⟨f1, f2⟩ := dim_full_no hd
  have F1 := Lib.hid f1; have F2 := Lib.hid f2
  have HA := andNot_zero s hs
  have HR : Hid (((s : Int) == 0) = r) := by
   show _ = _
   rw [← hr, insI, hd]
   simp only [Bool.false_eq_true, if_false]
   rw [Bool.eq_iff_iff]; simp
  clear hd f1 f2 hr hs
  go_enter Try.func57, Try.ntmps57
  go_wp2_with fail
  refine (fullR_is n 0 10 F1.out F2.out _).mono ?_
  rintro e w1 ⟨rfl, rfl⟩
  go_wp2
  go_ret
  exact ⟨rbool HR.out, rfl⟩
 ·obtain ⟨m, rfl, hm⟩ := dim_nat hd
  obtain ⟨f1, f2⟩ := dim_full hd
  have F1 := Lib.hid f1; have F2 := Lib.hid f2
  have HA := andNot_mask s m hs hm
  have HR : Hid ((((restN s m : Nat) : Int) == 0) = r) := by
   show _ = _
   rw [← hr, insI, hd, if_pos rfl]
   unfold insN
   rw [Int.toNat_natCast, Bool.eq_iff_iff]; simp
  obtain ⟨q, hq⟩ : ∃ q, restN s m = q := ⟨_, rfl⟩
  rw [hq] at HA HR
  obtain ⟨p, hp⟩ : ∃ p : Nat, 2 ^ m - 1 = p := ⟨_, rfl⟩
  rw [Int.toNat_natCast, hp] at F1
  rw [hp] at HA
  clear hd f1 f2 hr hs hq hp
  go_enter Try.func57, Try.ntmps57
  go_wp2_with fail
  refine (fullR_is m p 0 F1.out F2.out _).mono ?_
  rintro e w1 ⟨rfl, rfl⟩
  go_wp2
  go_ret
  exact ⟨rbool HR.out, rfl⟩
def shapeB (m gen : Nat) (rows : List Nat) : Bool := decide (rows.length = m) && (insN m gen && rows.all (insN m))
theorem all_drop {l : List Nat} {p : Nat → Bool} {k : Nat} (h : ∀ i r, i < k → l[i]? = some r → p r = true) (hk : l.length ≤ k) : l.all p = true := by
 rw [List.all_eq_true]
 intro x hx
 obtain ⟨i, hi⟩ := List.getElem?_of_mem hx
 exact h i x (by have := (List.getElem?_eq_some_iff.1 hi).1; omega) hi
theorem all_bad {l : List Nat} {p : Nat → Bool} {i r : Nat} (h : l[i]? = some r) (hp : p r = false) : l.all p = false := by
 rw [List.all_eq_false]
 exact ⟨r, List.mem_of_getElem? h, by rw [hp]; simp⟩
end Go.Proofs.Ythepjghlipdcoaa
namespace Go.Proofs.Ythepjghlipdcoaa
open Go.RowKit
set_option maxHeartbeats 1000000 in
theorem shape_is (m : Nat) (hm : m ≤ 64) (a : Option Addr) (cap gen : Nat) (rows : List Nat) (w : World) (hf : FAt w a gen rows) (r : Bool) (hr : shapeB m gen rows = r) :
  Calls Try.prog 54 #[.int .i64 m, fval gen a rows.length cap] w fun e w' => e = .returned (.bool r) ∧ Below w.heap.size w w' := by
 have HF := Lib.hid hf
 have hgen := hf.gen
 have hlen := hf.len
 have HR := Lib.hid hr
 have hB0 : Below w.heap.size w (w.alloc (.cells #[.int .u64 (gen : Int), .slice a rows.length cap] 63)) := (Below.refl _ _).alloc (Nat.le_refl _) _
 have HF1 : Hid (FAt (w.alloc (.cells #[.int .u64 (gen : Int), .slice a rows.length cap] 63)) a gen rows) := hf.below hB0
 have HI : Hid (∀ s : Nat, insI (m : Int) s = insN m s) := fun s => by
  have : dimB (m : Int) = true := by simp [dimB]; omega
  rw [insI, this]; rfl
 obtain ⟨len, hl⟩ : ∃ len, rows.length = len := ⟨_, rfl⟩
 have HL := Lib.hid hl
 rw [hl] at hB0 HF1 hlen ⊢
 unfold fval
 clear hf hl hr
 by_cases hlm : len = m
 ·subst hlm
  cases hig : insN len gen
  ·have HX : Hid (false = r) := by show _ = _; rw [← HR.out, shapeB, hig]; simp
   have HG := Lib.hid hig
   clear hig
   go_enter Try.func54, Try.ntmps54
   go_wp2_with fail
   refine (inside_is len gen hgen false (by rw [HI.out]; exact HG.out) _).mono ?_
   rintro e w1 ⟨rfl, rfl⟩
   go_wp2
   go_ret
   exact ⟨rbool HX.out, hB0⟩
  ·have HG := Lib.hid hig
   clear hig
   go_enter Try.func54, Try.ntmps54
   go_wp2_with fail
   refine (inside_is len gen hgen true (by rw [HI.out]; exact HG.out) _).mono ?_
   rintro e w1 ⟨rfl, rfl⟩
   go_wp2_with fail
   go_loopw [5] (fun i wr => ∃ k : Nat, k ≤ len ∧ i = .int .i64 k ∧ Hid (∀ (i : Nat) x, i < k → rows[i]? = some x → insN len x = true) ∧ (w.alloc (.cells #[.int .u64 (gen : Int), .slice a len cap] 63)) = wr) (fun i _ => len - (intOf i).toNat)
   case atStart => exact ⟨0, Nat.zero_le _, rfl, fun i x h => by omega, rfl⟩
   case round =>
    obtain ⟨k, hk, rfl, HK, rfl⟩ := hrel
    by_cases hlt : k < len
    ·obtain ⟨ba, offa, x, rfl, hx, hx64, hba, a0⟩ := HF1.out.at_ (by rw [HL.out]; exact hlt)
     have g0 : (0 : Int) ≤ (k : Int) := by omega
     have g1 : (k : Int) < (len : Int) := by omega
     cases hin : insN len x
     ·have HX : Hid (false = r) := by show _ = _; rw [← HR.out, shapeB, all_bad hx hin]; simp
      have HIN := Lib.hid hin
      clear hin hx
      go_wp2_with fail
      refine (inside_is len x hx64 false (by rw [HI.out]; exact HIN.out) _).mono ?_
      rintro e w1 ⟨rfl, rfl⟩
      go_wp2
      go_ret
      exact ⟨rbool HX.out, hB0⟩
     ·have HN : Hid (∀ (i : Nat) y, i < k + 1 → rows[i]? = some y → insN len y = true) := fun i y hi hy => by
       by_cases e : i = k
       ·subst e; rw [hx] at hy; cases hy; exact hin
       ·exact HK.out i y (by omega) hy
      have HIN := Lib.hid hin
      clear hin hx
      go_wp2_with fail
      refine (inside_is len x hx64 true (by rw [HI.out]; exact HIN.out) _).mono ?_
      rintro e w1 ⟨rfl, rfl⟩
      go_wp2
      go_roundw
      case rel => exact ⟨k + 1, by omega, by go_num, HN, by trivial⟩
      case measure => simp [intOf]; omega
    ·have HX : Hid (true = r) := by
      show _ = _
      have e1 : shapeB len gen rows = true := by
       unfold shapeB
       rw [HG.out, all_drop HK.out (by rw [HL.out]; omega)]
       simp [HL.out]
      rw [← HR.out, e1]
     go_wp2
     go_ret
     exact ⟨rbool HX.out, hB0⟩
 ·have HX : Hid (false = r) := by
   show _ = _
   rw [← HR.out, shapeB, decide_eq_false (by rw [HL.out]; exact hlm)]; rfl
  have hne : ((len : Int) != (m : Int)) = true := by simp; omega
  clear hlm
  go_enter Try.func54, Try.ntmps54
  go_wp2
  go_ret
  exact ⟨rbool HX.out, hB0⟩
def andn (a b : Nat) : Nat := a &&& (18446744073709551615 - b)
theorem andn_bit {a b : Nat} (ha : a < 18446744073709551616) (hb : b < 18446744073709551616) (j : Nat) : (andn a b).testBit j = (a.testBit j && !b.testBit j) := by
 unfold andn
 rw [Nat.testBit_and, not_bit _ _ hb]
 cases h : a.testBit j
 ·rfl
 ·simp [bit_lt ha h]
theorem andn_go (a b : Nat) (ha : a < 18446744073709551616) (hb : b < 18446744073709551616) : bits BinOp.andNot IntKind.u64 (a : Int) (b : Int) = ((andn a b : Nat) : Int) := u64_andNot_nat a b ha hb
def canonL (gen : Nat) (rows : List Nat) : List Nat := rows.map fun r => andn r gen
theorem canonL_length (gen : Nat) (rows : List Nat) : (canonL gen rows).length = rows.length := by simp [canonL]
theorem canonL_take {gen : Nat} {rows : List Nat} {k x : Nat} (h : rows[k]? = some x) : (canonL gen rows).take (k + 1) = (canonL gen rows).take k ++ [andn x gen] := by
 have h2 : (canonL gen rows)[k]? = some (andn x gen) := by simp [canonL, h]
 obtain ⟨hk, e⟩ := List.getElem?_eq_some_iff.1 h2
 rw [List.take_succ_eq_append_getElem hk, e]
theorem infoU : (Try.prog.info? 60).map (fun i => (i.zero, i.size, i.bytes)) = some (some (.int .u64 0), 1, 8) := by kernel_rfl
theorem two_cells {w : World} {B : Nat} {a b : Value} {T : TypeId} (h : w.heap[B]? = some (.cells #[a, b] T (0, 0))) :
  w.cell? ⟨B, 0, none⟩ = some a ∧ w.cell? ⟨B, 1, none⟩ = some b ∧ (∀ j, w.frozen? ⟨B, j, none⟩ = false) :=
 ⟨by simp [World.cell?, h], by simp [World.cell?, h], fun j => by simp [World.frozen?, h]⟩
theorem two_set1 {w : World} {B : Nat} {a b c : Value} {T : TypeId} (h : w.heap[B]? = some (.cells #[a, b] T (0, 0))) : (w.setCell ⟨B, 1, none⟩ c).heap[B]? = some (.cells #[a, c] T (0, 0)) := heap_setCell_same w B 1 _ _ _ h
theorem two_set0 {w : World} {B : Nat} {a b c : Value} {T : TypeId} (h : w.heap[B]? = some (.cells #[a, b] T (0, 0))) : (w.setCell ⟨B, 0, none⟩ c).heap[B]? = some (.cells #[c, b] T (0, 0)) := heap_setCell_same w B 0 _ _ _ h
theorem heap_other {w : World} {B C j : Nat} {c : Value} {o : Obj} (h : w.heap[C]? = some o) (hne : C ≠ B) : (w.setCell ⟨B, j, none⟩ c).heap[C]? = some o := (Below.heap_setCell _ _ _ _ hne).trans h
theorem heap_old {w w' : World} {C : Nat} {o : Obj} (h : w.heap[C]? = some o) (hb : Below w.heap.size w w') : w'.heap[C]? = some o := (hb.block C (Array.getElem?_eq_some_iff.1 h).1).trans h
theorem heap_allocd {w : World} {C : Nat} {o : Obj} (h : w.heap[C]? = some o) (o' : Obj) : (w.alloc o').heap[C]? = some o := (Below.heap_alloc _ _ _ (Array.getElem?_eq_some_iff.1 h).1).trans h
theorem not_row {w : World} {B : Nat} {cs : Array Value} {T E : TypeId} (h : w.heap[B]? = some (.cells cs T (0, 0))) (hTE : T ≠ E) {base size k : Nat} {v : Value} {xs : List Value} (hr : w.ownsRow base E size v k xs) : some B ≠ v.ownBlock := by
 rcases hr.2 with ⟨rfl, _⟩ | ⟨g, cap, cur, rfl, _, hgb, _⟩
 ·simp [Value.ownBlock]
 ·intro e'
  obtain rfl : B = g := by simpa [Value.ownBlock] using e'
  have := h.symm.trans hgb
  simp at this
  exact hTE this.2
theorem heap_grown {w w' : World} {B : Nat} {cs : Array Value} {T E : TypeId} (h : w.heap[B]? = some (.cells cs T (0, 0))) (hTE : T ≠ E) {base size k : Nat} {v : Value} {xs : List Value} (hr : w.ownsRow base E size v k xs) (hg : w.grownBy w' v.ownBlock) : w'.heap[B]? = some (.cells cs T (0, 0)) :=
 (hg.block B (Array.getElem?_eq_some_iff.1 h).1 (fun e => not_row h hTE hr e)).trans h
theorem grownBy_set (W : World) (b j : Nat) (v : Value) : W.grownBy (W.setCell ⟨b, j, none⟩ v) (some b) :=
 ⟨rfl, rfl, rfl, (KeepsWalks.setCell W _ v).size, fun k _ hk => Below.heap_setCell _ _ _ k (fun e => hk (by rw [e]))⟩
theorem vrow_set {w : World} {a : Option Addr} {vs : List Value} (h : VRow w a vs) {B j : Nat} {v : Value} (hne : ∀ ad, a = some ad → ad.block ≠ B) : VRow (w.setCell ⟨B, j, none⟩ v) a vs := by
 rcases h with h | ⟨b, off, ha, hc⟩
 ·exact .inl h
 ·refine .inr ⟨b, off, ha, fun i x hi => ?_⟩
  rw [← hc i x hi]
  unfold World.cell?
  rw [Below.heap_setCell _ _ _ _ (hne _ ha)]
def FOne (gen : Nat) (rows : List Nat) (w : World) (e : Ending) (w' : World) : Prop :=
 ∃ a cap, e = .returned (fval gen a rows.length cap) ∧ VRow w' a (u64s rows) ∧ (∀ ad, a = some ad → w.heap.size ≤ ad.block ∧ ad.block < w'.heap.size) ∧ Below w.heap.size w w'
set_option maxHeartbeats 2000000 in
theorem canonR_is (a : Option Addr) (cap gen : Nat) (rows : List Nat) (w : World) (hf : FAt w a gen rows) (ys : List Nat) (hys : canonL gen rows = ys) :
  Calls Try.prog 56 #[fval gen a rows.length cap] w (FOne gen ys w) := by
 have HF := Lib.hid hf
 have hgen := hf.gen
 have hlen := hf.len
 have HY := Lib.hid hys
 obtain ⟨i0, hi, hz0, hz1, hz2⟩ := info_parts infoU
 obtain ⟨len, hl⟩ : ∃ len, rows.length = len := ⟨_, rfl⟩
 have HL := Lib.hid hl
 rw [hl] at hlen ⊢
 unfold fval
 clear hf hl hys
 go_enter Try.func56, Try.ntmps56
 go_wp2_with fail
 go_loopw [4] (fun i wr => ∃ (k : Nat) (v : Value), k ≤ len ∧ i = .int .i64 k ∧ Hid (wr.heap[w.heap.size]? = some (.cells #[.int .u64 (gen : Int), .slice a len cap] 63 (0, 0))) ∧ Hid (wr.heap[w.heap.size + 1]? = some (.cells #[.int .u64 0, .slice none 0 0] 63 (0, 0))) ∧ Hid (wr.heap[w.heap.size + 1 + 1]? = some (.cells #[.int .u64 (gen : Int), v] 63 (0, 0))) ∧ Hid (wr.ownsRow w.heap.size 60 1 v k (u64s (ys.take k))) ∧ Below w.heap.size w wr) (fun i _ => len - (intOf i).toNat)
 case atStart =>
  refine ⟨0, .slice none 0 0, Nat.zero_le _, rfl, ?_, ?_, ?_, World.ownsRow_nil _ _ _ _, (((Below.refl _ _).alloc (Nat.le_refl _) _).alloc (by simp) _).alloc (by simp; omega) _⟩
  ·show _ = _
   exact heap_allocd (heap_allocd (heapV_new _ _) _) _
  ·show _ = _
   have := heap_allocd (heapV_new (w.alloc (.cells #[.int .u64 (gen : Int), .slice a len cap] 63)) (.cells #[.int .u64 0, .slice none 0 0] 63)) (.cells #[.int .u64 (gen : Int), .slice none 0 0] 63)
   rwa [World.size_alloc] at this
  ·show _ = _
   have := heapV_new ((w.alloc (.cells #[.int .u64 (gen : Int), .slice a len cap] 63)).alloc (.cells #[.int .u64 0, .slice none 0 0] 63)) (.cells #[.int .u64 (gen : Int), .slice none 0 0] 63)
   rwa [World.size_alloc, World.size_alloc] at this
 case round =>
  obtain ⟨k, v, hk, rfl, B0, B1, B2, HO, hb⟩ := hrel
  obtain ⟨c0, c1, cf⟩ := two_cells B0.out
  obtain ⟨e0, e1, ef⟩ := two_cells B2.out
  have ef1 := ef 1
  by_cases hlt : k < len
  ·obtain ⟨ba, offa, x, rfl, hx, hx64, hba, a0⟩ := (HF.out.below hb).at_ (by rw [HL.out]; exact hlt)
   have g0 : (0 : Int) ≤ (k : Int) := by omega
   have g1 : (k : Int) < (len : Int) := by omega
   have hag := andn_go x gen hx64 hgen
   obtain ⟨y, hy⟩ : ∃ y, andn x gen = y := ⟨_, rfl⟩
   rw [hy] at hag
   have HT : Hid (ys.take (k + 1) = ys.take k ++ [y]) := by show _ = _; rw [← HY.out, canonL_take hx, hy]
   clear hx hy cf ef
   go_wp2_with fail
   have q1 : (wr.alloc (.cells #[.int .u64 (y : Int)] 60)).cell? ⟨w.heap.size + 1 + 1, 1, none⟩ = some v := (two_cells (heap_allocd B2.out _)).2.1
   go_region_law (first | (refine step_append_lies (wr.drew.alloc (.cells #[.int .u64 (y : Int)] 60)) ?_ (.tmp 16) (.tmp 25) 61 ?_ w.heap.size 60 i0 _ 1 8 Try.underlying61 hi hz0 hz1 hz2 ?_ ?_ v k (u64s (ys.take k)) ?_ ?_ ⟨wr.heap.size, 0, none⟩ 1 1 [.int .u64 (y : Int)] ?_ ?_ ?_ ?_ ?_ ?_ ?_ ?_ (wr.heap.size + 1) ?_ ?_; rfl; rfl; rfl; omega; rfl; exact (HO.out : (wr.drew).ownsRow _ _ _ _ _ _).alloc _; rfl; rfl; exact (World.news_of_block (cs := #[.int .u64 (y : Int)]) (t := 60) (fr := (0, 0)) (heapV_new wr.drew _)); simp [Value.oneCell']; omega; (unfold maxLen; omega); omega; (have := hb.size; simp; omega); simp; intro gg cp w5 hown1 hgrow hat hlt5; have hB4 : Below w.heap.size w w5 := (hb.drew.alloc hb.size _).grown hgrow (by have := hb.size; simp; omega) (fun j e => (HO.out.lt j e).1); have D0 := Lib.hid (heap_grown (heap_allocd (w := wr.drew) B0.out (.cells #[.int .u64 (y : Int)] 60)) (by decide) ((HO.out : (wr.drew).ownsRow _ _ _ _ _ _).alloc _) hgrow); have D1 := Lib.hid (heap_grown (heap_allocd (w := wr.drew) B1.out (.cells #[.int .u64 (y : Int)] 60)) (by decide) ((HO.out : (wr.drew).ownsRow _ _ _ _ _ _).alloc _) hgrow); have D2 := Lib.hid (heap_grown (heap_allocd (w := wr.drew) B2.out (.cells #[.int .u64 (y : Int)] 60)) (by decide) ((HO.out : (wr.drew).ownsRow _ _ _ _ _ _).alloc _) hgrow); obtain ⟨_, d1, df⟩ := two_cells D2.out; have df1 := df 1; clear df) | fail)
   all_goals
    have HO5 := Lib.hid (show (w5.setCell ⟨w.heap.size + 1 + 1, 1, none⟩ (.slice (some ⟨gg, 0, none⟩) (k + 1) cp)).ownsRow w.heap.size 60 1 (.slice (some ⟨gg, 0, none⟩) (k + 1) cp) (k + 1) (u64s (ys.take (k + 1))) by
     rw [HT.out, u64s_snoc]; exact hown1.kept (grownBy_set w5 _ _ _) (.inr (not_row D2.out (by decide) hown1).symm))
    have N0 := Lib.hid (heap_other (B := w.heap.size + 1 + 1) (j := 1) (c := .slice (some ⟨gg, 0, none⟩) (k + 1) cp) D0.out (by omega))
    have N1 := Lib.hid (heap_other (B := w.heap.size + 1 + 1) (j := 1) (c := .slice (some ⟨gg, 0, none⟩) (k + 1) cp) D1.out (by omega))
    have N2 := Lib.hid (two_set1 (c := .slice (some ⟨gg, 0, none⟩) (k + 1) cp) D2.out)
    have NB := Lib.hid (hB4.setCell (p := ⟨w.heap.size + 1 + 1, 1, none⟩) (by simp; omega) (.slice (some ⟨gg, 0, none⟩) (k + 1) cp))
    clear hown1 hgrow hat d1 df1 q1 c0 c1 e0 e1 ef1
    go_wp2
    go_roundw
    case rel => exact ⟨k + 1, _, by omega, by go_num, N0, N1, N2, HO5, NB.out⟩
    case measure => simp [intOf]; omega
  ·obtain rfl : k = len := by omega
   obtain ⟨r0, r1, rf⟩ := two_cells B1.out
   have rf0 := rf 0; have rf1 := rf 1
   have HYL : Hid (ys.length = k) := by show _ = _; rw [← HY.out, canonL_length, HL.out]
   have HO2 : Hid (wr.ownsRow w.heap.size 60 1 v k (u64s ys)) := by
    have := HO.out
    rwa [List.take_of_length_le (by rw [HYL.out]; exact Nat.le_refl _)] at this
   obtain ⟨hvn, a3, cap3, hv3, hr3, hf3⟩ := VRow.of_own HO2.out
   subst hv3
   have HR3 := Lib.hid hr3; have HF3 := Lib.hid hf3
   have N1 := Lib.hid (two_set1 (c := .slice a3 (u64s ys).length cap3) (two_set0 (c := .int .u64 (gen : Int)) B1.out))
   have NR := Lib.hid (vrow_set (vrow_set HR3.out (B := w.heap.size + 1) (j := 0) (v := .int .u64 (gen : Int)) (fun ad e x => not_row B1.out (by decide) HO2.out (by rw [e]; show _ = some _; rw [x]))) (B := w.heap.size + 1) (j := 1) (v := .slice a3 (u64s ys).length cap3) (fun ad e x => not_row B1.out (by decide) HO2.out (by rw [e]; show _ = some _; rw [x])))
   have NB := Lib.hid ((hb.setCell (p := ⟨w.heap.size + 1, 0, none⟩) (by simp) (.int .u64 (gen : Int))).setCell (p := ⟨w.heap.size + 1, 1, none⟩) (by simp) (.slice a3 (u64s ys).length cap3))
   obtain ⟨s0, s1, _⟩ := two_cells N1.out
   clear cf ef hvn hr3 hf3
   go_wp2
   refine bodyPost_ret (v := .agg #[.int .u64 (gen : Int), .slice a3 (u64s ys).length cap3]) ?_ rfl ⟨a3, cap3, by rw [fval, u64s_length], NR.out, fun ad e => ⟨(HF3.out ad e).1, by simpa [World.setCell] using (HF3.out ad e).2⟩, NB.out⟩
   simp [results, Try.results56, go_sem, s0, s1]
end Go.Proofs.Ythepjghlipdcoaa
namespace Go.Proofs.Ythepjghlipdcoaa
open Go.RowKit
def URow (w : World) (a : Option Addr) (xs : List Nat) : Prop := VRow w a (u64s xs)
theorem URow.at_ {w : World} {a : Option Addr} {xs : List Nat} (h : URow w a xs) {i : Nat} (hi : i < xs.length) :
  ∃ b off r, a = some ⟨b, off, none⟩ ∧ xs[i]? = some r ∧ b < w.heap.size ∧ w.cell? ⟨b, off + i, none⟩ = some (.int .u64 (r : Int)) := by
 obtain ⟨b, off, v, ha, hv, hb, hc⟩ := VRow.at_ h (i := i) (by rw [u64s_length]; exact hi)
 obtain ⟨r, hr, rfl⟩ := u64s_at hv
 exact ⟨b, off, r, ha, hr, hb, hc⟩
theorem list_eq_of {xs ys : List Nat} (hl : xs.length = ys.length) (h : ∀ (i x y : Nat), xs[i]? = some x → ys[i]? = some y → x = y) : xs = ys := by
 apply List.ext_getElem hl
 intro i h1 h2
 exact h i _ _ (List.getElem?_eq_getElem h1) (List.getElem?_eq_getElem h2)
def sameB (ga : Nat) (xs : List Nat) (gb : Nat) (ys : List Nat) : Bool := ga == gb && xs == ys
theorem two_boxes (w : World) (a b : Array Value) (T : TypeId) : ((w.alloc (.cells a T)).alloc (.cells b T)).heap[w.heap.size]? = some (.cells a T (0, 0)) ∧ ((w.alloc (.cells a T)).alloc (.cells b T)).heap[w.heap.size + 1]? = some (.cells b T (0, 0)) := by
 refine ⟨heap_allocd (heapV_new _ _) _, ?_⟩
 have := heapV_new (w.alloc (.cells a T)) (.cells b T)
 rwa [World.size_alloc] at this
set_option maxHeartbeats 1000000 in
theorem sameR_is (a b : Option Addr) (capa capb ga gb : Nat) (xs ys : List Nat) (w : World) (hx : xs.length ≤ 100) (hy : ys.length ≤ 100) (hra : URow w a xs) (hrb : URow w b ys) (r : Bool) (hr : sameB ga xs gb ys = r) (n m : Nat) (hn : xs.length = n) (hm : ys.length = m) :
  Calls Try.prog 55 #[fval ga a n capa, fval gb b m capb] w fun e w' => e = .returned (.bool r) ∧ Below w.heap.size w w' := by
 unfold fval
 have hB0 : Below w.heap.size w ((w.alloc (.cells #[.int .u64 (ga : Int), .slice a n capa] 63)).alloc (.cells #[.int .u64 (gb : Int), .slice b m capb] 63)) := ((Below.refl _ _).alloc (Nat.le_refl _) _).alloc (by simp) _
 have HA := Lib.hid hra; have HB := Lib.hid hrb; have HN := Lib.hid hn; have HM := Lib.hid hm
 obtain ⟨t0, t1⟩ := two_boxes w #[.int .u64 (ga : Int), .slice a n capa] #[.int .u64 (gb : Int), .slice b m capb] 63
 have T0 := Lib.hid t0; have T1 := Lib.hid t1
 rw [hn] at hx; rw [hm] at hy
 by_cases hg : ga = gb
 ·subst hg
  have HR : Hid ((xs == ys) = r) := by show _ = _; rw [← hr, sameB]; simp
  clear hra hrb hr hn hm t0 t1
  by_cases hnm : n = m
  ·subst hnm
   go_enter Try.func55, Try.ntmps55
   go_wp2_with fail
   go_loopw [5] (fun i wr => ∃ k : Nat, k ≤ n ∧ i = .int .i64 k ∧ Hid (∀ i x y, i < k → xs[i]? = some x → ys[i]? = some y → x = y) ∧ Hid (wr.heap[w.heap.size]? = some (.cells #[.int .u64 (ga : Int), .slice a n capa] 63 (0, 0))) ∧ Hid (wr.heap[w.heap.size + 1]? = some (.cells #[.int .u64 (ga : Int), .slice b n capb] 63 (0, 0))) ∧ Below w.heap.size w wr) (fun i _ => n - (intOf i).toNat)
   case atStart => exact ⟨0, Nat.zero_le _, rfl, fun i x y h => by omega, T0, T1, hB0⟩
   case round =>
    obtain ⟨k, hk, rfl, HK, B0, B1, hb⟩ := hrel
    obtain ⟨c0, c1, _⟩ := two_cells B0.out
    obtain ⟨d0, d1, _⟩ := two_cells B1.out
    by_cases hlt : k < n
    ·obtain ⟨ba, offa, x, rfl, hx1, hba, a0⟩ := URow.at_ (VRow.below HA.out hb) (i := k) (by rw [HN.out]; exact hlt)
     obtain ⟨bb, offb, y, rfl, hy1, hbb, b0⟩ := URow.at_ (VRow.below HB.out hb) (i := k) (by rw [HM.out]; exact hlt)
     have g0 : (0 : Int) ≤ (k : Int) := by omega
     have g1 : (k : Int) < (n : Int) := by omega
     by_cases hxy : x = y
     ·subst hxy
      have HNX : Hid (∀ i x y, i < k + 1 → xs[i]? = some x → ys[i]? = some y → x = y) := fun i u v hi hu hv => by
       by_cases e : i = k
       ·subst e; rw [hx1] at hu; rw [hy1] at hv; cases hu; cases hv; rfl
       ·exact HK.out i u v (by omega) hu hv
      clear hx1 hy1
      go_wp2_with fail
      go_quiet (fail)
      go_wp2
      go_roundw
      case rel => exact ⟨k + 1, by omega, by go_num, HNX, B0, B1, below_drewN hb _⟩
      case measure => simp [intOf]; omega
     ·have hne : ((x : Int) != (y : Int)) = true := by simp; omega
      have HX : Hid (false = r) := by
       show _ = _
       rw [← HR.out]
       symm
       rw [beq_eq_false_iff_ne]
       rintro rfl
       rw [hx1] at hy1; cases hy1; exact hxy rfl
      clear hx1 hy1 hxy
      go_wp2_with fail
      go_quiet (fail)
      go_wp2
      go_ret
      exact ⟨rbool HX.out, below_drewN hb _⟩
    ·have HX : Hid (true = r) := by
      show _ = _
      rw [← HR.out]
      symm
      rw [beq_iff_eq]
      refine list_eq_of (by rw [HN.out, HM.out]) fun i x y hi hj => ?_
      have := (List.getElem?_eq_some_iff.1 hi).1
      rw [HN.out] at this
      exact HK.out i x y (by omega) hi hj
     go_wp2
     go_ret
     exact ⟨rbool HX.out, hb⟩
  ·have HX : Hid (false = r) := by
    show _ = _
    rw [← HR.out]
    symm
    rw [beq_eq_false_iff_ne]
    rintro rfl
    exact hnm (HN.out.symm.trans HM.out)
   have hne : ((n : Int) != (m : Int)) = true := by simp; omega
   clear hnm
   go_enter Try.func55, Try.ntmps55
   go_wp2
   go_ret
   exact ⟨rbool HX.out, hB0⟩
 ·have HR : Hid (false = r) := by show _ = _; rw [← hr, sameB, beq_eq_false_iff_ne.2 hg]; rfl
  have hne : ((ga : Int) != (gb : Int)) = true := by simp; omega
  clear hra hrb hr hn hm hg t0 t1
  go_enter Try.func55, Try.ntmps55
  go_wp2
  go_ret
  exact ⟨rbool HR.out, hB0⟩
end Go.Proofs.Ythepjghlipdcoaa
namespace Go.Proofs.Ythepjghlipdcoaa
open Go.RowKit
def clearB (gen : Nat) (rows : List Nat) : Bool := rows.all fun r => r &&& gen == 0
def checkE (n : Int) (gen : Nat) (rows : List Nat) : Int := if dimB n = true then (if (shapeB n.toNat gen rows && clearB gen rows) = true then 0 else 30) else 31
theorem andn_same {r gen : Nat} (hr : r < 18446744073709551616) (hg : gen < 18446744073709551616) : (andn r gen = r) ↔ (r &&& gen = 0) := by
 constructor
 ·intro h
  apply Nat.eq_of_testBit_eq
  intro j
  have := congrArg (fun z => Nat.testBit z j) h
  simp only [andn_bit hr hg] at this
  rw [Nat.testBit_and, Nat.zero_testBit]
  cases h1 : r.testBit j
  ·rfl
  ·rw [h1] at this; simp at this; rw [this]; rfl
 ·intro h
  apply Nat.eq_of_testBit_eq
  intro j
  rw [andn_bit hr hg]
  have := congrArg (fun z => Nat.testBit z j) h
  simp only [Nat.testBit_and, Nat.zero_testBit] at this
  cases h1 : r.testBit j
  ·rfl
  ·rw [h1] at this; simp at this; rw [this]; rfl
theorem canonL_same {gen : Nat} {rows : List Nat} (hg : gen < 18446744073709551616) (ha : ∀ r ∈ rows, r < 18446744073709551616) : (canonL gen rows == rows) = clearB gen rows := by
 rw [Bool.eq_iff_iff, beq_iff_eq]
 unfold clearB canonL
 rw [List.all_eq_true]
 constructor
 ·intro h x hx
  obtain ⟨i, hi⟩ := List.getElem?_of_mem hx
  have : (rows.map fun r => andn r gen)[i]? = some x := by rw [h]; exact hi
  rw [List.getElem?_map, hi] at this
  have h2 : andn x gen = x := Option.some.inj this
  rw [(andn_same (ha x hx) hg).1 h2]; rfl
 ·intro h
  have : ∀ r ∈ rows, andn r gen = r := fun r hr => (andn_same (ha r hr) hg).2 (by have := h r hr; simpa using this)
  conv => rhs; rw [← List.map_id rows]
  exact List.map_congr_left this
set_option maxHeartbeats 2000000 in
theorem checkR_is (n : Int) (a : Option Addr) (cap gen : Nat) (rows : List Nat) (w : World) (hf : FAt w a gen rows) (r : Int) (hr : checkE n gen rows = r) (len : Nat) (hl : rows.length = len) :
  Calls Try.prog 51 #[.int .i64 n, fval gen a len cap] w fun e w' => e = .returned (.int .i64 r) ∧ Below w.heap.size w w' := by
 have HF := Lib.hid hf
 have hgen := hf.gen
 have hlen := hf.len
 have hB0 : Below w.heap.size w (w.alloc (.cells #[.int .u64 (gen : Int), .slice a len cap] 63)) := (Below.refl _ _).alloc (Nat.le_refl _) _
 have HF1 : Hid (FAt (w.alloc (.cells #[.int .u64 (gen : Int), .slice a len cap] 63)) a gen rows) := hf.below hB0
 have T0 := Lib.hid (heapV_new w (.cells #[.int .u64 (gen : Int), .slice a len cap] 63))
 have HL := Lib.hid hl
 unfold fval
 cases hd : dimB n
 ·have HR : Hid (31 = r) := by show _ = _; rw [← hr, checkE, hd]; rfl
  have HD := Lib.hid hd
  clear hr hd hf hl
  go_enter Try.func51, Try.ntmps51
  go_wp2_with fail
  refine (dim_is n false HD.out _).mono ?_
  rintro e w1 ⟨rfl, rfl⟩
  go_wp2
  go_ret
  exact ⟨rint HR.out, hB0⟩
 ·have HD := Lib.hid hd
  obtain ⟨m, rfl, hm⟩ := dim_nat hd
  have HRR : Hid ((if (shapeB m gen rows && clearB gen rows) = true then (0 : Int) else 30) = r) := by show _ = _; rw [← hr, checkE, hd, if_pos rfl, Int.toNat_natCast]
  have hcs := canonL_same hf.gen hf.all
  have HCS := Lib.hid hcs
  have hcl := canonL_length gen rows
  obtain ⟨ys, hys⟩ : ∃ ys, canonL gen rows = ys := ⟨_, rfl⟩
  rw [hys] at HCS hcl
  have HYS := Lib.hid hys
  have HYL : Hid (ys.length = len) := hcl.trans hl
  have shp : ∀ (W : World) (b : Bool), shapeB m gen rows = b → FAt W a gen rows → Calls Try.prog 54 #[.int .i64 m, .agg #[.int .u64 (gen : Int), .slice a len cap]] W fun e w' => e = .returned (.bool b) ∧ Below W.heap.size W w' := fun W b hb hW => by
   have := shape_is m hm a cap gen rows W hW b hb
   rwa [hl] at this
  have can : ∀ (W : World), FAt W a gen rows → Calls Try.prog 56 #[.agg #[.int .u64 (gen : Int), .slice a len cap]] W (FOne gen ys W) := fun W hW => by
   have := canonR_is a cap gen rows W hW ys hys
   rwa [hl] at this
  have HSHP := Lib.hid shp; have HCAN := Lib.hid can
  rw [hl] at hlen
  have hylen : Hid (ys.length ≤ 100) := by show _ ≤ _; rw [HYL.out]; exact hlen
  have hrlen : Hid (rows.length ≤ 100) := by show _ ≤ _; rw [HL.out]; exact hlen
  clear hr hd hf hl hcs hcl hys shp can
  cases hsh : shapeB m gen rows
  ·have HR : Hid (30 = r) := by show _ = _; rw [← HRR.out, hsh]; rfl
   have HSH := Lib.hid hsh
   obtain ⟨c0, c1, _⟩ := two_cells T0.out
   clear hsh
   go_enter Try.func51, Try.ntmps51
   go_wp2_with fail
   refine (dim_is m true HD.out _).mono ?_
   rintro e w1 ⟨rfl, rfl⟩
   go_wp2_with fail
   go_region_with (go_at_call 54; refine (HSHP.out _ false HSH.out (HF1.out.below (by first | exact Below.refl _ _ | exact (Below.refl _ _).drew))).mono ?_; rintro e w3 ⟨rfl, hb3⟩; have hB3 : Below w.heap.size w w3 := hB0.trans (Below.mono (by first | exact hb3 | exact Below.trans ((Below.refl _ _).drew) hb3) hB0.size))
   all_goals
    go_wp2
    go_ret
    exact ⟨rint HR.out, hB3⟩
  ·have HSH := Lib.hid hsh
   obtain ⟨b, hb⟩ : ∃ b, clearB gen rows = b := ⟨_, rfl⟩
   have HSM : Hid (sameB gen ys gen rows = b) := by show _ = _; rw [sameB, HCS.out, hb]; simp
   have HR : Hid ((if b = true then (0 : Int) else 30) = r) := by show _ = _; rw [← HRR.out, hsh, hb]; rfl
   obtain ⟨c0, c1, _⟩ := two_cells T0.out
   clear hsh hb
   go_enter Try.func51, Try.ntmps51
   go_wp2_with fail
   refine (dim_is m true HD.out _).mono ?_
   rintro e w1 ⟨rfl, rfl⟩
   go_wp2_with fail
   go_region_with (first | (go_at_call 54; refine (HSHP.out _ true HSH.out (HF1.out.below (by first | exact Below.refl _ _ | exact (Below.refl _ _).drew))).mono ?_; rintro e w3 ⟨rfl, hb3⟩; have hB3 : Below w.heap.size w w3 := hB0.trans (Below.mono (by first | exact hb3 | exact Below.trans ((Below.refl _ _).drew) hb3) hB0.size); have HF3 := Lib.hid (HF.out.below hB3); obtain ⟨d0, d1, _⟩ := two_cells (heap_old T0.out (show Below _ _ w3 from (by first | exact hb3 | exact Below.trans ((Below.refl _ _).drew) hb3)))) | (go_at_call 56; refine (HCAN.out _ HF3.out).mono ?_; rintro e w4 ⟨a4, cap4, rfl, hr4, hf4, hb4⟩; have hB4 := hB3.trans (hb4.mono hB3.size); have HF4 := Lib.hid (HF3.out.below hb4); have HR4 := Lib.hid hr4; have k0 := (hb4.cell (p := ⟨w.heap.size, 0, none⟩) (cell_lt d0)).trans d0; have k1 := (hb4.cell (p := ⟨w.heap.size, 1, none⟩) (cell_lt d1)).trans d1) | (go_at_call 55; refine (sameR_is a4 a cap4 cap gen gen ys rows _ hylen.out hrlen.out HR4.out HF4.out.row b HSM.out _ len rfl HL.out).mono ?_; rintro e w5 ⟨rfl, hb5⟩; have hB5 := hB4.trans (hb5.mono hB4.size)))
   all_goals
    cases b
    ·go_wp2
     go_ret
     exact ⟨rint HR.out, hB5⟩
    ·go_wp2
     go_ret
     exact ⟨rint HR.out, hB5⟩
end Go.Proofs.Ythepjghlipdcoaa
namespace Go.Proofs.Ythepjghlipdcoaa
open Go.RowKit
def inside (d f : Nat) : Bool := f / 2 ^ d == 0
def kindOk (f : Nat) (k v : Int) : Bool := if k = 0 then v == 0 else if k = 1 then true else if k = 2 then v == 0 && f == 0 else false
def cellOk (d f : Nat) (k v : Int) : Bool := inside d f && kindOk f k v
end Go.Proofs.Ythepjghlipdcoaa
namespace Go.Proofs.Ythepjghlipdcoaa
open Go.RowKit
structure Cl where
 f : Nat
 k : Int
 v : Int
def CRow (w : World) (a : Option Addr) (cs : List Cl) : Prop :=
 cs = [] ∨ ∃ b off, a = some ⟨b, off, none⟩ ∧ ∀ i c, cs[i]? = some c → w.cell? ⟨b, off + i * 3, none⟩ = some (.int .u64 (c.f : Int)) ∧ w.cell? ⟨b, off + i * 3 + 1, none⟩ = some (.int .i64 c.k) ∧ w.cell? ⟨b, off + i * 3 + 2, none⟩ = some (.int .i64 c.v)
def Bits (cs : List Cl) : Prop := ∀ c, c ∈ cs → c.f < 18446744073709551616
theorem ce_cell_lt {w : World} {a : Addr} {v : Value} (h : w.cell? a = some v) : a.block < w.heap.size := by
 rcases Nat.lt_or_ge a.block w.heap.size with h' | h'
 ·exact h'
 ·simp [World.cell?, Array.getElem?_eq_none h'] at h
theorem CRow.below {w w' : World} {a : Option Addr} {cs : List Cl} (h : CRow w a cs) (hb : Below w.heap.size w w') : CRow w' a cs := by
 rcases h with h | ⟨b, off, rfl, hc⟩
 ·exact .inl h
 ·refine .inr ⟨b, off, rfl, fun i c hi => ?_⟩
  obtain ⟨h1, h2, h3⟩ := hc i c hi
  exact ⟨(hb.cell (ce_cell_lt h1)).trans h1, (hb.cell (ce_cell_lt h2)).trans h2, (hb.cell (ce_cell_lt h3)).trans h3⟩
theorem CRow.at_ {w : World} {a : Option Addr} {cs : List Cl} (h : CRow w a cs) {k : Nat} (hk : k < cs.length) :
  ∃ b off c, a = some ⟨b, off, none⟩ ∧ cs[k]? = some c ∧ b < w.heap.size ∧ w.cell? ⟨b, off + k * 3, none⟩ = some (.int .u64 (c.f : Int)) ∧ w.cell? ⟨b, off + k * 3 + 1, none⟩ = some (.int .i64 c.k) ∧ w.cell? ⟨b, off + k * 3 + 2, none⟩ = some (.int .i64 c.v) := by
 rcases h with h | ⟨b, off, rfl, hc⟩
 ·subst h; simp at hk
 ·have e : cs[k]? = some cs[k] := List.getElem?_eq_getElem hk
  obtain ⟨h1, h2, h3⟩ := hc k _ e
  exact ⟨b, off, cs[k], rfl, e, ce_cell_lt h1, h1, h2, h3⟩
def okAt (d : Nat) (c : Cl) : Bool := cellOk d c.f c.k c.v
def chkC (d : Int) (cs : List Cl) : Int := if d < 0 ∨ 64 < d then 41 else if (cs.length : Int) ≠ d then 40 else if cs.all (okAt d.toNat) then 0 else 40
end Go.Proofs.Ythepjghlipdcoaa
namespace Go.Proofs.Ythepjghlipdcoaa
open Go.RowKit
structure SF where
 tag : Int
 dim : Int
 a : Option Addr
 len : Nat
 cap : Nat
abbrev SF.val (f : SF) : Value := .agg #[.int .i64 f.tag, .int .i64 f.dim, .slice f.a f.len f.cap]
inductive SV where
 | mk (f : SF) (ps : List SV)
def SV.f : SV → SF | .mk f _ => f
def SV.ps : SV → List SV | .mk _ ps => ps
def S3 (w : World) (b o : Nat) (f : SF) : Prop := w.cell? ⟨b, o, none⟩ = some (.int .i64 f.tag) ∧ w.cell? ⟨b, o + 1, none⟩ = some (.int .i64 f.dim) ∧ w.cell? ⟨b, o + 2, none⟩ = some (.slice f.a f.len f.cap)
def SRow (w : World) (a : Option Addr) (ps : List SV) : Prop :=
 ps = [] ∨ ∃ b off, a = some ⟨b, off, none⟩ ∧ ∀ (i : Nat) p, ps[i]? = some p → S3 w b (off + i * 3) p.f
def SIn (w : World) : Nat → SV → Prop
 | 0, _ => False
 | d + 1, .mk f ps => ps.length = f.len ∧ SRow w f.a ps ∧ ∀ p ∈ ps, SIn w d p
theorem cell_old {w w' : World} {p : Addr} {v : Value} (h : w.cell? p = some v) (hb : Below w.heap.size w w') : w'.cell? p = some v := (hb.cell (cell_lt h)).trans h
theorem S3.below {w w' : World} {b o : Nat} {f : SF} (h : S3 w b o f) (hb : Below w.heap.size w w') : S3 w' b o f := ⟨cell_old h.1 hb, cell_old h.2.1 hb, cell_old h.2.2 hb⟩
theorem SRow.below {w w' : World} {a : Option Addr} {ps : List SV} (h : SRow w a ps) (hb : Below w.heap.size w w') : SRow w' a ps := by
 rcases h with h | ⟨b, off, rfl, hc⟩
 ·exact .inl h
 ·exact .inr ⟨b, off, rfl, fun i p hi => (hc i p hi).below hb⟩
theorem SIn.below {w w' : World} (hb : Below w.heap.size w w') : ∀ {d : Nat} {s : SV}, SIn w d s → SIn w' d s
 | 0, _, h => h.elim
 | d + 1, .mk f ps, ⟨h1, h2, h3⟩ => ⟨h1, h2.below hb, fun p hp => SIn.below hb (h3 p hp)⟩
structure WF where
 z : Bool
 c : Int
 g : Nat
 ra : Option Addr
 rl : Nat
 rc : Nat
 rows : List Nat
 ca : Option Addr
 cl : Nat
 cc : Nat
 cells : List Cl
 pa : Option Addr
 pl : Nat
 pc : Nat
abbrev WF.val (f : WF) : Value := .agg #[.bool f.z, .int .i64 f.c, .int .u64 (f.g : Int), .slice f.ra f.rl f.rc, .slice f.ca f.cl f.cc, .slice f.pa f.pl f.pc]
structure WF.At (w : World) (f : WF) : Prop where
 rows : VRow w f.ra (u64s f.rows)
 rl : f.rows.length = f.rl
 g64 : f.g < 18446744073709551616
 r64 : ∀ r ∈ f.rows, r < 18446744073709551616
 cells : CRow w f.ca f.cells
 cl : f.cells.length = f.cl
 bits : Bits f.cells
 cmax : f.cl ≤ maxLen
theorem WF.At.below {w w' : World} {f : WF} (h : f.At w) (hb : Below w.heap.size w w') : f.At w' := ⟨h.rows.below hb, h.rl, h.g64, h.r64, h.cells.below hb, h.cl, h.bits, h.cmax⟩
inductive WV where
 | mk (f : WF) (ps : List WV)
def WV.f : WV → WF | .mk f _ => f
def WV.ps : WV → List WV | .mk _ ps => ps
def W6 (w : World) (b o : Nat) (f : WF) : Prop := w.cell? ⟨b, o, none⟩ = some (.bool f.z) ∧ w.cell? ⟨b, o + 1, none⟩ = some (.int .i64 f.c) ∧ w.cell? ⟨b, o + 2, none⟩ = some (.int .u64 (f.g : Int)) ∧ w.cell? ⟨b, o + 3, none⟩ = some (.slice f.ra f.rl f.rc) ∧ w.cell? ⟨b, o + 4, none⟩ = some (.slice f.ca f.cl f.cc) ∧ w.cell? ⟨b, o + 5, none⟩ = some (.slice f.pa f.pl f.pc)
def PRow (w : World) (a : Option Addr) (ps : List WV) : Prop :=
 ps = [] ∨ ∃ b off, a = some ⟨b, off, none⟩ ∧ ∀ (i : Nat) p, ps[i]? = some p → W6 w b (off + i * 6) p.f
def WIn (w : World) : Nat → WV → Prop
 | 0, _ => False
 | d + 1, .mk f ps => f.At w ∧ ps.length = f.pl ∧ PRow w f.pa ps ∧ ∀ p ∈ ps, WIn w d p
theorem W6.below {w w' : World} {b o : Nat} {f : WF} (h : W6 w b o f) (hb : Below w.heap.size w w') : W6 w' b o f := ⟨cell_old h.1 hb, cell_old h.2.1 hb, cell_old h.2.2.1 hb, cell_old h.2.2.2.1 hb, cell_old h.2.2.2.2.1 hb, cell_old h.2.2.2.2.2 hb⟩
theorem PRow.below {w w' : World} {a : Option Addr} {ps : List WV} (h : PRow w a ps) (hb : Below w.heap.size w w') : PRow w' a ps := by
 rcases h with h | ⟨b, off, rfl, hc⟩
 ·exact .inl h
 ·exact .inr ⟨b, off, rfl, fun i p hi => (hc i p hi).below hb⟩
theorem WIn.below {w w' : World} (hb : Below w.heap.size w w') : ∀ {d : Nat} {s : WV}, WIn w d s → WIn w' d s
 | 0, _, h => h.elim
 | d + 1, .mk f ps, ⟨h0, h1, h2, h3⟩ => ⟨h0.below hb, h1, h2.below hb, fun p hp => WIn.below hb (h3 p hp)⟩
def plainB (t n : Int) (l : Nat) : Bool := decide (l = 0) && (if t = 1 then decide (n = 0) else if t = 2 then decide (0 ≤ n) && decide (n ≤ 1048576) else if t = 3 ∨ t = 4 then decide (0 ≤ n) && decide (n ≤ 64) else false)
theorem sbox (w : World) (v : Array Value) (T : TypeId) : Below w.heap.size w (w.alloc (.cells v T)) := (Below.refl _ _).alloc (Nat.le_refl _) _
def SV.pl (s : SV) : Bool := plainB s.f.tag s.f.dim s.f.len
def spaceE : SV → Int
 | .mk f ps => if plainB f.tag f.dim f.len = true then 0 else if f.tag = 5 ∧ f.dim = 0 ∧ ps.length = 2 ∧ ps.all SV.pl = true then 0 else 50
end Go.Proofs.Ythepjghlipdcoaa
namespace Go.Proofs.Ythepjghlipdcoaa
open Go.RowKit
theorem bcell {w : World} {B : Nat} {cs : Array Value} {T : TypeId} (h : w.heap[B]? = some (.cells cs T (0, 0))) {j : Nat} {v : Value} (hj : cs[j]? = some v) : w.cell? ⟨B, j, none⟩ = some v := by
 unfold World.cell?; simp only [h]; exact hj
theorem tri_cells {w : World} {B : Nat} {a b c : Value} {T : TypeId} (h : w.heap[B]? = some (.cells #[a, b, c] T (0, 0))) : w.cell? ⟨B, 0, none⟩ = some a ∧ w.cell? ⟨B, 1, none⟩ = some b ∧ w.cell? ⟨B, 2, none⟩ = some c := ⟨bcell h rfl, bcell h rfl, bcell h rfl⟩
theorem six_cells {w : World} {B : Nat} {a b c d e f : Value} {T : TypeId} (h : w.heap[B]? = some (.cells #[a, b, c, d, e, f] T (0, 0))) : w.cell? ⟨B, 0, none⟩ = some a ∧ w.cell? ⟨B, 1, none⟩ = some b ∧ w.cell? ⟨B, 2, none⟩ = some c ∧ w.cell? ⟨B, 3, none⟩ = some d ∧ w.cell? ⟨B, 4, none⟩ = some e ∧ w.cell? ⟨B, 5, none⟩ = some f := ⟨bcell h rfl, bcell h rfl, bcell h rfl, bcell h rfl, bcell h rfl, bcell h rfl⟩
theorem SIn.two {w : World} {d : Nat} {f : SF} {p q : SV} (h : SIn w (d + 1) (.mk f [p, q])) : f.len = 2 ∧ ∃ b off, f.a = some ⟨b, off, none⟩ ∧ b < w.heap.size ∧ S3 w b off p.f ∧ S3 w b (off + 3) q.f ∧ SIn w d p ∧ SIn w d q := by
 obtain ⟨h1, h2, h3⟩ := h
 refine ⟨h1.symm, ?_⟩
 rcases h2 with h2 | ⟨b, off, ha, hc⟩
 ·cases h2
 ·have c0 := hc 0 p rfl
  have c1 := hc 1 q rfl
  simp only [Nat.zero_mul, Nat.add_zero, Nat.one_mul] at c0 c1
  exact ⟨b, off, ha, cell_lt c0.1, c0, c1, h3 p (by simp), h3 q (by simp)⟩
theorem two_of {α : Type} {l : List α} (h : l.length = 2) : ∃ p q, l = [p, q] := by
 match l, h with
 | [p, q], _ => exact ⟨p, q, rfl⟩
theorem spaceE_flat {f : SF} {ps : List SV} (h : f.tag ≠ 5) : spaceE (.mk f ps) = if plainB f.tag f.dim f.len = true then 0 else 50 := by simp [spaceE, h]
set_option maxHeartbeats 2000000 in
theorem spaceR_flat (t n : Int) (a : Option Addr) (l c : Nat) (ht : t ≠ 5) (r : Bool) (hr : plainB t n l = r) (w : World) :
  Calls Try.prog 42 #[.agg #[.int .i64 t, .int .i64 n, .slice a l c]] w fun e w' => e = .returned (.int .i64 (if r = true then 0 else 50)) ∧ Below w.heap.size w w' := by
 have hB := Lib.hid (sbox w #[.int .i64 t, .int .i64 n, .slice a l c] 35)
 have e5 : (t == 5) = false := by simp [ht]
 by_cases ht2 : t = 1 ∨ t = 2 ∨ t = 3 ∨ t = 4
 ·by_cases hl : l = 0
  ·subst hl
   by_cases h0 : 0 ≤ n
   ·rcases ht2 with rfl | rfl | rfl | rfl
    ·by_cases hm : n = 0
     ·subst hm
      obtain rfl : true = r := by rw [← hr]; simp [plainB]
      clear hr
      go_enter Try.func42, Try.ntmps42
      go_wp2_with fail
      go_ret
      exact ⟨by simp, hB.out⟩
     ·obtain rfl : false = r := by rw [← hr]; simp [plainB]; omega
      have hm2 : (n == 0) = false := by simp [hm]
      clear hr
      go_enter Try.func42, Try.ntmps42
      go_wp2_with fail
      go_ret
      exact ⟨by simp, hB.out⟩
    ·by_cases hm : n ≤ 1048576
     ·obtain rfl : true = r := by rw [← hr]; simp [plainB, h0, hm]
      clear hr
      go_enter Try.func42, Try.ntmps42
      go_wp2_with fail
      go_ret
      exact ⟨by simp, hB.out⟩
     ·obtain rfl : false = r := by rw [← hr]; simp [plainB, hm]
      clear hr
      go_enter Try.func42, Try.ntmps42
      go_wp2_with fail
      go_ret
      exact ⟨by simp, hB.out⟩
    all_goals
     by_cases hm : n ≤ 64
     ·obtain rfl : true = r := by rw [← hr]; simp [plainB, h0, hm]
      clear hr
      go_enter Try.func42, Try.ntmps42
      go_wp2_with fail
      go_ret
      exact ⟨by simp, hB.out⟩
     ·obtain rfl : false = r := by rw [← hr]; simp [plainB, hm]
      clear hr
      go_enter Try.func42, Try.ntmps42
      go_wp2_with fail
      go_ret
      exact ⟨by simp, hB.out⟩
   ·obtain rfl : false = r := by rw [← hr]; rcases ht2 with rfl | rfl | rfl | rfl <;> simp [plainB] <;> omega
    have hn0 : (n == 0) = false := by simp; omega
    clear hr
    rcases ht2 with rfl | rfl | rfl | rfl
    all_goals
     go_enter Try.func42, Try.ntmps42
     go_wp2_with fail
     go_ret
     exact ⟨by simp, hB.out⟩
  ·obtain rfl : false = r := by rw [← hr]; simp [plainB, hl]
   have hl2 : ((l : Int) == 0) = false := by simp; omega
   clear hr
   rcases ht2 with rfl | rfl | rfl | rfl
   ·by_cases hm : n = 0
    ·subst hm
     go_enter Try.func42, Try.ntmps42
     go_wp2_with fail
     go_ret
     exact ⟨by simp, hB.out⟩
    ·have hm2 : (n == 0) = false := by simp [hm]
     go_enter Try.func42, Try.ntmps42
     go_wp2_with fail
     go_ret
     exact ⟨by simp, hB.out⟩
   all_goals
    by_cases h0 : 0 ≤ n
    ·by_cases hm : n ≤ 64
     ·have hm3 : n ≤ 1048576 := by omega
      go_enter Try.func42, Try.ntmps42
      go_wp2_with fail
      go_ret
      exact ⟨by simp, hB.out⟩
     ·by_cases hm3 : n ≤ 1048576
      all_goals
       go_enter Try.func42, Try.ntmps42
       go_wp2_with fail
       go_ret
       exact ⟨by simp, hB.out⟩
    ·go_enter Try.func42, Try.ntmps42
     go_wp2_with fail
     go_ret
     exact ⟨by simp, hB.out⟩
 ·obtain rfl : false = r := by rw [← hr]; simp only [not_or] at ht2; simp [plainB, ht2]
  have e1 : (t == 1) = false := by simp; omega
  have e2 : (t == 2) = false := by simp; omega
  have e3 : (t == 3) = false := by simp; omega
  have e4 : (t == 4) = false := by simp; omega
  clear hr ht2 ht
  go_enter Try.func42, Try.ntmps42
  go_wp2_with fail
  go_ret
  exact ⟨by simp, hB.out⟩
end Go.Proofs.Ythepjghlipdcoaa
namespace Go.Proofs.Ythepjghlipdcoaa
open Go.RowKit
def onlyB (cost facts cells parts : Bool) (f : WF) : Bool := (cost || decide (f.c = 0)) && ((facts || (decide (f.g = 0) && decide (f.rl = 0))) && ((cells || decide (f.cl = 0)) && (parts || decide (f.pl = 0))))
def bareB (t : Int) (f : WF) : Bool := onlyB (!f.z && decide (t = 2)) (!f.z && decide (t = 3)) (!f.z && decide (t = 4)) (!f.z && decide (t = 5)) f
theorem wbox (w : World) (a b : Array Value) (S T : TypeId) : Below w.heap.size w ((w.alloc (.cells a S)).alloc (.cells b T)) := ((Below.refl _ _).alloc (Nat.le_refl _) _).alloc (by simp) _
theorem two_boxes2 (w : World) (a b : Array Value) (S T : TypeId) : ((w.alloc (.cells a S)).alloc (.cells b T)).heap[w.heap.size]? = some (.cells a S (0, 0)) ∧ ((w.alloc (.cells a S)).alloc (.cells b T)).heap[w.heap.size + 1]? = some (.cells b T (0, 0)) := by
 refine ⟨heap_allocd (heapV_new w _) _, ?_⟩
 have := heapV_new (w.alloc (.cells a S)) (.cells b T)
 rwa [World.size_alloc] at this
theorem nat_eq0 (n : Nat) : ((n : Int) == 0) = decide (n = 0) := by
 rw [Bool.eq_iff_iff]; simp
theorem int_eq0 (n : Int) : (n == 0) = decide (n = 0) := by
 rw [Bool.eq_iff_iff]; simp
end Go.Proofs.Ythepjghlipdcoaa
namespace Go.Proofs.Ythepjghlipdcoaa
open Go.RowKit
def pwOk (t n : Int) (f : WF) : Bool := bareB t f && (f.z || (if t = 2 then decide (0 ≤ f.c) && decide (f.c ≤ n) else if t = 3 then decide (checkE n f.g f.rows = 0) else if t = 4 then decide (chkC n f.cells = 0) else true))
theorem plainB_tag {t n : Int} {l : Nat} (h : plainB t n l = true) : l = 0 ∧ (t = 1 ∨ t = 2 ∨ t = 3 ∨ t = 4) := by
 simp only [plainB, Bool.and_eq_true, decide_eq_true_eq] at h
 refine ⟨h.1, ?_⟩
 rcases h with ⟨_, h⟩
 by_cases h1 : t = 1
 ·exact .inl h1
 by_cases h2 : t = 2
 ·exact .inr (.inl h2)
 by_cases h3 : t = 3
 ·exact .inr (.inr (.inl h3))
 by_cases h4 : t = 4
 ·exact .inr (.inr (.inr h4))
 ·simp [h1, h2, h3, h4] at h
theorem plainB_dim {t n : Int} {l : Nat} (h : plainB t n l = true) : 0 ≤ n ∧ n ≤ 1048576 ∧ (t = 1 → n = 0) ∧ ((t = 3 ∨ t = 4) → n ≤ 64) := by
 have ht := (plainB_tag h).2
 simp only [plainB, Bool.and_eq_true, decide_eq_true_eq] at h
 rcases h with ⟨_, h⟩
 rcases ht with rfl | rfl | rfl | rfl <;> simp at h <;> omega
end Go.Proofs.Ythepjghlipdcoaa
namespace Go.Proofs.Ythepjghlipdcoaa
open Go Go.RowKit
theorem big_yes {n : Int} (h : ¬ fullE n ≠ 0) : dimB n = true ∧ n ≤ 64 := by
 have h' : fullE n = 0 := by omega
 unfold fullE at h'
 split at h'
 ·rename_i hn
  refine ⟨?_, by omega⟩
  simp only [dimB, Bool.and_eq_true, decide_eq_true_eq]; omega
 ·omega
theorem dimB_le {n : Int} (h : dimB n = true) : n ≤ 64 := by
 simp only [dimB, Bool.and_eq_true, decide_eq_true_eq] at h; omega
theorem shapeR_big (n : Int) (a : Option Addr) (len cap gen : Nat) (w : World) (hl : 100 < len) (hd : dimB n = true) :
  Calls Try.prog 54 #[.int .i64 n, .agg #[.int .u64 (gen : Int), .slice a len cap]] w (fun e w' => e = .returned (.bool false) ∧ Below w.heap.size w w') := by
 have hd2 := dimB_le hd
 refine enterF (args := [.int .i64 n, .agg #[.int .u64 (gen : Int), .slice a len cap]]) Try.func54 rfl Try.ntmps54 rfl ?_
 have hS := St.start w
 refine seqF (regF ?_)
 refine op_box (cs := [_, _]) hS rfl rfl rfl ?_
 clear hS; intro B1 W1 hS
 refine op_assign rfl rfl ?_
 refine endF (XF.thenN ?_)
 refine seqF ?_
 refine seqF (regF ?_)
 refine op_field (o' := 1) fa_63_1 rfl rfl rfl ?_
 refine op_load Try.isAgg61 rfl (cell_own (hS.at_ 0 rfl) rfl) rfl ?_
 refine op_len Try.underlying61 rfl rfl ?_
 refine op_move rfl rfl ?_
 refine op_neq rfl rfl rfl ?_
 refine op_move rfl rfl ?_
 refine op_cases (d := 11) rfl (fun hc => ?_) (fun hc => absurd (of_decide_eq_false hc) (by omega))
 have hc := of_decide_eq_true hc
 refine op_notF (d := 11) rfl rfl rfl rfl ?_
 refine op_notF (d := 11) rfl rfl rfl rfl ?_
 refine op_notF (d := 11) rfl rfl rfl rfl ?_
 refine op_notF (d := 11) rfl rfl rfl rfl ?_
 refine op_notF (d := 11) rfl rfl rfl rfl ?_
 refine op_pickT rfl rfl rfl ?_
 refine endF (XF.thenN ?_)
 refine condT rfl ?_
 refine seqF (regF ?_)
 refine op_assign rfl rfl ?_
 refine endF (XF.thenN ?_)
 refine retF ?_
 refine XF.thenR ?_
 refine XF.res (res1 Try.results54 rfl) ?_
 exact ⟨rfl, hS.below⟩
theorem checkR_big (n : Int) (a : Option Addr) (len cap gen : Nat) (w : World) (hl : 100 < len) :
  Calls Try.prog 51 #[.int .i64 n, .agg #[.int .u64 (gen : Int), .slice a len cap]] w (fun e w' => e = .returned (.int .i64 (if dimB n = true then 30 else 31)) ∧ Below w.heap.size w w') := by
 refine enterF (args := [.int .i64 n, .agg #[.int .u64 (gen : Int), .slice a len cap]]) Try.func51 rfl Try.ntmps51 rfl ?_
 have hS := St.start w
 refine seqF (regF ?_)
 refine op_box (cs := [_, _]) hS rfl rfl rfl ?_
 clear hS; intro B1 W1 hS
 refine op_assign rfl rfl ?_
 refine endF (XF.thenN ?_)
 refine seqF ?_
 refine seqF (regF ?_)
 refine op_move rfl rfl ?_
 refine op_call (vs := [_]) hS goes_53 rfl (dim_is n _ rfl _) rfl ?_
 rintro e W2 ⟨rfl, rfl⟩
 refine ⟨_, rfl, Below.refl _ _, fun hS' => ?_⟩
 clear hS; have hS := hS'; clear hS'
 refine op_not rfl rfl ?_
 refine endF (XF.thenN ?_)
 refine condF rfl (fun hc => ?_) (fun hc => ?_)
 ·have hc7 := hc; clear hc
  refine seqF (regF ?_)
  refine op_assign rfl rfl ?_
  refine endF (XF.thenN ?_)
  refine retF ?_
  refine XF.thenR ?_
  refine XF.res (res1 Try.results51 rfl) ?_
  exact ⟨by rw [if_neg (by simpa using hc7)], hS.below⟩
 ·have hc7 := hc; clear hc
  have hd : dimB n = true := by simpa using hc7
  refine skipF ?_
  refine XF.thenN ?_
  refine seqF ?_
  refine seqF ?_
  refine regB (m := 11) followsM hS (by kernel_rfl) (by kernel_rfl) rfl ?_
  refine bl_cons 1 rfl (isV _) (stab_isV _) (rgV (li := [(0, _)]) rfl (w_free rfl) ⟨g_fr (by kernel_rfl) rfl, trivial⟩ (fun w hw => rn_move rfl) (at_top rfl)) ?_
  refine bl_cons 2 rfl (isV _) (stab_isV _) (rgV (li := [(3, _)]) rfl (w_free rfl) ⟨g_fr (by kernel_rfl) rfl, trivial⟩ (fun w hw => rn_loadA (vs := [_, _]) Try.isAgg63 Try.sizeOf63 rfl (CellsAt.agree (below_agree hw 0) (Nat.zero_le _) (CellsAt.own (j := 0) (m := 2) (hS.at_ 0 rfl) rfl))) (at_top rfl)) ?_
  refine bl_cons 3 rfl (isV (.bool false)) (stab_isV _) (rg_call [isV _, isV _] rfl goes_54 (w_free rfl) ⟨p_tmp (g_dep 0 (by kernel_rfl) (at_dep rfl rfl rfl)), p_tmp (g_dep 1 (by kernel_rfl) (at_dep rfl rfl rfl)), trivial⟩ (fun vs w' hb hh => by have e := holds_isV (us := [_, _]) hh; subst e; exact (shapeR_big n a len cap gen _ hl hd).mono fun e w2 h => ⟨_, h.1, rfl, h.2⟩) (at_top rfl)) ?_
  refine bl_cons 4 rfl (isV (.bool true)) (stab_isV _) (rgVe (li := [(10, _)]) rfl (w_free rfl) ⟨g_dep 2 (by kernel_rfl) (at_dep rfl rfl rfl), trivial⟩ (fun w hw => rn_not rfl) (rfl) (at_top rfl)) ?_
  refine bl_cons 5 rfl (isV _) (stab_isV _) (rgV (li := [(11, _)]) rfl (w_free rfl) ⟨g_dep 3 (by kernel_rfl) (at_dep rfl rfl rfl), trivial⟩ (fun w hw => rn_move rfl) (at_top rfl)) ?_
  refine bl_cons 6 rfl (isV undef) (stab_isV _) (rg_no rfl (w_no 12 rfl (by kernel_rfl) (by kernel_rfl) (at_dep rfl rfl rfl) rfl) (at_top rfl)) ?_
  refine bl_cons 7 rfl (isV undef) (stab_isV _) (rg_no rfl (w_no 12 rfl (by kernel_rfl) (by kernel_rfl) (at_dep rfl rfl rfl) rfl) (at_top rfl)) ?_
  refine bl_cons 8 rfl (isV undef) (stab_isV _) (rg_no rfl (w_no 12 rfl (by kernel_rfl) (by kernel_rfl) (at_dep rfl rfl rfl) rfl) (at_top rfl)) ?_
  refine bl_cons 9 rfl (isV undef) (stab_isV _) (rg_no rfl (w_no 12 rfl (by kernel_rfl) (by kernel_rfl) (at_dep rfl rfl rfl) rfl) (at_top rfl)) ?_
  refine bl_cons 10 rfl (isV undef) (stab_isV _) (rg_no rfl (w_no 12 rfl (by kernel_rfl) (by kernel_rfl) (at_dep rfl rfl rfl) rfl) (at_top rfl)) ?_
  refine bl_cons 11 rfl (isV _) (stab_isV _) (rgV (li := [(12, _)]) rfl (w_free rfl) ⟨g_dep 4 (by kernel_rfl) (at_dep rfl rfl rfl), trivial⟩ (fun w hw => rn_pickT rfl rfl) (at_top rfl)) ?_
  refine bl_nil ?_
  intro W3 hbR hS'
  clear hS; have hS := hS'; clear hS'
  refine fin_v ?_
  refine fin_v ?_
  refine fin_v ?_
  refine fin_v ?_
  refine fin_v ?_
  refine fin_v ?_
  refine fin_v ?_
  refine fin_v ?_
  refine fin_v ?_
  refine fin_v ?_
  refine fin_v ?_
  refine fin_nil ?_
  refine XF.thenN ?_
  refine condT rfl ?_
  refine seqF (regF ?_)
  refine op_assign rfl rfl ?_
  refine endF (XF.thenN ?_)
  refine retF ?_
  refine XF.thenR ?_
  refine XF.res (res1 Try.results51 rfl) ?_
  exact ⟨by rw [if_pos hd], hS.below⟩
theorem checkE_big {n : Int} {gen : Nat} {rows : List Nat} (h : 100 < rows.length) : checkE n gen rows = (if dimB n = true then 30 else 31) := by
 unfold checkE
 by_cases hd : dimB n = true
 ·have h64 := dimB_le hd
  have e : shapeB n.toNat gen rows = false := by
   unfold shapeB
   rw [decide_eq_false (by omega)]; rfl
  rw [if_pos hd, if_pos hd, e]; rfl
 ·rw [if_neg hd, if_neg hd]
theorem checkR_any (n : Int) (a : Option Addr) (cap gen : Nat) (rows : List Nat) (w : World) {f : WF} (hf : f.At w) (r : Int) (hr : checkE n gen rows = r) (len : Nat) (hl : rows.length = len) (ha : f.ra = a := by rfl) (hg : f.g = gen := by rfl) (hrr : f.rows = rows := by rfl) :
  Calls Try.prog 51 #[.int .i64 n, .agg #[.int .u64 (gen : Int), .slice a len cap]] w fun e w' => e = .returned (.int .i64 r) ∧ Below w.heap.size w w' := by
 subst ha; subst hg; subst hrr
 by_cases h : f.rows.length ≤ 100
 ·exact checkR_is n _ cap _ _ w ⟨hf.rows, hf.g64, hf.r64, h⟩ r hr len hl
 ·rw [← hr, checkE_big (by omega)]
  exact checkR_big n _ len cap _ w (by omega)
end Go.Proofs.Ythepjghlipdcoaa
namespace Go.Proofs.Ythepjghlipdcoaa
open Go.RowKit
theorem plainR_0 (f : WF) (r : Bool) (hr : onlyB false false false false f = r) (w : World) :
  Calls Try.prog 50 #[f.val, .bool false, .bool false, .bool false, .bool false] w fun e w' => e = .returned (.bool r) ∧ Below w.heap.size w w' := by
 obtain ⟨z, c, g, ra, rl, rc, rows, ca, cl, cc, cells, pa, pl, pc⟩ := f
 show Calls Try.prog 50 #[.agg #[.bool z, .int .i64 c, .int .u64 (g : Int), .slice ra rl rc, .slice ca cl cc, .slice pa pl pc], .bool false, .bool false, .bool false, .bool false] w _
 have hB := Lib.hid (sbox w #[.bool z, .int .i64 c, .int .u64 (g : Int), .slice ra rl rc, .slice ca cl cc, .slice pa pl pc] 67)
 obtain ⟨b1, h1⟩ : ∃ b, (c == 0) = b := ⟨_, rfl⟩
 obtain ⟨b2, h2⟩ : ∃ b, ((g : Int) == 0) = b := ⟨_, rfl⟩
 obtain ⟨b3, h3⟩ : ∃ b, ((rl : Int) == 0) = b := ⟨_, rfl⟩
 obtain ⟨b4, h4⟩ : ∃ b, ((cl : Int) == 0) = b := ⟨_, rfl⟩
 obtain ⟨b5, h5⟩ : ∃ b, ((pl : Int) == 0) = b := ⟨_, rfl⟩
 have HR : Hid (((false || b1) && ((false || (b2 && b3)) && ((false || b4) && (false || b5)))) = r) := by
  show _ = _
  rw [← hr, ← h1, ← h2, ← h3, ← h4, ← h5, nat_eq0, nat_eq0, nat_eq0, nat_eq0, int_eq0]; rfl
 clear hr
 cases b1
 ·go_enter Try.func50, Try.ntmps50
  go_wp2_with fail
  go_ret
  exact ⟨rbool (by rw [← HR.out]; simp), hB.out⟩
 cases b2
 ·go_enter Try.func50, Try.ntmps50
  go_wp2_with fail
  go_ret
  exact ⟨rbool (by rw [← HR.out]; simp), hB.out⟩
 cases b3
 ·go_enter Try.func50, Try.ntmps50
  go_wp2_with fail
  go_ret
  exact ⟨rbool (by rw [← HR.out]; simp), hB.out⟩
 cases b4
 ·go_enter Try.func50, Try.ntmps50
  go_wp2_with fail
  go_ret
  exact ⟨rbool (by rw [← HR.out]; simp), hB.out⟩
 cases b5
 ·go_enter Try.func50, Try.ntmps50
  go_wp2_with fail
  go_ret
  exact ⟨rbool (by rw [← HR.out]; simp), hB.out⟩
 go_enter Try.func50, Try.ntmps50
 go_wp2_with fail
 go_ret
 exact ⟨rbool (by rw [← HR.out]; simp), hB.out⟩
theorem plainR_1 (f : WF) (r : Bool) (hr : onlyB true false false false f = r) (w : World) :
  Calls Try.prog 50 #[f.val, .bool true, .bool false, .bool false, .bool false] w fun e w' => e = .returned (.bool r) ∧ Below w.heap.size w w' := by
 obtain ⟨z, c, g, ra, rl, rc, rows, ca, cl, cc, cells, pa, pl, pc⟩ := f
 show Calls Try.prog 50 #[.agg #[.bool z, .int .i64 c, .int .u64 (g : Int), .slice ra rl rc, .slice ca cl cc, .slice pa pl pc], .bool true, .bool false, .bool false, .bool false] w _
 have hB := Lib.hid (sbox w #[.bool z, .int .i64 c, .int .u64 (g : Int), .slice ra rl rc, .slice ca cl cc, .slice pa pl pc] 67)
 obtain ⟨b1, h1⟩ : ∃ b, (c == 0) = b := ⟨_, rfl⟩
 obtain ⟨b2, h2⟩ : ∃ b, ((g : Int) == 0) = b := ⟨_, rfl⟩
 obtain ⟨b3, h3⟩ : ∃ b, ((rl : Int) == 0) = b := ⟨_, rfl⟩
 obtain ⟨b4, h4⟩ : ∃ b, ((cl : Int) == 0) = b := ⟨_, rfl⟩
 obtain ⟨b5, h5⟩ : ∃ b, ((pl : Int) == 0) = b := ⟨_, rfl⟩
 have HR : Hid (((true || b1) && ((false || (b2 && b3)) && ((false || b4) && (false || b5)))) = r) := by
  show _ = _
  rw [← hr, ← h1, ← h2, ← h3, ← h4, ← h5, nat_eq0, nat_eq0, nat_eq0, nat_eq0, int_eq0]; rfl
 clear hr
 cases b2
 ·go_enter Try.func50, Try.ntmps50
  go_wp2_with fail
  go_ret
  exact ⟨rbool (by rw [← HR.out]; simp), hB.out⟩
 cases b3
 ·go_enter Try.func50, Try.ntmps50
  go_wp2_with fail
  go_ret
  exact ⟨rbool (by rw [← HR.out]; simp), hB.out⟩
 cases b4
 ·go_enter Try.func50, Try.ntmps50
  go_wp2_with fail
  go_ret
  exact ⟨rbool (by rw [← HR.out]; simp), hB.out⟩
 cases b5
 ·go_enter Try.func50, Try.ntmps50
  go_wp2_with fail
  go_ret
  exact ⟨rbool (by rw [← HR.out]; simp), hB.out⟩
 go_enter Try.func50, Try.ntmps50
 go_wp2_with fail
 go_ret
 exact ⟨rbool (by rw [← HR.out]; simp), hB.out⟩
theorem plainR_2 (f : WF) (r : Bool) (hr : onlyB false true false false f = r) (w : World) :
  Calls Try.prog 50 #[f.val, .bool false, .bool true, .bool false, .bool false] w fun e w' => e = .returned (.bool r) ∧ Below w.heap.size w w' := by
 obtain ⟨z, c, g, ra, rl, rc, rows, ca, cl, cc, cells, pa, pl, pc⟩ := f
 show Calls Try.prog 50 #[.agg #[.bool z, .int .i64 c, .int .u64 (g : Int), .slice ra rl rc, .slice ca cl cc, .slice pa pl pc], .bool false, .bool true, .bool false, .bool false] w _
 have hB := Lib.hid (sbox w #[.bool z, .int .i64 c, .int .u64 (g : Int), .slice ra rl rc, .slice ca cl cc, .slice pa pl pc] 67)
 obtain ⟨b1, h1⟩ : ∃ b, (c == 0) = b := ⟨_, rfl⟩
 obtain ⟨b2, h2⟩ : ∃ b, ((g : Int) == 0) = b := ⟨_, rfl⟩
 obtain ⟨b3, h3⟩ : ∃ b, ((rl : Int) == 0) = b := ⟨_, rfl⟩
 obtain ⟨b4, h4⟩ : ∃ b, ((cl : Int) == 0) = b := ⟨_, rfl⟩
 obtain ⟨b5, h5⟩ : ∃ b, ((pl : Int) == 0) = b := ⟨_, rfl⟩
 have HR : Hid (((false || b1) && ((true || (b2 && b3)) && ((false || b4) && (false || b5)))) = r) := by
  show _ = _
  rw [← hr, ← h1, ← h2, ← h3, ← h4, ← h5, nat_eq0, nat_eq0, nat_eq0, nat_eq0, int_eq0]; rfl
 clear hr
 cases b1
 ·go_enter Try.func50, Try.ntmps50
  go_wp2_with fail
  go_ret
  exact ⟨rbool (by rw [← HR.out]; simp), hB.out⟩
 cases b4
 ·go_enter Try.func50, Try.ntmps50
  go_wp2_with fail
  go_ret
  exact ⟨rbool (by rw [← HR.out]; simp), hB.out⟩
 cases b5
 ·go_enter Try.func50, Try.ntmps50
  go_wp2_with fail
  go_ret
  exact ⟨rbool (by rw [← HR.out]; simp), hB.out⟩
 go_enter Try.func50, Try.ntmps50
 go_wp2_with fail
 go_ret
 exact ⟨rbool (by rw [← HR.out]; simp), hB.out⟩
theorem plainR_3 (f : WF) (r : Bool) (hr : onlyB false false true false f = r) (w : World) :
  Calls Try.prog 50 #[f.val, .bool false, .bool false, .bool true, .bool false] w fun e w' => e = .returned (.bool r) ∧ Below w.heap.size w w' := by
 obtain ⟨z, c, g, ra, rl, rc, rows, ca, cl, cc, cells, pa, pl, pc⟩ := f
 show Calls Try.prog 50 #[.agg #[.bool z, .int .i64 c, .int .u64 (g : Int), .slice ra rl rc, .slice ca cl cc, .slice pa pl pc], .bool false, .bool false, .bool true, .bool false] w _
 have hB := Lib.hid (sbox w #[.bool z, .int .i64 c, .int .u64 (g : Int), .slice ra rl rc, .slice ca cl cc, .slice pa pl pc] 67)
 obtain ⟨b1, h1⟩ : ∃ b, (c == 0) = b := ⟨_, rfl⟩
 obtain ⟨b2, h2⟩ : ∃ b, ((g : Int) == 0) = b := ⟨_, rfl⟩
 obtain ⟨b3, h3⟩ : ∃ b, ((rl : Int) == 0) = b := ⟨_, rfl⟩
 obtain ⟨b4, h4⟩ : ∃ b, ((cl : Int) == 0) = b := ⟨_, rfl⟩
 obtain ⟨b5, h5⟩ : ∃ b, ((pl : Int) == 0) = b := ⟨_, rfl⟩
 have HR : Hid (((false || b1) && ((false || (b2 && b3)) && ((true || b4) && (false || b5)))) = r) := by
  show _ = _
  rw [← hr, ← h1, ← h2, ← h3, ← h4, ← h5, nat_eq0, nat_eq0, nat_eq0, nat_eq0, int_eq0]; rfl
 clear hr
 cases b1
 ·go_enter Try.func50, Try.ntmps50
  go_wp2_with fail
  go_ret
  exact ⟨rbool (by rw [← HR.out]; simp), hB.out⟩
 cases b2
 ·go_enter Try.func50, Try.ntmps50
  go_wp2_with fail
  go_ret
  exact ⟨rbool (by rw [← HR.out]; simp), hB.out⟩
 cases b3
 ·go_enter Try.func50, Try.ntmps50
  go_wp2_with fail
  go_ret
  exact ⟨rbool (by rw [← HR.out]; simp), hB.out⟩
 cases b5
 ·go_enter Try.func50, Try.ntmps50
  go_wp2_with fail
  go_ret
  exact ⟨rbool (by rw [← HR.out]; simp), hB.out⟩
 go_enter Try.func50, Try.ntmps50
 go_wp2_with fail
 go_ret
 exact ⟨rbool (by rw [← HR.out]; simp), hB.out⟩
theorem plainR_4 (f : WF) (r : Bool) (hr : onlyB false false false true f = r) (w : World) :
  Calls Try.prog 50 #[f.val, .bool false, .bool false, .bool false, .bool true] w fun e w' => e = .returned (.bool r) ∧ Below w.heap.size w w' := by
 obtain ⟨z, c, g, ra, rl, rc, rows, ca, cl, cc, cells, pa, pl, pc⟩ := f
 show Calls Try.prog 50 #[.agg #[.bool z, .int .i64 c, .int .u64 (g : Int), .slice ra rl rc, .slice ca cl cc, .slice pa pl pc], .bool false, .bool false, .bool false, .bool true] w _
 have hB := Lib.hid (sbox w #[.bool z, .int .i64 c, .int .u64 (g : Int), .slice ra rl rc, .slice ca cl cc, .slice pa pl pc] 67)
 obtain ⟨b1, h1⟩ : ∃ b, (c == 0) = b := ⟨_, rfl⟩
 obtain ⟨b2, h2⟩ : ∃ b, ((g : Int) == 0) = b := ⟨_, rfl⟩
 obtain ⟨b3, h3⟩ : ∃ b, ((rl : Int) == 0) = b := ⟨_, rfl⟩
 obtain ⟨b4, h4⟩ : ∃ b, ((cl : Int) == 0) = b := ⟨_, rfl⟩
 obtain ⟨b5, h5⟩ : ∃ b, ((pl : Int) == 0) = b := ⟨_, rfl⟩
 have HR : Hid (((false || b1) && ((false || (b2 && b3)) && ((false || b4) && (true || b5)))) = r) := by
  show _ = _
  rw [← hr, ← h1, ← h2, ← h3, ← h4, ← h5, nat_eq0, nat_eq0, nat_eq0, nat_eq0, int_eq0]; rfl
 clear hr
 cases b1
 ·go_enter Try.func50, Try.ntmps50
  go_wp2_with fail
  go_ret
  exact ⟨rbool (by rw [← HR.out]; simp), hB.out⟩
 cases b2
 ·go_enter Try.func50, Try.ntmps50
  go_wp2_with fail
  go_ret
  exact ⟨rbool (by rw [← HR.out]; simp), hB.out⟩
 cases b3
 ·go_enter Try.func50, Try.ntmps50
  go_wp2_with fail
  go_ret
  exact ⟨rbool (by rw [← HR.out]; simp), hB.out⟩
 cases b4
 ·go_enter Try.func50, Try.ntmps50
  go_wp2_with fail
  go_ret
  exact ⟨rbool (by rw [← HR.out]; simp), hB.out⟩
 go_enter Try.func50, Try.ntmps50
 go_wp2_with fail
 go_ret
 exact ⟨rbool (by rw [← HR.out]; simp), hB.out⟩
end Go.Proofs.Ythepjghlipdcoaa
namespace Go.Proofs.Ythepjghlipdcoaa
open Go.RowKit
theorem inside_ins {m s : Nat} (hm : m ≤ 64) (hs : s < 18446744073709551616) : insN m s = inside m s := by
 rw [Bool.eq_iff_iff, insN_iff hm hs, inside, beq_iff_eq, Nat.div_eq_zero_iff_lt (Nat.two_pow_pos m)]
set_option maxHeartbeats 2000000 in
theorem cellR_is (m : Nat) (hm : m ≤ 64) (f : Nat) (k v : Int) (hf : f < 18446744073709551616) (r : Bool) (hr : okAt m ⟨f, k, v⟩ = r) (w : World) :
  Calls Try.prog 52 #[.int .i64 m, .agg #[.int .u64 f, .int .i64 k, .int .i64 v]] w fun e w' => e = .returned (.bool r) ∧ Below w.heap.size w w' := by
 have hB := Lib.hid (sbox w #[.int .u64 f, .int .i64 k, .int .i64 v] 111)
 obtain ⟨i, hi⟩ : ∃ i, inside m f = i := ⟨_, rfl⟩
 have HI : Hid (insI m f = i) := by
  show _ = _
  have hd : dimB (m : Int) = true := by simp [dimB]; omega
  rw [insI, if_pos hd, Int.toNat_natCast, inside_ins hm hf, hi]
 have HR : Hid ((i && kindOk f k v) = r) := by show _ = _; rw [← hr, okAt, cellOk, hi]
 clear hr hi
 cases i
 ·have HR2 : Hid (false = r) := by show _ = _; rw [← HR.out]; rfl
  go_enter Try.func52, Try.ntmps52
  go_wp2_with fail
  refine (inside_is m f hf false HI.out _).mono ?_
  rintro e w1 ⟨rfl, rfl⟩
  go_wp2_with fail
  go_ret
  exact ⟨rbool HR2.out, hB.out⟩
 by_cases k0 : k = 0
 ·subst k0
  have HR2 : Hid ((v == 0) = r) := by show _ = _; rw [← HR.out]; simp [kindOk]
  go_enter Try.func52, Try.ntmps52
  go_wp2_with fail
  refine (inside_is m f hf true HI.out _).mono ?_
  rintro e w1 ⟨rfl, rfl⟩
  go_wp2_with fail
  go_ret
  exact ⟨rbool HR2.out, hB.out⟩
 by_cases k1 : k = 1
 ·subst k1
  have HR2 : Hid (true = r) := by show _ = _; rw [← HR.out]; simp [kindOk]
  clear k0
  go_enter Try.func52, Try.ntmps52
  go_wp2_with fail
  refine (inside_is m f hf true HI.out _).mono ?_
  rintro e w1 ⟨rfl, rfl⟩
  go_wp2_with fail
  go_ret
  exact ⟨rbool HR2.out, hB.out⟩
 by_cases k2 : k = 2
 ·subst k2
  clear k0 k1
  by_cases v0 : v = 0
  ·subst v0
   have HR2 : Hid (((f : Int) == 0) = r) := by show _ = _; rw [← HR.out, nat_eq0, Bool.eq_iff_iff]; simp [kindOk]
   go_enter Try.func52, Try.ntmps52
   go_wp2_with fail
   refine (inside_is m f hf true HI.out _).mono ?_
   rintro e w1 ⟨rfl, rfl⟩
   go_wp2_with fail
   go_ret
   exact ⟨rbool HR2.out, hB.out⟩
  ·have HR2 : Hid (false = r) := by show _ = _; rw [← HR.out]; simp [kindOk, v0]
   have hv : (v == 0) = false := by simp [v0]
   go_enter Try.func52, Try.ntmps52
   go_wp2_with fail
   refine (inside_is m f hf true HI.out _).mono ?_
   rintro e w1 ⟨rfl, rfl⟩
   go_wp2_with fail
   go_ret
   exact ⟨rbool HR2.out, hB.out⟩
 ·have HR2 : Hid (false = r) := by show _ = _; rw [← HR.out]; simp [kindOk, k0, k1, k2]
  have e0 : (k == 0) = false := by simp [k0]
  have e1 : (k == 1) = false := by simp [k1]
  have e2 : (k == 2) = false := by simp [k2]
  clear k0 k1 k2
  go_enter Try.func52, Try.ntmps52
  go_wp2_with fail
  refine (inside_is m f hf true HI.out _).mono ?_
  rintro e w1 ⟨rfl, rfl⟩
  go_wp2_with fail
  go_ret
  exact ⟨rbool HR2.out, hB.out⟩
theorem chkC_iff {n : Int} {cs : List Cl} (h : 0 ≤ n ∧ n ≤ 64) : (decide (chkC n cs = 0)) = (decide ((cs.length : Int) = n) && cs.all (okAt n.toNat)) := by
 rw [Bool.eq_iff_iff]
 unfold chkC
 rw [if_neg (by omega)]
 by_cases hl : (cs.length : Int) = n
 ·cases ha : cs.all (okAt n.toNat) <;> simp [hl]
 ·simp [hl]
theorem all_upto {α : Type} {l : List α} {p : α → Bool} {k : Nat} (h : ∀ (i : Nat) x, i < k → l[i]? = some x → p x = true) (hk : l.length ≤ k) : l.all p = true := by
 rw [List.all_eq_true]; intro x hx
 obtain ⟨i, hi⟩ := List.getElem?_of_mem hx
 exact h i x (by have := (List.getElem?_eq_some_iff.1 hi).1; omega) hi
end Go.Proofs.Ythepjghlipdcoaa
namespace Go.Proofs.Ythepjghlipdcoaa
open Go.RowKit
attribute [local go_sem ↓] Go.wp_at_zero Go.wp_at_succ
def pwAt (p : SV) : Option WV → Bool | some x => pwOk p.f.tag p.f.dim x.f | none => false
def pairOk (p q : SV) (g : WF) (qs : List WV) : Bool := bareB 5 g && (!g.z && (decide (qs.length = 2) && (pwAt p qs[0]? && pwAt q qs[1]?)))
theorem WIn.two {w : World} {d : Nat} {f : WF} {p q : WV} (h : WIn w (d + 1) (.mk f [p, q])) : f.pl = 2 ∧ ∃ b off, f.pa = some ⟨b, off, none⟩ ∧ b < w.heap.size ∧ W6 w b off p.f ∧ W6 w b (off + 6) q.f ∧ WIn w d p ∧ WIn w d q := by
 obtain ⟨_, h1, h2, h3⟩ := h
 refine ⟨h1.symm, ?_⟩
 rcases h2 with h2 | ⟨b, off, ha, hc⟩
 ·cases h2
 ·have c0 := hc 0 p rfl
  have c1 := hc 1 q rfl
  simp only [Nat.zero_mul, Nat.add_zero, Nat.one_mul] at c0 c1
  exact ⟨b, off, ha, cell_lt c0.1, c0, c1, h3 p (by simp), h3 q (by simp)⟩
theorem WIn.at_ {w : World} {d : Nat} {x : WV} (h : WIn w d x) : x.f.At w := by
 match d, x, h with
 | d + 1, .mk f ps, h => exact h.1
end Go.Proofs.Ythepjghlipdcoaa
