import Derived.Orders
import Derived.Below
import Derived.Deep.RegionHeld
import Derived.WalkKit
import Derived.KernelRfl
import Derived.Laws.Rows
import Derived.Laws.AppendOwn
import Derived.Laws.Strings
import Derived.Laws.Small
import Derived.Lib.Hide
import Derived.IntWalk
import Derived.Laws.Tables
import Derived.Laws.Concat
import Derived.Laws.MakeOwn
import Derived.Lib.OwnBridge
import Derived.WideKeyEntry
import Derived.DeepKeys4
import Derived.Lib.AppendZeros
import Derived.Test.YtpkcaabbcoiiiaaProg
import Derived.Test.YtpkcaabbcoiiiaaRows
import Derived.Lib.LaidTab
import Derived.Lib.ItoaNum
import Derived.Lib.TrailingZeros
import Derived.Stop.LaidErr
import Derived.WalkSmall
import Derived.LaidMore
import Derived.Shelf.Spec.TrailingZeros
import Derived.Laws.BitsAllLaws
import Derived.Laws.Bits64
import Derived.Deep.QuietTactic
import Derived.BigQuiet
import Derived.RegionTactic
import Derived.BigRegion
import Derived.Deep.RegionHeld3
import Derived.ChangeAlike
import Derived.RangeFuncNested
import Derived.RangeFuncBound
import Derived.RangeFuncCalls
import Derived.RangeFuncLeaves
import Derived.Shelf.Abstract
import Derived.Shelf.RegionOpen
import Derived.OwnWalkIn
import Derived.TacticsInMore
import Derived.LoopNIn
import Derived.LoopIn
import Derived.Laws.Bits128
import Derived.Deep.AppendLies
import Derived.Maps.AppendAt
import Derived.Ground.Names2Prog
import Derived.Shelf.Slices.Clone
import Derived.Sort.Grow
import Derived.Lib.OthersKept
import Derived.Laws.IdiomStrings
import Derived.StillTailTactics
import Derived.Deep.RegionLaw
import Derived.Deep.DeepCutAuto
import Derived.Deep.CutRange
import Derived.Deep.RegionWith
import Derived.Laws.Bits64b
import Derived.Deep.DrawnRows
import Derived.Lib.SliceRun
import Derived.Laws.OwnMore
import Derived.OwnWalk
import Derived.WalkSpells
import Derived.Lib.Join
import Derived.Lib.ItoaLen
import Derived.Lib.UnsafeStr
import Derived.Lib.AppendIntMem
import Derived.Deep.Slices
import Derived.Deep.Fields
import Derived.ChangeSame
import Derived.Lib.SmallJoins
import Derived.ChangeSlices
import Derived.ProofKit
import Derived.Test.YtpkcaabbcoiiiaaPsA
import Derived.Test.YtpkcaabbcoiiiaaPsB
import Derived.Test.YtpkcaabbcoiiiaaPsC
import Derived.Test.YtpkcaabbcoiiiaaPsD
import Derived.Test.YtpkcaabbcoiiiaaPsE
set_option maxRecDepth 100000
set_option maxHeartbeats 4000000
set_option linter.unusedVariables false
set_option linter.unusedVariables false
set_option linter.unusedSimpArgs false
set_option linter.unusedSectionVars false
set_option linter.unnecessarySimpa false
namespace Go.Proofs.Ytpkcaabbcoiiiaa
open Go Go.RowKit
theorem stepL_is (p y q : Int) (b off wl wc : Nat) (va : Option Addr) (vl vc : Nat) (ws t : List Int) (f : WF) (w : World) (hrow : Row w (some ⟨b, off, none⟩) (y :: t)) (hlen : (y :: t).length = wl) (hcap : wl ≤ wc) (hrov : Row w va ws) (hlev : ws.length = vl) (hm : wl ≤ 8192) (hm2 : vl ≤ 8192) :
  Calls Try.prog 10 #[.agg #[.int .i64 p, .slice (some ⟨b, off, none⟩) wl wc], .agg #[.int .i64 p, .int .i64 y, .int .i64 q, .slice va vl vc, .bool f.z, .int .i64 f.c, .int .u64 (f.g : Int), .slice f.ra f.rl f.rc, .slice f.ca f.cl f.cc, .slice f.pa f.pl f.pc]] w (fun e w' => ∃ a c, e = .returned (.tuple #[.agg #[.int .i64 q, .slice a (ws ++ t).length c], .bool true]) ∧ RowN w.heap.size w' a c (ws ++ t) ∧ Below w.heap.size w w') := by
 refine enterF (args := [.agg #[.int .i64 p, .slice (some ⟨b, off, none⟩) wl wc], .agg #[.int .i64 p, .int .i64 y, .int .i64 q, .slice va vl vc, .bool f.z, .int .i64 f.c, .int .u64 (f.g : Int), .slice f.ra f.rl f.rc, .slice f.ca f.cl f.cc, .slice f.pa f.pl f.pc]]) Try.func10 rfl Try.ntmps10 rfl ?_
 have hS := St.start w
 have h1l : 1 ≤ wl := by have : (y :: t).length = t.length + 1 := rfl; omega
 have h2l : t.length = wl - 1 := by have : (y :: t).length = t.length + 1 := rfl; omega
 have k0 : w.cell? ⟨b, off, none⟩ = some (.int .i64 y) := by
  obtain ⟨b2, o2, z, e, hz, hc⟩ := hrow.at1 (i := 0) (by simp)
  cases e
  cases hz
  simpa using hc
 refine seqF (regF ?_)
 refine op_box (cs := [_, _]) hS rfl rfl rfl ?_
 clear hS; intro B1 W1 hS
 refine op_box (cs := [_, _, _, _, _, _, _, _, _, _]) hS rfl rfl rfl ?_
 clear hS; intro B2 W2 hS
 refine op_alloc (cs := [_, _]) hS Try.zeroValue49 rfl rfl ?_
 clear hS; intro B3 W3 hS
 refine op_assign rfl rfl ?_
 refine endF (XF.thenN ?_)
 refine seqF ?_
 refine seqF ?_
 have k1 : W3.cell? ⟨b, off, none⟩ = some (.int .i64 y) := hS.old k0
 refine regB (m := 20) followsM hS (by kernel_rfl) (by kernel_rfl) rfl ?_
 refine bl_cons 1 rfl (isV _) (stab_isV _) (rgV (li := [(2, _)]) rfl (w_free rfl) ⟨g_fr (by kernel_rfl) rfl, trivial⟩ (fun w hw => rn_field (o' := 0) fa_49_0 rfl rfl) (at_top rfl)) ?_
 refine bl_cons 2 rfl (isV _) (stab_isV _) (rgV (li := [(6, _)]) rfl (w_free rfl) ⟨g_dep 0 (by kernel_rfl) (at_dep rfl rfl rfl), trivial⟩ (fun w hw => rn_load Try.isAgg3 rfl ((below_agree hw 0).cell (Nat.zero_le _) (cell_own (hS.at_ 2 rfl) rfl))) (at_top rfl)) ?_
 refine bl_cons 3 rfl (isV _) (stab_isV _) (rgV (li := [(3, _)]) rfl (w_free rfl) ⟨g_fr (by kernel_rfl) rfl, trivial⟩ (fun w hw => rn_field (o' := 0) fa_47_0 rfl rfl) (at_top rfl)) ?_
 refine bl_cons 4 rfl (isV _) (stab_isV _) (rgV (li := [(8, _)]) rfl (w_free rfl) ⟨g_dep 2 (by kernel_rfl) (at_dep rfl rfl rfl), trivial⟩ (fun w hw => rn_load Try.isAgg3 rfl ((below_agree hw 0).cell (Nat.zero_le _) (cell_own (hS.at_ 1 rfl) rfl))) (at_top rfl)) ?_
 refine bl_cons 5 rfl (isV (.bool false)) (stab_isV _) (rgVe (li := [(7, _), (9, _)]) rfl (w_free rfl) ⟨g_dep 1 (by kernel_rfl) (at_dep rfl rfl rfl), g_dep 3 (by kernel_rfl) (at_dep rfl rfl rfl), trivial⟩ (fun w hw => rn_neq rfl rfl) (by simp) (at_top rfl)) ?_
 refine bl_cons 6 rfl (isV _) (stab_isV _) (rgV (li := [(10, _)]) rfl (w_free rfl) ⟨g_dep 4 (by kernel_rfl) (at_dep rfl rfl rfl), trivial⟩ (fun w hw => rn_move rfl) (at_top rfl)) ?_
 refine bl_cons 7 rfl (isV _) (stab_isV _) (rgV (li := [(2, _)]) rfl (w_yes 11 rfl (by kernel_rfl) (by kernel_rfl) (at_dep rfl rfl rfl)) ⟨g_fr (by kernel_rfl) rfl, trivial⟩ (fun w hw => rn_field (o' := 1) fa_49_1 rfl rfl) (at_top rfl)) ?_
 refine bl_cons 8 rfl (isV _) (stab_isV _) (rgV (li := [(12, _)]) rfl (w_yes 11 rfl (by kernel_rfl) (by kernel_rfl) (at_dep rfl rfl rfl)) ⟨g_dep 6 (by kernel_rfl) (at_dep rfl rfl rfl), trivial⟩ (fun w hw => rn_load Try.isAgg29 rfl ((below_agree hw 0).cell (Nat.zero_le _) (cell_own (hS.at_ 2 rfl) rfl))) (at_top rfl)) ?_
 refine bl_cons 9 rfl (isV _) (stab_isV _) (rgV (li := [(13, _)]) rfl (w_yes 11 rfl (by kernel_rfl) (by kernel_rfl) (at_dep rfl rfl rfl)) ⟨g_dep 7 (by kernel_rfl) (at_dep rfl rfl rfl), trivial⟩ (fun w hw => rn_len Try.underlying29 rfl) (at_top rfl)) ?_
 refine bl_cons 10 rfl (isV (.bool false)) (stab_isV _) (rgVe (li := [(14, _)]) rfl (w_yes 11 rfl (by kernel_rfl) (by kernel_rfl) (at_dep rfl rfl rfl)) ⟨g_dep 8 (by kernel_rfl) (at_dep rfl rfl rfl), trivial⟩ (fun w hw => rn_eql rfl rfl) (by rw [decide_eq_false (by omega)]) (at_top rfl)) ?_
 refine bl_cons 11 rfl (isV _) (stab_isV _) (rgV (li := [(11, _), (15, _)]) rfl (w_free rfl) ⟨g_dep 5 (by kernel_rfl) (at_dep rfl rfl rfl), g_dep 9 (by kernel_rfl) (at_dep rfl rfl rfl), trivial⟩ (fun w hw => rn_pickF rfl rfl) (at_top rfl)) ?_
 refine bl_cons 12 rfl (isV _) (stab_isV _) (rgV (li := [(16, _)]) rfl (w_free rfl) ⟨g_dep 10 (by kernel_rfl) (at_dep rfl rfl rfl), trivial⟩ (fun w hw => rn_move rfl) (at_top rfl)) ?_
 refine bl_cons 13 rfl (isV _) (stab_isV _) (rgV (li := [(2, _)]) rfl (w_yes 17 rfl (by kernel_rfl) (by kernel_rfl) (at_dep rfl rfl rfl)) ⟨g_fr (by kernel_rfl) rfl, trivial⟩ (fun w hw => rn_field (o' := 1) fa_49_1 rfl rfl) (at_top rfl)) ?_
 refine bl_cons 14 rfl (isV _) (stab_isV _) (rgV (li := [(18, _)]) rfl (w_yes 17 rfl (by kernel_rfl) (by kernel_rfl) (at_dep rfl rfl rfl)) ⟨g_dep 12 (by kernel_rfl) (at_dep rfl rfl rfl), trivial⟩ (fun w hw => rn_load Try.isAgg29 rfl ((below_agree hw 0).cell (Nat.zero_le _) (cell_own (hS.at_ 2 rfl) rfl))) (at_top rfl)) ?_
 refine bl_cons 15 rfl (isV _) (stab_isV _) (rgV (li := [(19, _)]) rfl (w_yes 17 rfl (by kernel_rfl) (by kernel_rfl) (at_dep rfl rfl rfl)) ⟨g_dep 13 (by kernel_rfl) (at_dep rfl rfl rfl), trivial⟩ (fun w hw => rn_indexA (j := 0) Try.underlying29 Try.sizeOf3 rfl rfl rfl (by omega) (Nat.add_zero _)) (at_top rfl)) ?_
 refine bl_cons 16 rfl (isV _) (stab_isV _) (rgV (li := [(20, _)]) rfl (w_yes 17 rfl (by kernel_rfl) (by kernel_rfl) (at_dep rfl rfl rfl)) ⟨g_dep 14 (by kernel_rfl) (at_dep rfl rfl rfl), trivial⟩ (fun w hw => rn_load Try.isAgg3 rfl ((below_agree hw 0).cell (Nat.zero_le _) (k1))) (at_top rfl)) ?_
 refine bl_cons 17 rfl (isV _) (stab_isV _) (rgV (li := [(3, _)]) rfl (w_yes 17 rfl (by kernel_rfl) (by kernel_rfl) (at_dep rfl rfl rfl)) ⟨g_fr (by kernel_rfl) rfl, trivial⟩ (fun w hw => rn_field (o' := 1) fa_47_1 rfl rfl) (at_top rfl)) ?_
 refine bl_cons 18 rfl (isV _) (stab_isV _) (rgV (li := [(22, _)]) rfl (w_yes 17 rfl (by kernel_rfl) (by kernel_rfl) (at_dep rfl rfl rfl)) ⟨g_dep 16 (by kernel_rfl) (at_dep rfl rfl rfl), trivial⟩ (fun w hw => rn_load Try.isAgg3 rfl ((below_agree hw 0).cell (Nat.zero_le _) (cell_own (hS.at_ 1 rfl) rfl))) (at_top rfl)) ?_
 refine bl_cons 19 rfl (isV (.bool false)) (stab_isV _) (rgVe (li := [(21, _), (23, _)]) rfl (w_yes 17 rfl (by kernel_rfl) (by kernel_rfl) (at_dep rfl rfl rfl)) ⟨g_dep 15 (by kernel_rfl) (at_dep rfl rfl rfl), g_dep 17 (by kernel_rfl) (at_dep rfl rfl rfl), trivial⟩ (fun w hw => rn_neq rfl rfl) (by simp) (at_top rfl)) ?_
 refine bl_cons 20 rfl (isV _) (stab_isV _) (rgV (li := [(17, _), (24, _)]) rfl (w_free rfl) ⟨g_dep 11 (by kernel_rfl) (at_dep rfl rfl rfl), g_dep 18 (by kernel_rfl) (at_dep rfl rfl rfl), trivial⟩ (fun w hw => rn_pickF rfl rfl) (at_top rfl)) ?_
 refine bl_nil ?_
 intro W4 hbR hS'
 clear hS; have hS := hS'; clear hS'
 refine fin_v ?_
 refine fin_v ?_
 refine fin_v ?_
 refine fin_v ?_
 refine fin_v ?_
 refine fin_v ?_
 refine fin_v ?_
 refine fin_v ?_
 refine fin_v ?_
 refine fin_v ?_
 refine fin_v ?_
 refine fin_v ?_
 refine fin_v ?_
 refine fin_v ?_
 refine fin_v ?_
 refine fin_v ?_
 refine fin_v ?_
 refine fin_v ?_
 refine fin_v ?_
 refine fin_v ?_
 refine fin_nil ?_
 refine XF.thenN ?_
 refine condN rfl ?_
 refine skipF ?_
 refine XF.thenN ?_
 refine seqF ?_
 refine regY (al := []) (G := GCh ([]) 3 1 [(9, 0 + vl + (wl - 1), [] ++ ws.map (Value.int .i64) ++ t.map (Value.int .i64)), (5, 0 + vl, [] ++ ws.map (Value.int .i64)), (2, 0, [])]) (E := [2, 5, 9]) (k := 10) (ds := [5, 37]) followsM rfl hS rfl rfl (by kernel_rfl) (by kernel_rfl) rfl (by decide) rfl ?_
 refine bly_cons 1 rfl (isV _) (syV fst_take [(3, _)] rfl rfl (fun _ => (w_free rfl)) (fun _ => ⟨g_fr (by kernel_rfl) rfl, trivial⟩) (fun s w hw => rn_field (o' := 2) fa_47_2 rfl rfl) (at_top rfl)) ?_
 refine bly_cons 2 rfl (isV _) (syV fst_take [(27, _)] rfl rfl (fun _ => (w_free rfl)) (fun _ => ⟨g_dep 0 (by kernel_rfl) (at_n rfl rfl (at_dep rfl rfl rfl)), trivial⟩) (fun s w hw => rn_load Try.isAgg3 rfl ((cell_own (hw.at_ 1 rfl) rfl))) (at_top rfl)) ?_
 refine bly_cons 3 rfl (anyA) (sy_slice0 rfl rfl Try.underlying29 Try.sizeOf3 rfl rfl (fun s v hk => by rw [GCh_no ((upd_ne _ _ (by decide)).trans (hk.no 9 (by kernel_rfl))), GCh_no ((upd_ne _ _ (by decide)).trans (hk.no 5 (by kernel_rfl))), GCh_at (upd_at _ _ _), GCh_no (hk.no 9 (by kernel_rfl)), GCh_no (hk.no 5 (by kernel_rfl)), GCh_no hk.self]; rfl) (at_top rfl)) ?_
 refine bly_cons 4 rfl (isV _) (syV fst_take [(3, _)] rfl rfl (fun _ => (w_free rfl)) (fun _ => ⟨g_fr (by kernel_rfl) rfl, trivial⟩) (fun s w hw => rn_field (o' := 3) fa_47_3 rfl rfl) (at_top rfl)) ?_
 refine bly_cons 5 rfl (isV _) (syV fst_take [(30, _)] rfl rfl (fun _ => (w_free rfl)) (fun _ => ⟨g_dep 3 (by kernel_rfl) (at_n rfl rfl (at_dep rfl rfl rfl)), trivial⟩) (fun s w hw => rn_load Try.isAgg29 rfl ((cell_own (hw.at_ 1 rfl) rfl))) (at_top rfl)) ?_
 refine bly_cons 6 rfl (anyA) (sy_app (tx := 29) (j0 := 2) (gi := 0) (news := ws.map (Value.int .i64)) fst_take [(31, _)] rfl rfl Try.underlying29 inf_3 rfl rfl (by show 0 < 1; decide) rfl rfl (by kernel_rfl) (fun _ => ⟨g_dep 4 (by kernel_rfl) (at_n rfl rfl (at_dep rfl rfl rfl)), trivial⟩) rfl rfl rfl (fun s v0 hk h0 => ⟨by rw [GCh_no (hk.no 9 (by kernel_rfl)), GCh_no hk.self, GCh_at h0]; rfl, fun v => by rw [GCh_no ((upd_ne _ _ (by decide)).trans (hk.no 9 (by kernel_rfl))), GCh_at (upd_at _ _ _), GCh_no (hk.no 9 (by kernel_rfl)), GCh_no hk.self, GCh_at h0]; rfl⟩) (fun s w hw => Row.app (hrov.below hw.below) hlev) (by show (ws.map (Value.int .i64)).length = vl * 1; simpa using hlev) (ints_one ws) (by simp only [maxLen]; omega) (by show (0 + vl) * 8 ≤ _; omega) (at_top rfl)) ?_
 refine bly_cons 7 rfl (isV _) (syV fst_take [(2, _)] rfl rfl (fun _ => (w_free rfl)) (fun _ => ⟨g_fr (by kernel_rfl) rfl, trivial⟩) (fun s w hw => rn_field (o' := 1) fa_49_1 rfl rfl) (at_top rfl)) ?_
 refine bly_cons 8 rfl (isV _) (syV fst_take [(33, _)] rfl rfl (fun _ => (w_free rfl)) (fun _ => ⟨g_dep 6 (by kernel_rfl) (at_n rfl rfl (at_dep rfl rfl rfl)), trivial⟩) (fun s w hw => rn_load Try.isAgg29 rfl ((cell_own (hw.at_ 2 rfl) rfl))) (at_top rfl)) ?_
 refine bly_cons 9 rfl (isV _) (syV fst_take [(34, _)] rfl rfl (fun _ => (w_free rfl)) (fun _ => ⟨g_dep 7 (by kernel_rfl) (at_n rfl rfl (at_dep rfl rfl rfl)), trivial⟩) (fun s w hw => rn_sliceFrom (j := 1) Try.underlying29 Try.sizeOf3 rfl rfl rfl (by omega)) (at_top rfl)) ?_
 refine bly_cons 10 rfl (anyA) (sy_app (tx := 32) (j0 := 5) (gi := 0) (news := t.map (Value.int .i64)) fst_take [(35, _)] rfl rfl Try.underlying29 inf_3 rfl rfl (by show 0 < 1; decide) rfl rfl (by kernel_rfl) (fun _ => ⟨g_dep 8 (by kernel_rfl) (at_n rfl rfl (at_dep rfl rfl rfl)), trivial⟩) rfl rfl rfl (fun s v0 hk h0 => ⟨by rw [GCh_no hk.self, GCh_at h0]; rfl, fun v => by rw [GCh_at (upd_at _ _ _), GCh_no hk.self, GCh_at h0]; rfl⟩) (fun s w hw => Row.app ((hrow.tail1 (c := wc) (by omega)).below hw.below) h2l) (by show (t.map (Value.int .i64)).length = (wl - 1) * 1; simpa using h2l) (ints_one t) (by simp only [maxLen]; omega) (by show (0 + vl + (wl - 1)) * 8 ≤ _; omega) (at_top rfl)) ?_
 refine bly_nil ?_
 intro s5 W5 Ks5 hall5 hsz5 hKs5 hS' hcov5 hfx5 hno5
 obtain ⟨v5_2, h5_2⟩ := hall5 2 rfl
 obtain ⟨v5_5, h5_5⟩ := hall5 5 rfl
 obtain ⟨v5_9, h5_9⟩ := hall5 9 rfl
 clear hS; have hS := hS'.castO (O' := [_, _, _]) rfl; clear hS'
 have hS := hS.castG (GCh_at h5_9)
 refine castL (L' := [AwS _ _ (isV _), AwS _ _ (isV _), isE s5 2, AwS _ _ (isV _), AwS _ _ (isV _), isE s5 5, AwS _ _ (isV _), AwS _ _ (isV _), AwS _ _ (isV _), isE s5 9]) rfl ?_
 refine fin_sV ?_
 refine fin_sV ?_
 refine fin_p ?_; intro u hu; obtain rfl := Option.some.inj (h5_2.symm.trans hu); clear hu
 refine fin_sV ?_
 refine fin_sV ?_
 refine fin_p ?_; intro u hu; obtain rfl := Option.some.inj (h5_5.symm.trans hu); clear hu
 refine fin_sV ?_
 refine fin_sV ?_
 refine fin_sV ?_
 refine fin_p ?_; intro u hu; obtain rfl := Option.some.inj (h5_9.symm.trans hu); clear hu
 obtain ⟨a9, c9, e9⟩ := own_sl9 (hS.row 0 rfl)
 dsimp only at e9
 subst e9
 refine fin_nil ?_
 refine op_build (us := [(0, .int .i64 _), (1, .slice _ _ _)]) rfl (bld_49_0_1 _ _ _ _) rfl ?_
 refine op_storeA (i := 0) (vs := [_, _]) (cs' := [_, _]) (O' := [_, _, _]) hS Try.sizeOf49 rfl rfl rfl rfl rfl rfl rfl ?_
 clear hS; intro W6 hS
 refine op_assign rfl rfl ?_
 refine endF (XF.thenN ?_)
 refine retF ?_
 refine XF.res (resCT (vs := [_, _]) Try.results10 Try.isAgg49 Try.sizeOf49 rfl (CellsAt.own (j := 0) (m := 2) (hS.at_ 0 rfl) rfl) rfl) ?_
 have hl9 : 0 + vl + (wl - 1) = (ws ++ t).length := by rw [List.length_append]; omega
 have h9 := hS.row 0 rfl
 dsimp only at h9
 rw [hl9] at h9
 exact ⟨a9, c9, by rw [← hl9], by show World.ownsRow _ _ _ _ _ _ _; rw [List.map_append]; simpa using h9, hS.below⟩
end Go.Proofs.Ytpkcaabbcoiiiaa
namespace Go.Proofs.Ytpkcaabbcoiiiaa
open Go Go.RowKit
def runP : List PR → Int × List Int → Option (Int × List Int)
 | [], c => some c
 | r :: rs, c => if c.1 = r.2.2.1 ∧ c.2.head? = some r.2.2.2.1 then runP rs (r.2.2.2.2.1, r.2.2.2.2.2.1 ++ c.2.tail) else none
theorem runP_append : ∀ (xs bs : List PR) (c : Int × List Int), runP (xs ++ bs) c = (runP xs c).bind (runP bs)
 | [], bs, c => rfl
 | r :: xs, bs, c => by
  simp only [List.cons_append, runP]
  split
  ·exact runP_append xs bs _
  ·rfl
theorem drop_last9 {ws : List Int} {k : Nat} (h : k + 1 ≤ ws.length) : ws.getD (ws.length - 1 - k) 0 :: ws.drop (ws.length - k) = ws.drop (ws.length - (k + 1)) := by
 have e : ws.length - (k + 1) < ws.length := by omega
 rw [List.drop_eq_getElem_cons e, show ws.length - (k + 1) + 1 = ws.length - k by omega, show ws.length - 1 - k = ws.length - (k + 1) by omega]
 congr 1
 rw [List.getD_eq_getElem?_getD, List.getElem?_eq_getElem e]; rfl
theorem runP_heads (one : PX) (num p g : Int) (ws : List Int) (x : PX) (z y : Int) (st : List Int) : ∀ k, k ≤ ws.length → runP (headsF one num p g ws x z y k) (p, g :: st) = some ((curF one p g x z y k).1, (curF one p g x z y k).2.1 :: (ws.drop (ws.length - k) ++ st))
 | 0, _ => by simp [headsF, runP, curF]
 | k + 1, h => by
  rw [headsF_succ, runP_append, runP_heads one num p g ws x z y st k (by omega)]
  simp only [Option.bind_some, runP, List.head?_cons, List.tail_cons]
  rw [if_pos ⟨trivial, trivial⟩, ← drop_last9 (k := k) (by omega)]
  rfl
theorem runP_parts (one : PX) (num p g q : Int) (ws : List Int) (x : PX) (z y : Int) (st : List Int) : runP (partsF one num p g q ws x z y) (p, g :: st) = some (q, ws ++ st) := by
 rw [parts_heads, runP_append, runP_heads one num p g ws x z y st _ (by omega)]
 simp only [Option.bind_some, runP, List.head?_cons, List.tail_cons]
 rw [if_pos ⟨trivial, trivial⟩]
 simp only [Option.some.injEq, Prod.mk.injEq, true_and]
 rw [← List.append_assoc, List.take_append_drop]
theorem parts_first (one : PX) (num p g q : Int) (ws : List Int) (x : PX) (z y : Int) {k : Nat} {r : PR} (h : (partsF one num p g q ws x z y)[k]? = some r) : r.1 = num ∧ r.2.1 = decide (k = 0) ∧ r.2.2.2.2.2.1.length ≤ 2 := by
 rw [parts_heads] at h
 have hl : (headsF one num p g ws x z y (ws.length - 2)).length = ws.length - 2 := by simp [headsF]
 by_cases hk : k < ws.length - 2
 ·rw [List.getElem?_append_left (by omega)] at h
  unfold headsF at h
  rw [List.getElem?_map, List.getElem?_range hk] at h
  simp only [Option.map_some, Option.some.injEq] at h
  subst h
  exact ⟨rfl, rfl, by simp⟩
 ·rw [List.getElem?_append_right (by omega), hl] at h
  have h0 : k - (ws.length - 2) = 0 := by
   rcases Nat.eq_zero_or_pos (k - (ws.length - 2)) with h0 | h0
   ·exact h0
   ·rw [List.getElem?_eq_none (by simp; omega)] at h; cases h
  have hk2 : k = ws.length - 2 := by omega
  rw [h0] at h
  simp only [List.getElem?_cons_zero, Option.some.injEq] at h
  subst h
  refine ⟨rfl, by rw [hk2], ?_⟩
  show (ws.take _).length ≤ 2
  rw [List.length_take]; omega
theorem partsF_pos (one : PX) (num p g q : Int) (ws : List Int) (x : PX) (z y : Int) : 0 < (partsF one num p g q ws x z y).length := by
 rw [parts_heads]; simp
theorem shortF_at {one : PX} {px : RV → PX} : ∀ {rs : List RV} {i : Nat} {z y : Int} {k : Nat} {r : RV}, rs[k]? = some r → ∃ us bs z' y', shortF one px rs i z y = us ++ partsF one ((i + k : Nat) : Int) r.p r.g r.q r.ws (px r) z' y' ++ bs ∧ (∀ a ∈ us, a.1 < ((i + k : Nat) : Int)) ∧ ∀ b ∈ bs, ((i + k : Nat) : Int) < b.1
 | [], _, _, _, _, _, h => by simp at h
 | r0 :: rs, i, z, y, 0, r, h => by
  simp at h
  subst h
  refine ⟨[], shortF one px rs (i + 1) _ _, z, y, by simp only [shortF, List.nil_append, Nat.add_zero]; rfl, by simp, fun b hb => ?_⟩
  have key : ∀ (rs : List RV) (j : Nat) (z y : Int), ∀ b ∈ shortF one px rs j z y, (j : Int) ≤ b.1 := by
   intro rs
   induction rs with
   | nil => intro j z y b hb; cases hb
   | cons a rs ih =>
    intro j z y b hb
    simp only [shortF] at hb
    rcases List.mem_append.1 hb with hb | hb
    ·obtain ⟨k, hk⟩ := List.getElem?_of_mem hb
     rw [(parts_first one (j : Int) a.p a.g a.q a.ws (px a) z y hk).1]; exact Int.le_refl _
    ·have := ih (j + 1) _ _ b hb; omega
  have := key rs (i + 1) _ _ b hb
  omega
 | r0 :: rs, i, z, y, k + 1, r, h => by
  simp at h
  obtain ⟨us, bs, z', y', e, h1, h2⟩ := shortF_at (one := one) (px := px) (i := i + 1) (z := z + ((r0.wl - 2 : Nat) : Int)) (y := y + ((r0.wl - 2 : Nat) : Int)) h
  have e9 : i + 1 + k = i + (k + 1) := by omega
  rw [e9] at e h1 h2
  refine ⟨partsF one (i : Int) r0.p r0.g r0.q r0.ws (px r0) z y ++ us, bs, z', y', by simp only [shortF]; rw [e]; simp [List.append_assoc], fun a ha => ?_, h2⟩
  rcases List.mem_append.1 ha with ha | ha
  ·obtain ⟨j, hj⟩ := List.getElem?_of_mem ha
   rw [(parts_first one (i : Int) r0.p r0.g r0.q r0.ws (px r0) z y hj).1]; omega
  ·exact h1 a ha
theorem parts_x {one : PX} {num p g q : Int} {ws : List Int} {x : PX} {z y : Int} {k : Nat} {r : PR} (h : (partsF one num p g q ws x z y)[k]? = some r) : r.2.2.2.2.2.2 = if k = 0 then x else one := by
 have hc : ∀ j : Nat, (curF one p g x z y j).2.2 = if j = 0 then x else one := fun j => by cases j <;> rfl
 rw [parts_heads] at h
 have hl : (headsF one num p g ws x z y (ws.length - 2)).length = ws.length - 2 := by simp [headsF]
 by_cases hk : k < ws.length - 2
 ·rw [List.getElem?_append_left (by omega)] at h
  unfold headsF at h
  rw [List.getElem?_map, List.getElem?_range hk] at h
  simp only [Option.map_some, Option.some.injEq] at h
  subst h
  exact hc k
 ·rw [List.getElem?_append_right (by omega), hl] at h
  have h0 : k - (ws.length - 2) = 0 := by
   rcases Nat.eq_zero_or_pos (k - (ws.length - 2)) with h0 | h0
   ·exact h0
   ·rw [List.getElem?_eq_none (by simp; omega)] at h; cases h
  have hk2 : k = ws.length - 2 := by omega
  rw [h0] at h
  simp only [List.getElem?_cons_zero, Option.some.injEq] at h
  subst h
  rw [hk2]
  exact hc _
end Go.Proofs.Ytpkcaabbcoiiiaa
namespace Go.Proofs.Ytpkcaabbcoiiiaa
open Go Go.RowKit
section
variable {P : Program} {ops : Array Oper} {Q : Exit → Act → World → Prop} {σ : Type}
theorem tailT_all {ops : Array Oper} {k : Nat} (hk : ops.size = k) : tailT ops k = true := List.all_eq_true.2 fun j hj => by
 rw [decide_eq_true (show j < k by have := List.mem_range.1 hj; omega)]; rfl
theorem getD_out {L : Array Bool} {i : Nat} (h : L.size ≤ i) : L.getD i false = false := by
 rw [Array.getD_eq_getD_getElem?, Array.getElem?_eq_none (by omega)]; rfl
theorem region_ghostL {t0 : Array Value} {d0 : List Deferred} {G : σ → World → Prop} {I : σ → Nat → Value → World → Prop} {V : σ → Array Bool → Prop} {k : Nat} (hk : ops.size = k) (ht : tidyR ops t0.size = true)
  (hstep : ∀ i, i < k → GStep P ops Q t0 G I V i)
  (hfin : ∀ s L a w, RInvG ops t0 d0 G I V s L a w → (∀ i, i < k → L.getD i false = true) → wpList P ops Q (ops.toList.drop k) a w) :
  ∀ (fuel : Nat) (s : σ) (L : Array Bool) (a : Act) (w : World), L.size = ops.size → L.toList.count false ≤ fuel → ClosedG ops L → RInvG ops t0 d0 G I V s L a w → wpAny P .any ops Q fuel L a w := by
 intro fuel
 induction fuel with
 | zero =>
  intro s L a w hs hc hcl h
  have hall : ∀ i, i < k → L.getD i false = true := fun i hi => by
   cases hb : L.getD i false with
   | true => rfl
   | false =>
    have := cnt_set _ _ (cnt_getD (by omega) hb)
    omega
  exact tail_run (fun _ _ => trivial) (tailT_all hk) ht 0 k 0 L a w (by omega) (Nat.le_refl _) (Nat.le_refl _) hs hcl hall (fun i hi => getD_out (by omega)) (hfin s L a w h hall)
 | succ fuel ih =>
  intro s L a w hs hc hcl h
  by_cases hall : ∀ i, i < k → L.getD i false = true
  ·exact tail_run (fun _ _ => trivial) (tailT_all hk) ht 0 k (fuel + 1) L a w (by omega) (Nat.le_refl _) (Nat.zero_le _) hs hcl hall (fun i hi => getD_out (by omega)) (hfin s L a w h hall)
  ·refine ⟨fun hr => ?_, fun i hi => ?_⟩
   ·exfalso; apply hall
    intro i hi
    have h1 := ready_nil ht hs hr i (by omega)
    rw [Array.getD_eq_getD_getElem?, Array.getElem?_eq_getElem (by omega)] at h1 ⊢
    simpa using h1
   ·obtain ⟨his, hr⟩ := ready_g hi hs
    have hik : i < k := by omega
    have hc1 := cnt_set _ _ (cnt_getD (by omega) hr.1)
    refine wpOp_mono ?_ (hstep i hik s L a w (fun t ht => h.frame t ht) h.glob h.cons hs hcl hr (fun j d hw => ?_))
    ·rintro a' w' ⟨s', v, rfl, hV, hG, hI, hst⟩
     refine ih s' _ _ _ (by simpa using hs) ?_ (hcl.next hr (by omega)) ⟨by rw [put_size]; exact h.size, by rw [put_defers]; exact h.defers, fun t hf => ?_, hG, hV, fun j d hd hj => ?_⟩
     ·rw [Array.toList_setIfInBounds]; omega
     ·rw [put_other ?_]
      ·exact h.frame t hf
      ·intro hd
       obtain ⟨o, ho, hd⟩ := Option.bind_eq_some_iff.1 hd
       have := Array.all_eq_true'.1 hf o (Array.mem_of_getElem? ho)
       simp [hd] at this
     ·by_cases hji : j = i
      ·subst hji
       rw [put_at hd (by rw [h.size]; exact (tidy_dst ht hd).1)]
       exact hI d hd
      ·rw [getD_set_ne false (Ne.symm hji)] at hj
       rw [put_other (fun e => hji ((tidy_dst ht e).2 j hd))]
       exact hst j d hd (h.done j d hd hj)
    ·have : j ∈ aft ops i := by
      unfold waitsFor at hw
      unfold aft
      cases ho : ops[i]? with
      | none => simp [ho] at hw
      | some o =>
       simp only [ho, Bool.and_eq_true, beq_iff_eq] at hw
       obtain ⟨e, he, h2⟩ := Array.any_eq_true'.1 hw.1
       simp only [Bool.and_eq_true, beq_iff_eq] at h2
       exact List.mem_map.2 ⟨e, List.mem_filter.2 ⟨Array.mem_toList_iff.2 he, h2.2⟩, h2.1⟩
     have hd : (ops[j]?).bind (·.dst) = some d := by
      unfold waitsFor at hw
      simp only [Bool.and_eq_true, beq_iff_eq] at hw
      exact hw.2
     exact h.done j d hd (hr.2 j this)
end
section
variable {P : Program} {n : Nat} {Q : Exit → Act → World → Prop} {l : Fr} {w0 W : World} {ops : Array Oper} {os : List Oper} {K : List (Nat × World)} {L : List Asr} {i : Nat}
variable {al : List Nat} {ca : Nat → Option Value → List Value} {ta : Nat → TypeId} {Os : Option Value → Own} {Gs : Option Value → Grows} {lo ef jy : Nat} {s : Sg}
variable {d : Nat} {op : Op} {ty : TypeId} {pos : String} {aft_ : Array Edge} {v : Value} {gd : Option (Nat × Bool)}
theorem regSL {id k : Nat} {ds : List Nat} (hm : P.follows .mixedOrders = true) (hlo : lo = W.heap.size) (hS : St w0 (Os none) (Gs none) K W) (hk : os.length = k) (ht : tidyR os.toArray n = true) (hal : al.all (fun a => Nat.blt a k) = true) (hnd : al.Nodup) (hea : al.contains ef = false)
  (hev : Nat.blt ef k = true) (hdst : (List.range k).all (fun j => Nat.beq j ef || ((os.toArray[j]?).bind (·.dst)).isSome) = true) (hds : (os.drop k).all (fun o => match o.dst with | some d => ds.contains d | none => true) = true)
  (h : BLS P n os.toArray Q l w0 K lo al ef jy ca ta Os Gs (fun Lr => ∀ (Bf : Nat → Nat) (y : Value) (W' : World) (Ks : List (Nat × World)), W.heap.size ≤ W'.heap.size → (∀ q ∈ Ks, lo ≤ q.1) → St w0 (al.map (fun a => (Bf a, ca a (some y), ta a)) ++ Os (some y)) (Gs (some y)) (Ks ++ K) W' →
   (∀ {O2 G2 K2 W2}, St w0 O2 G2 K2 W2 → (∀ q ∈ Ks, q ∈ K2) → SameX lo (XB (al.map (fun a => (Bf a, ca a (some y), ta a)) ++ Os (some y)) (Gs (some y))) W' W2) →
   FinI (os.take k) (finL al ef jy lo (XB (al.map (fun a => (Bf a, ca a (some y), ta a)) ++ Os (some y)) (Gs (some y))) Bf y 0 Lr.reverse) (dropF ds l) (fun l' W' => OpsF P n os.toArray Q (os.drop k) l' W') W') k [] 0) : CodeF P n (.region id os.toArray true) Q l W := by
 obtain ⟨Lr, h1, h2, hfin⟩ := bls_run ht k 0 [] rfl (fun j _ => by rfl) (fun i hi => by omega) h
 rw [Nat.zero_add] at h1 h2
 have hal' : ∀ a ∈ al, a < k := fun a ha => Nat.lt_of_lt_of_le (Nat.lt_succ_self _) (Nat.le_of_ble_eq_true (List.all_eq_true.1 hal a ha))
 have hea' : ef ∉ al := fun h => by rw [List.contains_iff_mem.2 h] at hea; cases hea
 intro a ha
 refine wp_region_any hm (region_ghostL (t0 := a.tmps) (d0 := a.defers) (V := VG al ef) (I := IG al ef jy lo ca ta Os Gs Lr.reverse) (G := GG w0 K lo ca ta Os Gs) (k := k) (by simpa using hk) (by rw [ha.size]; exact ht) (fun i hi => (h2 i hi).step a ha) ?_ _ ⟨none, []⟩ _ _ _ (by simp) (count_rep _) (fun j hj => by rw [Array.getD_eq_getD_getElem?, Array.getElem?_replicate] at hj; split at hj <;> simp at hj) ⟨rfl, rfl, fun _ _ => rfl, ⟨by unfold OE; exact hS.drew, by rw [hlo]; exact Nat.le_refl _, (fun q hq => by cases hq)⟩, ⟨fun a _ => ?_, (fun q hq => by cases hq), List.Pairwise.nil, ?_⟩, fun i d _ hj => ?_⟩)
 ·intro s LB a' W' hR hdone
  obtain ⟨hG, hG2, hG3⟩ := hR.glob
  obtain ⟨v1, v2, v3, v4⟩ := hR.cons
  obtain ⟨ev, bs⟩ := s
  have hall : ∀ x ∈ al, (x, bAt bs x) ∈ bs := fun x hx => bAt_mem ((v1 x hx).1 (hdone x (hal' x hx)))
  obtain ⟨y, hy⟩ : ∃ y, ev = some y := by
   have h3 : ev.isSome = true := v4.1 (hdone ef (Nat.lt_of_lt_of_le (Nat.lt_succ_self _) (Nat.le_of_ble_eq_true hev)))
   exact Option.isSome_iff_exists.1 h3
  subst hy
  have hperm : bs.Perm (al.map (fun x => (x, bAt bs x))) := by
   refine (List.perm_ext_iff_of_nodup (v3.imp (fun h e => h (by rw [e]))) ?_).2 fun q => ?_
   ·refine List.Pairwise.map _ (fun x y (hxy : x ≠ y) => ?_) hnd
    intro e; exact hxy (congrArg Prod.fst e)
   ·constructor
    ·intro hq
     have h3 := hall q.1 (v2 q hq)
     have h4 := bAt_uniq v3 hq h3 rfl
     rw [h4]
     exact List.mem_map.2 ⟨q.1, v2 q hq, rfl⟩
    ·intro hq
     obtain ⟨x, hx, rfl⟩ := List.mem_map.1 hq
     exact hall x hx
  have hO : (OE ca ta Os ⟨some y, bs⟩).Perm (al.map (fun a => (bAt bs a, ca a (some y), ta a)) ++ Os (some y)) := by
   unfold OE
   refine List.Perm.append_right _ ?_
   have := hperm.map (fun q : Nat × Nat => (q.2, ca q.1 (some y), ta q.1))
   rw [List.map_map] at this
   exact this
  have hG' := hG.perm hO
  have hX : ∀ b, XB (OE ca ta Os ⟨some y, bs⟩) (Gs (some y)) b ↔ XB (al.map (fun a => (bAt bs a, ca a (some y), ta a)) ++ Os (some y)) (Gs (some y)) b := fun b => by
   unfold XB
   constructor
   ·rintro (⟨p, hp, e⟩ | h); exact .inl ⟨p, hO.mem_iff.1 hp, e⟩; exact .inr h
   ·rintro (⟨p, hp, e⟩ | h); exact .inl ⟨p, hO.mem_iff.2 hp, e⟩; exact .inr h
  obtain ⟨Ks, c1, ⟨qw, c2, c3⟩, c4⟩ := cuts (((al.map (fun a => (bAt bs a, ca a (some y), ta a)) ++ Os (some y)).map (·.1)) ++ (Gs (some y)).filterMap (fun g => g.v.ownBlock)) lo W'
  have hG4 := hG'.more Ks (fun q hq => ⟨(c1 q hq).2.1, fun p hp => (c1 q hq).2.2 p.1 (List.mem_append_left _ (List.mem_map.2 ⟨p, hp, rfl⟩)), fun g hg b hb => (c1 q hq).2.2 b (List.mem_append_right _ (List.mem_filterMap.2 ⟨g, hg, hb⟩))⟩)
  have hcov : ∀ {O2 G2 K2 W2}, St w0 O2 G2 K2 W2 → (∀ q ∈ Ks, q ∈ K2) → SameX lo (XB (al.map (fun a => (bAt bs a, ca a (some y), ta a)) ++ Os (some y)) (Gs (some y))) W' W2 := fun {O2 G2 K2 W2} h2 hq => by
   refine ⟨⟨h2.below.os.trans hG.below.os.symm, h2.below.tape.trans hG.below.tape.symm, h2.below.output.trans hG.below.output.symm⟩, ?_, fun b b1 b2 b3 => ?_⟩
   ·have := (h2.kept qw (hq qw c2)).1.1; rw [c3] at this; exact this
   ·obtain ⟨q, q1, q2, q3⟩ := c4 b b1 b2 (fun hb => b3 (by
     rcases List.mem_append.1 hb with hb | hb
     ·obtain ⟨p, hp, rfl⟩ := List.mem_map.1 hb
      exact .inl ⟨p, hp, rfl⟩
     ·obtain ⟨g, hg, e⟩ := List.mem_filterMap.1 hb
      exact .inr ⟨g, hg, e⟩))
    exact ((h2.kept q (hq q q1)).1.2 b q2 q3).trans ((c1 q q1).2.1.2 b q2 q3).symm
  have htk : (os.take k).length = k := by simp; omega
  refine fin_hasS (os.take k) (finL al ef jy lo (XB (al.map (fun a => (bAt bs a, ca a (some y), ta a)) ++ Os (some y)) (Gs (some y))) (bAt bs) y 0 Lr.reverse) (dropF ds l) (fun i d hi hd' => ?_) (fun i hi hd' => ?_) (hR.size.trans ha.size) (hR.defers.trans ha.defers) ?_ (fun l' h ha' => ?_) (hfin (bAt bs) y W' Ks (by rw [← hlo]; exact hG2) (fun q hq => (c1 q hq).1) hG4 hcov)
  ·have hik : i < k := by omega
   have hd2 : (os.toArray[i]?).bind (·.dst) = some d := by rw [List.getElem?_take, if_pos hik] at hd'; simpa using hd'
   obtain ⟨i1, i2, i3, i4⟩ := hR.done i d hd2 (hdone i hik)
   rw [atI_finL Lr.reverse 0 i (by simp; omega), Nat.add_zero]
   cases hc1 : al.contains i with
   | true =>
    rw [cond_true]
    obtain ⟨B, hB, e⟩ := i1 (List.contains_iff_mem.1 hc1)
    have := bAt_uniq v3 hB (hall i (List.contains_iff_mem.1 hc1)) rfl
    show _ = _
    rw [e, show B = bAt bs i from congrArg Prod.snd this]
   | false =>
    rw [cond_false]
    have hni : i ∉ al := fun hm' => by rw [List.contains_iff_mem.2 hm'] at hc1; cases hc1
    cases hc2 : Nat.beq i ef with
    | true =>
     rw [cond_true]
     have h5 := i2 (Nat.eq_of_beq_eq_true hc2)
     exact (Option.some.inj h5).symm
    | false =>
     rw [cond_false]
     have hne : i ≠ ef := fun e => by rw [e, Nat.beq_refl] at hc2; cases hc2
     have h6 : AwS lo (XB (al.map (fun a => (bAt bs a, ca a (some y), ta a)) ++ Os (some y)) (Gs (some y))) (atI Lr.reverse i) (a'.tmps.getD d undef) W' := fun w2 hw2 => i4 hni hne w2 ⟨hw2.1, hw2.2.1, fun b b1 b2 b3 => hw2.2.2 b b1 b2 (fun hb => b3 ((hX b).2 hb))⟩
     cases hc3 : Nat.beq i jy with
     | true =>
      rw [cond_true]
      refine ⟨?_, h6⟩
      exact i3 (Nat.eq_of_beq_eq_true hc3) y rfl
     | false => rw [cond_false]; exact h6
  ·have hik : i < k := by omega
   have h3 := List.all_eq_true.1 hdst i (List.mem_range.2 hik)
   rw [Bool.or_eq_true] at h3
   have hd2 : (os.toArray[i]?).bind (·.dst) = none := by rw [List.getElem?_take, if_pos hik] at hd'; simpa using hd'
   rcases h3 with h3 | h3
   ·rw [atI_finL Lr.reverse 0 i (by simp; omega), Nat.add_zero]
    have hc1 : al.contains i = false := by rw [Nat.eq_of_beq_eq_true h3]; exact hea
    rw [hc1, cond_false, h3, cond_true]
    exact ⟨y, rfl⟩
   ·rw [hd2] at h3; cases h3
  ·intro t v hv hno
   have hl := look_dropF hv (look_dropF_not hv)
   have hnt := look_dropF_not hv
   rw [hR.frame t ?_]
   ·exact ha.at_ t v hl
   ·unfold freeT; rw [Array.all_eq_true']; intro o' ho'
    have ho2 : o' ∈ os := by simpa using ho'
    rw [← List.take_append_drop k os] at ho2
    rcases List.mem_append.1 ho2 with ho2 | ho2
    ·simpa using hno o' ho2
    ·have h5 := List.all_eq_true.1 hds o' ho2
     cases hx : o'.dst with
     | none => simp
     | some d =>
      rw [hx] at h5
      simp
      intro e; subst e
      exact hnt (List.contains_iff_mem.1 h5)
  ·have := h a' ha'
   simpa using this
 ·rw [Array.getD_eq_getD_getElem?, Array.getElem?_replicate]
  constructor
  ·intro h3; split at h3 <;> simp at h3
  ·rintro ⟨B, hB⟩; cases hB
 ·rw [Array.getD_eq_getD_getElem?, Array.getElem?_replicate]
  constructor
  ·intro h3; split at h3 <;> simp at h3
  ·intro h3; cases h3
 ·rw [Array.getD_eq_getD_getElem?, Array.getElem?_replicate] at hj
  split at hj <;> simp at hj
end
section
variable {P : Program} {n : Nat} {Q : Exit → Act → World → Prop} {l : Fr} {w0 W : World} {ops : Array Oper} {os : List Oper} {K : List (Nat × World)} {L : List Asr} {i : Nat} {O : Own} {G : Grows}
variable {al : List Nat} {zc : Nat → List Value} {ta : Nat → TypeId} {lo ef jy : Nat} {d : Nat} {ty : TypeId} {pos : String} {aft_ : Array Edge} {v : Value}
def osY (O : Own) (j jx B : Nat) (cs : List Value) (U : TypeId) : Option Value → Own
 | none => O
 | some y => O.set j (B, splice cs jx y.cells.toList, U)
theorem eff_stP {T U : TypeId} {x : Operand} {tyy B m : Nat} {cs : List Value} {py : Asr} (j jx : Nat) (li : Fr) (hal : al.contains ef = false) (hij : Nat.beq ef jy = false) (hi : ops[ef]? = some ⟨none, .store T x (.tmp tyy), ty, pos, aft_, none⟩) (hjy : (ops[jy]?).bind (·.dst) = some tyy) (hwy : waitsFor ops ef jy tyy = true) (hja : al.contains jy = false) (hLy : atI L jy = py) (hNo : NoAsr al ef L) (hli : AllO n ops l L ef li) (hx : evL li x = some (.pointer (some ⟨B, jx, none⟩)))
  (hO : O[j]? = some (B, cs, U)) (hsz : ∀ w, (sizeOf T).run P w = .ok m w) (hpy : ∀ v w, py v w → ∃ vs : List Value, v.cells = vs.toArray ∧ vs.length = m ∧ vs.all Value.oneCell' = true) (hjm : Nat.ble (jx + m) cs.length = true) : SG P n ops Q l w0 K lo al ef jy (caNo zc) ta (osY O j jx B cs U) (gsNo G) L ef :=
 sg_eff hal hij hi fun t0 a bs w h0 hF hG hbs hD => by
  have hD' := deps_has h0 hF hD (fun j d _ hj => hNo j hj)
  have ex := allO_has h0 hF hD' hli x _ hx
  have hy := ((hD jy tyy hwy).2.2.2 (fun h => by rw [List.contains_iff_mem.2 h] at hja; cases hja) (fun e => by rw [e, Nat.beq_refl] at hij; cases hij)).here
  rw [hLy] at hy
  obtain ⟨vs, hc, hl, h1⟩ := hpy _ _ hy
  have hcl : (a.eval (.tmp tyy)).cells.toList = vs := by rw [hc]
  have hOk : (OE (caNo zc) ta (osY O j jx B cs U) ⟨none, bs⟩)[bs.length + j]? = some (B, cs, U) := by
   unfold OE
   rw [List.getElem?_append_right (by simp)]
   simpa [osY] using hO
  have hXB : XB (OE (caNo zc) ta (osY O j jx B cs U) ⟨none, bs⟩) (gsNo G none) B := .inl ⟨_, List.mem_of_getElem? hOk, rfl⟩
  have hrun := storeAt_many (P := P) hsz hc hl h1 (hG.1.at_ _ hOk) (j := jx) (Nat.le_of_ble_eq_true hjm)
  have hO' : OE (caNo zc) ta (osY O j jx B cs U) ⟨some (a.eval (.tmp tyy)), bs⟩ = (OE (caNo zc) ta (osY O j jx B cs U) ⟨none, bs⟩).set (bs.length + j) (B, splice cs jx vs, U) := by
   unfold OE
   rw [List.set_append_right _ _ (by simp)]
   congr 1
   simp [osY, hcl]
  refine wp_store hi rfl rfl rfl (by rw [ex]; exact hrun) ⟨undef, a.eval (.tmp tyy), rfl, (fun d hd => by cases hd), ?_, setMany_sameX hXB, ?_, fun d hd => ?_⟩
  ·rw [hO']
   exact hG.1.setMany _ vs jx hOk
  ·rintro b (⟨p, hp, rfl⟩ | h)
   ·rw [hO'] at hp
    rcases List.mem_or_eq_of_mem_set hp with hp | rfl
    ·exact .inl (.inl ⟨p, hp, rfl⟩)
    ·exact .inl hXB
   ·exact .inl (.inr h)
  ·rw [hjy] at hd; cases hd; rfl
end
section
variable {P : Program} {n : Nat} {Q : Exit → Act → World → Prop} {l : Fr} {w0 W : World} {ops : Array Oper} {os : List Oper} {K : List (Nat × World)} {L : List Asr} {i : Nat}
variable {al : List Nat} {ca : Nat → Option Value → List Value} {ta : Nat → TypeId} {Os : Option Value → Own} {Gs : Option Value → Grows} {lo ef jy : Nat} {s : Sg}
variable {d : Nat} {op : Op} {ty : TypeId} {pos : String} {aft_ : Array Edge} {v : Value} {gd : Option (Nat × Bool)}
theorem sg_of {p q : Asr} {td j0 : Nat} (hal : al.contains i = false) (hie : Nat.beq i ef = false) (hij : earlyJ ops ef jy i = true) (hi : ops[i]? = some ⟨some d, op, ty, pos, aft_, none⟩) (hNo : NoAsr al ef L) (hw : waitsFor ops i j0 td = true) (hja : al.contains j0 = false) (hje : Nat.beq j0 ef = false) (hLp : atI L j0 = p)
  (hr : ∀ (ev : Operand → Value) w, p (ev (.tmp td)) w → ∃ v, (execOp ev ⟨some d, op, ty, pos, #[], none⟩).run P w = .ok (.value v) w ∧ ∀ w', p (ev (.tmp td)) w' → q v w') (hI : atI L i = q) : SG P n ops Q l w0 K lo al ef jy ca ta Os Gs L i :=
 sg_base (fun h => by rw [List.contains_iff_mem.2 h] at hal; cases hal) (fun e => by rw [e, Nat.beq_refl] at hie; cases hie) (earlyJ_of hij) hi hNo fun t0 a s w h0 hF hG he hD hD' => by
  have hA := (hD j0 td hw).2.2.2 (fun h => by rw [List.contains_iff_mem.2 h] at hja; cases hja) (fun e => by rw [e, Nat.beq_refl] at hje; cases hje)
  rw [hLp] at hA
  obtain ⟨v, h1, h2⟩ := hr a.eval w hA.here
  exact wp_val hi rfl (by rw [execOp_guard a.eval _ _ _ _ pos _ #[] _ none]; exact h1) ⟨v, rfl, by rw [hI]; exact fun w2 hw2 => h2 w2 (hA w2 hw2), Below.refl _ _⟩
end
end Go.Proofs.Ytpkcaabbcoiiiaa
namespace Go.Proofs.Ytpkcaabbcoiiiaa
open Go Go.RowKit
def isAppN9 (lo : Nat) (zs : List Int) : Asr := fun v w => ∃ a c, v = .slice a zs.length c ∧ RowN lo w a c zs
theorem setRow_same9 {w : World} {B : Nat} {cur : Array Value} {e : TypeId} (h : w.heap[B]? = some (.cells cur e (0, 0))) : Below w.heap.size w (w.setRow B cur) ∧ (w.setRow B cur).heap[B]? = some (.cells cur e (0, 0)) := by
 have hk : ∀ k : Nat, (w.setRow B cur).heap[k]? = w.heap[k]? := fun k => by
  unfold World.setRow
  simp only [Array.getElem?_modify]
  by_cases hk : B = k
  ·subst hk; simp [h]
  ·simp [hk]
 exact ⟨⟨rfl, rfl, rfl, by unfold World.setRow; simp, fun k _ => hk k⟩, (hk B).trans h⟩
theorem run_lit9 {w : World} {B : Nat} {x : Int} {la : Option Addr} {ll lc : Nat} {is : List Int} {ty : TypeId} (hB : w.heap[B]? = some (.cells #[.int .i64 x] 3 (0, 0))) (hr : Row w la is) (hl : is.length = ll) (hm : ll ≤ 5000) :
  ∃ v w', (Builtin.append_ #[29, 29] ty #[.slice (some ⟨B, 0, none⟩) 1 1, .slice la ll lc]).run Try.prog w = .ok v w' ∧ ((is = [] ∧ v = .slice (some ⟨B, 0, none⟩) 1 1) ∨ isAppN9 w.heap.size (x :: is) v w') ∧ Below w.heap.size w w' := by
 have hlt := lt_of_heap hB
 have own : ∀ w' : World, w'.heap[B]? = some (.cells #[.int .i64 x] 3 (0, 0)) → w'.ownsRow B 3 1 (.slice (some ⟨B, 0, none⟩) 1 1) 1 [.int .i64 x] := fun w' h => ⟨rfl, .inr ⟨B, 1, _, rfl, Nat.le_refl _, h, Nat.le_refl _, by decide, rfl, rfl⟩⟩
 cases is with
 | nil =>
  subst hl
  cases la with
  | none => exact ⟨_, w, run_append_noneC (P := Try.prog) B _ ty _ _ 1 Try.underlying29 inf_3 _ 1 _ lc (own w hB), (.inl ⟨rfl, rfl⟩), Below.refl _ _⟩
  | some p =>
   obtain ⟨h1, h2⟩ := setRow_same9 hB
   refine ⟨_, _, (run_append_room (P := Try.prog) w _ ty _ _ Try.underlying29 inf_3 B 1 1 #[.int .i64 x] hB p 0 lc [] rfl (fun j u hj => by simp at hj) (fun u hu => by cases hu) (by decide) (Nat.le_refl 1)), ?_, ?_⟩
   ·exact .inl ⟨rfl, rfl⟩
   ·exact h1
 | cons y t =>
  rcases hr with h | ⟨b, off, rfl, hc⟩
  ·cases h
  ·have hlen : ll = t.length + 1 := by rw [← hl]; rfl
   have hcells : ∀ (j : Nat) u, ((y :: t).map (Value.int .i64))[j]? = some u → w.cell? ((⟨b, off, none⟩ : Addr).add j) = some u := fun j u hj => by
    rw [List.getElem?_map] at hj
    obtain ⟨z, hz, rfl⟩ := Option.map_eq_some_iff.1 hj
    have h9 := hc j (List.getElem?_eq_some_iff.1 hz).1
    rw [List.getD_eq_getElem?_getD, hz] at h9
    rw [Addr.add_lit]; exact h9
   have hrun := run_append_grow (P := Try.prog) w 29 ty 3 _ _ Try.underlying29 inf_3 rfl ⟨B, 0, none⟩ 1 1 [.int .i64 x] rfl (fun j u hj => by
    rw [Addr.add_lit, Nat.zero_add]
    simp only [World.cell?, hB]
    simpa using hj) ⟨b, off, none⟩ ll lc ((y :: t).map (Value.int .i64)) (by show _ = ll * 1; rw [List.length_map, hl]; omega) hcells (by omega) (by omega) (growslice_fits (by omega) (by show (1 + ll) * 8 ≤ _; omega))
   obtain ⟨cap, hcap⟩ : ∃ c, c = grownCap w (1 + ll) 1 3 := ⟨_, rfl⟩
   have hge := grownCap_ge w (1 + ll) 1 3
   have hle := grownCap_le_maxLen w (1 + ll) 1 3 (by simp only [maxLen]; omega)
   rw [← hcap] at hrun hge hle
   refine ⟨_, _, hrun, .inr ⟨_, cap, by rw [show (x :: y :: t).length = 1 + ll by simp; omega], ?_⟩, (Below.refl _ _).drew.alloc (Nat.le_refl _) _⟩
   unfold RowN
   rw [show (x :: y :: t).length = 1 + ll by simp; omega]
   refine ⟨by rw [List.length_map]; simp; omega, .inr ⟨w.heap.size, cap, _, rfl, Nat.le_refl _, heap_alloc_new w.drew _, hge, hle, ?_, ?_⟩⟩
   ·have hz : (Builtin.zeroCells (Value.int .i64 0).cells (cap - (1 + ll))).size = (cap - (1 + ll)) * 1 := size_zeroCells _ _
    simp only [Array.size_append, List.size_toArray, List.length_map, hl, List.length_cons, List.length_nil]
    have hz2 := hz
    show 0 + 1 + ll + (Builtin.zeroCells (Value.int .i64 0).cells (cap - (1 + ll))).size = _
    rw [hz2]; omega
   ·rw [Array.toList_append, Array.toList_append, List.append_assoc]
    show ([Value.int .i64 x] ++ ((y :: t).map (Value.int .i64) ++ _)).take ((1 + ll) * 1) = _
    rw [← List.append_assoc, List.take_append_of_le_length (by simp; omega), List.take_of_length_le (by simp; omega)]
    rfl
section
variable {n : Nat} {Q : Exit → Act → World → Prop} {l : Fr} {w0 W : World} {ops : Array Oper} {os : List Oper} {K : List (Nat × World)} {L : List Asr} {i : Nat}
variable {al : List Nat} {ca : Nat → Option Value → List Value} {ta : Nat → TypeId} {Os : Option Value → Own} {Gs : Option Value → Grows} {lo ef jy : Nat} {s : Sg}
variable {d : Nat} {ty : TypeId} {pos : String} {aft_ : Array Edge}
theorem sg_appLit9 {j0 tx tyy : Nat} {x : Int} {la : Option Addr} {ll lc : Nat} {is : List Int} (hal : al.contains i = false) (hie : Nat.beq i ef = false) (hij : earlyJ ops ef jy i = true) (hi : ops[i]? = some ⟨some d, .call { callee := .builtin .append, args := #[.tmp tx, .tmp tyy], argTypes := #[29, 29] }, ty, pos, aft_, none⟩) (hNo : NoAsr al ef L)
  (hw : waitsFor ops i j0 tx = true) (hja : al.contains j0 = false) (hje : Nat.beq j0 ef = false) (hLp : atI L j0 = isRow lo 1 3 [.int .i64 x]) (hq : OpG n ops l L i tyy (isV (.slice la ll lc))) (hr : ∀ ev w, St w0 (Os ev) (Gs ev) K w → Row w la is) (hl : is.length = ll) (hm : ll ≤ 5000) (hI : atI L i = isAppN9 lo (x :: is)) : SG Try.prog n ops Q l w0 K lo al ef jy ca ta Os Gs L i :=
 sg_base (fun h => by rw [List.contains_iff_mem.2 h] at hal; cases hal) (fun e => by rw [e, Nat.beq_refl] at hie; cases hie) (earlyJ_of hij) hi hNo fun t0 a s w h0 hF hG he hD hD' => by
  have hA := (hD j0 tx hw).2.2.2 (fun h => by rw [List.contains_iff_mem.2 h] at hja; cases hja) (fun e => by rw [e, Nat.beq_refl] at hje; cases hje)
  rw [hLp] at hA
  obtain ⟨B, ex, hlo, hB⟩ := hA.here
  have ey : a.eval (.tmp tyy) = .slice la ll lc := hq t0 h0 a w hF hD'
  have hS : St w0 (Os s.ev) (Gs s.ev) K w := St.drops _ hG.1
  obtain ⟨v, w', h1, h2, h4⟩ := run_lit9 (ty := ty) (lc := lc) hB (hr s.ev w hS) hl hm
  refine wp_val hi rfl (v := v) (w' := w') (by
   unfold execOp
   simp only [resolve, invoke, builtin, Sem.run_bind, Sem.run_pure, Result.andThen_ok, List.map_toArray, List.map_cons, List.map_nil, ex, ey, h1]) ⟨v, rfl, ?_, h4⟩
  rw [hI]
  rcases h2 with ⟨e1, e2⟩ | h2
  ·subst e1; subst e2
   intro w2 hw2
   obtain ⟨B2, ex2, hlo2, hB2⟩ := hA w2 ((sameX_of h4).trans hw2 (fun b hb => .inl hb))
   rw [ex] at ex2
   cases ex2
   exact ⟨_, _, rfl, rfl, .inr ⟨B, 1, _, rfl, hlo2, hB2, Nat.le_refl _, by decide, rfl, rfl⟩⟩
  ·obtain ⟨a9, c9, rfl, h9⟩ := h2
   intro w2 hw2
   refine ⟨a9, c9, rfl, ?_⟩
   unfold RowN at h9 ⊢
   refine ownsRow_base (ownsRow_same h9 (fun b hb => ?_)) hG.2.1
   rcases h9.2 with ⟨e1, _⟩ | ⟨g, cap, cur, e1, hg, hh, _⟩
   ·cases e1
   ·have e2 : a9 = some ⟨g, 0, none⟩ := by injection e1
    subst e2
    have e3 : g = b := Option.some.inj hb
    subst e3
    refine hw2.2.2 _ (Nat.le_trans hG.2.1 hg) (lt_of_heap hh) (fun hx => ?_)
    rcases hx with ⟨q, hq, e4⟩ | ⟨g2, hg2, hgb⟩
    ·have h5 := lt_of_heap (hG.1.own q hq).2
     rw [e4] at h5
     exact absurd h5 (Nat.not_lt_of_le hg)
    ·exact absurd (hG.1.glt hg2 hgb).2 (Nat.not_lt_of_le hg)
theorem sg_ofs {P : Program} {op : Op} (dd : List (Nat × Nat × Asr)) (hal : al.contains i = false) (hie : Nat.beq i ef = false) (hij : earlyJ ops ef jy i = true) (hi : ops[i]? = some ⟨some d, op, ty, pos, aft_, none⟩) (hNo : NoAsr al ef L) {q : Asr} (hds : DepsL ops L i dd) (hnd : dd.all (fun x => !(al.contains x.1) && !(Nat.beq x.1 ef)) = true)
  (hr : ∀ (ev : Operand → Value) w, DepsH dd ev w → ∃ v, (execOp ev ⟨some d, op, ty, pos, #[], none⟩).run P w = .ok (.value v) w ∧ ∀ w2, DepsH dd ev w2 → q v w2) (hI : atI L i = q) : SG P n ops Q l w0 K lo al ef jy ca ta Os Gs L i :=
 sg_base (fun h => by rw [List.contains_iff_mem.2 h] at hal; cases hal) (fun e => by rw [e, Nat.beq_refl] at hie; cases hie) (earlyJ_of hij) hi hNo fun t0 a s w h0 hF hG he hD hD' => by
  have key : ∀ (dd : List (Nat × Nat × Asr)), DepsL ops L i dd → dd.all (fun x => !(al.contains x.1) && !(Nat.beq x.1 ef)) = true → ∀ w2, SameX lo (XB (OE ca ta Os s) (Gs s.ev)) w w2 → DepsH dd a.eval w2 := by
   intro dd
   induction dd with
   | nil => intro _ _ w2 _; trivial
   | cons x xs ih =>
    intro h hn w2 h2
    simp only [List.all_cons, Bool.and_eq_true, Bool.not_eq_true'] at hn
    refine ⟨?_, ih h.2 hn.2 w2 h2⟩
    have hA := (hD x.1 x.2.1 h.1.1).2.2.2 (fun h9 => by rw [List.contains_iff_mem.2 h9] at hn; cases hn.1.1) (fun e => by rw [e, Nat.beq_refl] at hn; cases hn.1.2)
    rw [h.1.2] at hA
    exact hA w2 h2
  obtain ⟨v, h1, h2⟩ := hr a.eval w (key dd hds hnd w (SameX.refl _ _ _))
  exact wp_val hi rfl (by rw [execOp_guard a.eval _ _ _ _ pos _ #[] _ none]; exact h1) ⟨v, rfl, by rw [hI]; exact fun w2 hw2 => h2 w2 (key dd hds hnd w2 hw2), Below.refl _ _⟩
end
end Go.Proofs.Ytpkcaabbcoiiiaa
namespace Go.Proofs.Ytpkcaabbcoiiiaa
open Go Go.RowKit
theorem bld_87_0 (v00 : Value) (v01 : Value) (v02 : Value) (v03 : Value) (v04 : Value) (v05 : Value) (v06 : Value) (v07 : Value) (v08 : Value) : Try.prog.built 87 [(0, .agg #[v00, v01, v02, v03, v04, v05, v06, v07, v08])] = some #[v00, v01, v02, v03, v04, v05, v06, v07, v08, .int .i64 0, .int .i64 0, .slice none 0 0, .int .i64 0, .int .i64 0, .slice none 0 0, .slice none 0 0, .slice none 0 0] := by kernel_rfl
theorem bld_28_0_1_2 (v00 : Value) (v01 : Value) (v02 : Value) (v1 : Int) (v2 : Int) : Try.prog.built 28 [(0, .agg #[v00, v01, v02]), (1, .int .i64 v1), (2, .int .i64 v2)] = some #[v00, v01, v02, .int .i64 v1, .int .i64 v2, .slice none 0 0] := by kernel_rfl
theorem bld_33 : Try.prog.built 33 [] = some #[.int .i64 0, .int .i64 0, .slice none 0 0, .int .i64 0, .int .i64 0, .slice none 0 0, .slice none 0 0, .slice none 0 0] := by kernel_rfl
theorem goes_33 : goesIn Try.prog 33 = true := by kernel_rfl
theorem shortA_c (ds d : Nat) (s : SV) (st sy : Int) (ra : Option Addr) (rl rc : Nat) (rs : List RV) (w : World) (hs : SIn w ds s) (hprow : RRow w ra rs) (hplen : rs.length = rl) (hin : ∀ r ∈ rs, RIn w d r) (ht : Tabs w) (S : PS) (px : RV → PX) (hpx : pdsE ⟨s, st, sy, ra, rl, rc, rs⟩ = 0 → PdsOk w S px ⟨s, st, sy, ra, rl, rc, rs⟩) :
  Calls Try.prog 8 #[.agg #[.int .i64 s.f.tag, .int .i64 s.f.dim, .slice s.f.a s.f.len s.f.cap, .int .i64 st, .int .i64 sy, .slice ra rl rc]] w (ShortRet S px ⟨s, st, sy, ra, rl, rc, rs⟩ w) := by
 refine enterF (args := [.agg #[.int .i64 s.f.tag, .int .i64 s.f.dim, .slice s.f.a s.f.len s.f.cap, .int .i64 st, .int .i64 sy, .slice ra rl rc]]) Try.func8 rfl Try.ntmps8 rfl ?_
 have hS := St.start w
 refine seqF (regF ?_)
 refine op_box (cs := [_, _, _, _, _, _]) hS rfl rfl rfl ?_
 clear hS; intro B1 W1 hS
 refine op_alloc (cs := [_, _, _, _, _, _, _, _]) hS Try.zeroValue33 rfl rfl ?_
 clear hS; intro B2 W2 hS
 refine op_assign rfl rfl ?_
 refine endF (XF.thenN ?_)
 refine seqF ?_
 refine seqF (regF ?_)
 refine op_loadA (vs := [_, _, _, _, _, _]) Try.isAgg28 Try.sizeOf28 rfl (CellsAt.own (j := 0) (m := 6) (hS.at_ 1 rfl) rfl) rfl ?_
 refine op_call (vs := [_]) hS goes_30 rfl (pdsA_is ds d ⟨s, st, sy, ra, rl, rc, rs⟩ _ (PvIn.below ⟨hs, hprow, hplen, hin⟩ hS.below)) rfl ?_
 rintro e W3 ⟨rfl, hb⟩
 refine ⟨_, rfl, hb, fun hS' => ?_⟩
 clear hS; have hS := hS'; clear hS' hb
 refine op_assign rfl rfl ?_
 refine endF (XF.thenN ?_)
 refine seqF (regF ?_)
 refine op_move rfl rfl ?_
 refine op_neq rfl rfl rfl ?_
 refine endF (XF.thenN ?_)
 refine condF rfl (fun hc => ?_) (fun hc => ?_)
 ·have hc14 := of_decide_eq_true hc; clear hc
  refine seqF (regF ?_)
  refine op_build (us := []) rfl (bld_33) rfl ?_
  refine op_move rfl rfl ?_
  refine op_storeA (i := 0) (vs := [_, _, _, _, _, _, _, _]) (cs' := [_, _, _, _, _, _, _, _]) (O' := [_, _]) hS Try.sizeOf33 rfl rfl (by first | rfl | (have h0 := hS.oneV 0 _ rfl; have h1 := hS.oneV 1 _ rfl; have h2 := hS.oneV 2 _ rfl; simp only [List.all_cons, List.all_nil, Bool.and_true, Bool.and_eq_true]; exact ⟨rfl, rfl, rfl, rfl, rfl, h0, h1, h2⟩)) rfl rfl rfl rfl ?_
  clear hS; intro W4 hS
  refine op_assign rfl rfl ?_
  refine endF (XF.thenN ?_)
  refine retF ?_
  refine XF.thenR ?_
  refine XF.res (resCT (vs := [_, _, _, _, _, _, _, _]) Try.results8 Try.isAgg33 Try.sizeOf33 rfl (CellsAt.own (j := 0) (m := 8) (hS.at_ 0 rfl) rfl) rfl) ?_
  exact shortRet_bad hc14 hS.below
 ·have hc14 := of_decide_eq_false hc; clear hc
  have hE : pdsE ⟨s, st, sy, ra, rl, rc, rs⟩ = 0 := Decidable.of_not_not hc14
  have hok := hpx hE
  have hmo := moreF_bound hok hplen
  have hrl : rl ≤ 16384 := hok.rl
  have hst : 0 ≤ st ∧ st ≤ 4096 := hok.st
  have hsy : 0 ≤ sy ∧ sy ≤ 4096 := hok.sy
  have hmo : moreF rs ≤ 67108864 := hmo
  refine skipF ?_
  refine XF.thenN ?_
  refine seqF (regF ?_)
  refine op_assign rfl rfl ?_
  refine endF (XF.thenN ?_)
  refine seqF ?_
  refine seqF (regF ?_)
  refine op_field (o' := 5) fa_28_3 rfl rfl rfl ?_
  refine op_load Try.isAgg26 rfl (cell_own (hS.at_ 1 rfl) rfl) rfl ?_
  refine op_len Try.underlying26 rfl rfl ?_
  refine op_move rfl rfl ?_
  refine endF (XF.thenN ?_)
  refine blockF ?_
  refine loopF (fun m l W => ∃ i : Nat, i ≤ rl ∧ m = rl - i ∧ l = [(1, .pointer (some ⟨B1, 0, none⟩)), (2, .pointer (some ⟨B2, 0, none⟩)), (3, .int .i64 0), (5, .int .i64 (moreF (rs.take i) : Int)), (18, .slice ra rl rc), (19, .int .i64 (rl : Int)), (20, .int .i64 (i : Int))] ∧ St w [(B2, z8, 33), (B1, [.int .i64 s.f.tag, .int .i64 s.f.dim, .slice s.f.a s.f.len s.f.cap, .int .i64 st, .int .i64 sy, .slice ra rl rc], 28)] [] [] W) (rl - 0) ([(1, _), (2, _), (3, _), (5, _), (18, _), (19, _), (20, _)]) ⟨rfl, rfl, rfl, rfl, rfl, rfl, rfl, trivial⟩ (⟨0, Nat.zero_le _, rfl, rfl, hS.clear⟩) ?_
  clear hS
  rintro m l W ⟨i, hi, rfl, rfl, hS⟩
  refine seqF (regF ?_)
  refine op_lss rfl rfl rfl ?_
  refine endF (XF.thenN ?_)
  refine seqF ?_
  refine condF rfl (fun hc => ?_) (fun hc => ?_)
  ·have hc21 := of_decide_eq_true hc; clear hc
   have hk : i < rl := by omega
   obtain ⟨r, hr⟩ : ∃ r, rs[i]? = some r := ⟨rs[i]'(by omega), by simp [show i < rs.length by omega]⟩
   obtain ⟨b, off, rfl, hcs⟩ := hprow.at_ hr
   have k1 := CellsAt.agree hS.agree (Nat.zero_le _) hcs
   have hri := hin r (List.mem_of_getElem? hr)
   have hr4 : r.wl ≤ 4096 := hok.w4 r (List.mem_of_getElem? hr)
   have hmt := moreF_take_le (rs := rs) (i := i)
   refine skipF ?_
   refine XF.thenN ?_
   refine seqF ?_
   refine blockF ?_
   refine seqF (regF ?_)
   refine op_indexA  Try.underlying26 Try.sizeOf47 rfl rfl rfl (by omega) rfl rfl ?_
   refine op_loadA (vs := [_, _, _, _, _, _, _, _, _, _]) Try.isAgg47 Try.sizeOf47 rfl (k1) rfl ?_
   refine op_alloc (cs := [_, _, _, _, _, _, _, _, _, _]) hS Try.zeroValue47 rfl rfl ?_
   clear hS; intro B5 W5 hS
   refine op_storeA (i := 0) (vs := [_, _, _, _, _, _, _, _, _, _]) (cs' := [_, _, _, _, _, _, _, _, _, _]) (O' := [_, _, _]) hS Try.sizeOf47 rfl rfl (by first | rfl | (have h0 := hS.oneV 0 _ rfl; have h1 := hS.oneV 1 _ rfl; have h2 := hS.oneV 2 _ rfl; simp only [List.all_cons, List.all_nil, Bool.and_true, Bool.and_eq_true]; exact ⟨rfl, rfl, rfl, rfl, rfl, h0, h1, h2⟩)) rfl rfl rfl rfl ?_
   clear hS; intro W6 hS
   refine endF (XF.thenN ?_)
   refine regF ?_
   refine op_move rfl rfl ?_
   refine op_field (o' := 3) fa_47_3 rfl rfl rfl ?_
   refine op_load Try.isAgg29 rfl (cell_own (hS.at_ 0 rfl) rfl) rfl ?_
   refine op_len Try.underlying29 rfl rfl ?_
   refine op_sub rfl rfl (IntWalk.i64_in _ (by omega)) rfl ?_
   refine op_max rfl rfl rfl ?_
   refine op_add rfl rfl (IntWalk.i64_in _ (by omega)) rfl ?_
   refine op_assign rfl rfl ?_
   refine endF ?_
   refine XF.blkN ?_
   refine XF.thenN ?_
   refine regF ?_
   refine op_add rfl rfl (IntWalk.i64_in _ (by omega)) rfl ?_
   refine op_move rfl rfl ?_
   refine endF ?_
   have e9 : (moreF (rs.take i) : Int) + max ((r.wl : Int) - 2) 0 = (moreF (rs.take (i + 1)) : Int) := by rw [moreF_take hr]; omega
   exact XF.round (rl - (i + 1)) [(1, _), (2, _), (3, _), (5, _), (18, _), (19, _), (20, _)] (by omega) ⟨rfl, rfl, rfl, rfl, rfl, rfl, rfl, trivial⟩ ⟨i + 1, by omega, rfl, by rw [← e9]; rfl, hS.tail⟩
  ·have hc21 := of_decide_eq_false hc; clear hc
   rw [List.take_of_length_le (by omega)]
   refine exitF ?_
   refine XF.thenX ?_
   refine XF.thenX ?_
   refine XF.blkX ?_
   refine XF.thenN ?_
   refine seqF ?_
   refine seqF (regF ?_)
   refine op_field (o' := 3) fa_28_1 rfl rfl rfl ?_
   refine op_load Try.isAgg3 rfl (cell_own (hS.at_ 1 rfl) rfl) rfl ?_
   refine op_move rfl rfl ?_
   refine op_add rfl rfl (IntWalk.i64_in _ (by omega)) rfl ?_
   refine op_gtr rfl rfl rfl ?_
   refine op_move rfl rfl ?_
   refine op_cases (d := 37) rfl (fun hc => ?_) (fun hc => ?_)
   ·have hg37 := of_decide_eq_true hc; clear hc
    refine op_notF (d := 37) rfl rfl rfl rfl ?_
    refine op_notF (d := 37) rfl rfl rfl rfl ?_
    refine op_notF (d := 37) rfl rfl rfl rfl ?_
    refine op_notF (d := 37) rfl rfl rfl rfl ?_
    refine op_notF (d := 37) rfl rfl rfl rfl ?_
    refine op_pickT rfl rfl rfl ?_
    refine op_move rfl rfl ?_
    refine op_notF (d := 44) rfl rfl rfl rfl ?_
    refine op_notF (d := 44) rfl rfl rfl rfl ?_
    refine op_notF (d := 44) rfl rfl rfl rfl ?_
    refine op_notF (d := 44) rfl rfl rfl rfl ?_
    refine op_notF (d := 44) rfl rfl rfl rfl ?_
    refine op_notF (d := 44) rfl rfl rfl rfl ?_
    refine op_pickT rfl rfl rfl ?_
    refine endF (XF.thenN ?_)
    refine condT rfl ?_
    refine seqF (regF ?_)
    refine op_build (us := []) rfl (bld_33) rfl ?_
    refine op_storeA (i := 0) (vs := [_, _, _, _, _, _, _, _]) (cs' := [_, _, _, _, _, _, _, _]) (O' := [_, _]) hS Try.sizeOf33 rfl rfl (by first | rfl | (have h0 := hS.oneV 0 _ rfl; have h1 := hS.oneV 1 _ rfl; have h2 := hS.oneV 2 _ rfl; simp only [List.all_cons, List.all_nil, Bool.and_true, Bool.and_eq_true]; exact ⟨rfl, rfl, rfl, rfl, rfl, h0, h1, h2⟩)) rfl rfl rfl rfl ?_
    clear hS; intro W7 hS
    refine op_assign rfl rfl ?_
    refine endF (XF.thenN ?_)
    refine retF ?_
    refine XF.thenR ?_
    refine XF.res (resCT (vs := [_, _, _, _, _, _, _, _]) Try.results8 Try.isAgg33 Try.sizeOf33 rfl (CellsAt.own (j := 0) (m := 8) (hS.at_ 0 rfl) rfl) rfl) ?_
    exact shortRet_many hE (tooMany_of (p := ⟨s, st, sy, ra, rl, rc, rs⟩) (by dsimp only; omega)) hS.below
   ·have hg37 := of_decide_eq_false hc; clear hc
    refine op_wantedF (d := 37) rfl rfl ?_
    refine op_field (o' := 4) fa_28_2 rfl rfl rfl ?_
    refine op_wantedF (d := 37) rfl rfl ?_
    refine op_load Try.isAgg3 rfl (cell_own (hS.at_ 1 rfl) rfl) rfl ?_
    refine op_wantedF (d := 37) rfl rfl ?_
    refine op_move rfl rfl ?_
    refine op_wantedF (d := 37) rfl rfl ?_
    refine op_add rfl rfl (IntWalk.i64_in _ (by omega)) rfl ?_
    refine op_wantedF (d := 37) rfl rfl ?_
    refine op_gtr rfl rfl rfl ?_
    refine op_pickF rfl rfl rfl ?_
    refine op_move rfl rfl ?_
    refine op_cases (d := 44) rfl (fun hc => ?_) (fun hc => ?_)
    ·have hg44 := of_decide_eq_true hc; clear hc
     refine op_notF (d := 44) rfl rfl rfl rfl ?_
     refine op_notF (d := 44) rfl rfl rfl rfl ?_
     refine op_notF (d := 44) rfl rfl rfl rfl ?_
     refine op_notF (d := 44) rfl rfl rfl rfl ?_
     refine op_notF (d := 44) rfl rfl rfl rfl ?_
     refine op_notF (d := 44) rfl rfl rfl rfl ?_
     refine op_pickT rfl rfl rfl ?_
     refine endF (XF.thenN ?_)
     refine condT rfl ?_
     refine seqF (regF ?_)
     refine op_build (us := []) rfl (bld_33) rfl ?_
     refine op_storeA (i := 0) (vs := [_, _, _, _, _, _, _, _]) (cs' := [_, _, _, _, _, _, _, _]) (O' := [_, _]) hS Try.sizeOf33 rfl rfl (by first | rfl | (have h0 := hS.oneV 0 _ rfl; have h1 := hS.oneV 1 _ rfl; have h2 := hS.oneV 2 _ rfl; simp only [List.all_cons, List.all_nil, Bool.and_true, Bool.and_eq_true]; exact ⟨rfl, rfl, rfl, rfl, rfl, h0, h1, h2⟩)) rfl rfl rfl rfl ?_
     clear hS; intro W8 hS
     refine op_assign rfl rfl ?_
     refine endF (XF.thenN ?_)
     refine retF ?_
     refine XF.thenR ?_
     refine XF.res (resCT (vs := [_, _, _, _, _, _, _, _]) Try.results8 Try.isAgg33 Try.sizeOf33 rfl (CellsAt.own (j := 0) (m := 8) (hS.at_ 0 rfl) rfl) rfl) ?_
     exact shortRet_many hE (tooMany_of (p := ⟨s, st, sy, ra, rl, rc, rs⟩) (by dsimp only; omega)) hS.below
    ·have hg44 := of_decide_eq_false hc; clear hc
     refine op_wantedF (d := 44) rfl rfl ?_
     refine op_field (o' := 5) fa_28_3 rfl rfl rfl ?_
     refine op_wantedF (d := 44) rfl rfl ?_
     refine op_load Try.isAgg26 rfl (cell_own (hS.at_ 1 rfl) rfl) rfl ?_
     refine op_wantedF (d := 44) rfl rfl ?_
     refine op_len Try.underlying26 rfl rfl ?_
     refine op_wantedF (d := 44) rfl rfl ?_
     refine op_move rfl rfl ?_
     refine op_wantedF (d := 44) rfl rfl ?_
     refine op_add rfl rfl (IntWalk.i64_in _ (by omega)) rfl ?_
     refine op_wantedF (d := 44) rfl rfl ?_
     refine op_gtr rfl rfl rfl ?_
     refine op_pickF rfl rfl rfl ?_
     refine endF (XF.thenN ?_)
     refine condF rfl (fun hc => ?_) (fun hc => ?_)
     ·have hc51 := of_decide_eq_true hc; clear hc
      refine seqF (regF ?_)
      refine op_build (us := []) rfl (bld_33) rfl ?_
      refine op_storeA (i := 0) (vs := [_, _, _, _, _, _, _, _]) (cs' := [_, _, _, _, _, _, _, _]) (O' := [_, _]) hS Try.sizeOf33 rfl rfl (by first | rfl | (have h0 := hS.oneV 0 _ rfl; have h1 := hS.oneV 1 _ rfl; have h2 := hS.oneV 2 _ rfl; simp only [List.all_cons, List.all_nil, Bool.and_true, Bool.and_eq_true]; exact ⟨rfl, rfl, rfl, rfl, rfl, h0, h1, h2⟩)) rfl rfl rfl rfl ?_
      clear hS; intro W9 hS
      refine op_assign rfl rfl ?_
      refine endF (XF.thenN ?_)
      refine retF ?_
      refine XF.thenR ?_
      refine XF.res (resCT (vs := [_, _, _, _, _, _, _, _]) Try.results8 Try.isAgg33 Try.sizeOf33 rfl (CellsAt.own (j := 0) (m := 8) (hS.at_ 0 rfl) rfl) rfl) ?_
      exact shortRet_many hE (tooMany_of (p := ⟨s, st, sy, ra, rl, rc, rs⟩) (by dsimp only; omega)) hS.below
     ·have hc51 := of_decide_eq_false hc; clear hc
      have hfew : tooMany ⟨s, st, sy, ra, rl, rc, rs⟩ = false := tooMany_no (by dsimp only; omega) (by dsimp only; omega) (by dsimp only; omega)
      refine skipF ?_
      refine XF.thenN ?_
      refine seqF (regF ?_)
      refine op_field (o' := 0) fa_28_0 rfl rfl rfl ?_
      refine op_loadA (vs := [_, _, _]) Try.isAgg25 Try.sizeOf25 rfl (CellsAt.own (j := 0) (m := 3) (hS.at_ 1 rfl) rfl) rfl ?_
      refine op_call (vs := [_]) hS goes_31 rfl (ringOf_is S s.f _ (hok.si.below hS.below) hok.ok) rfl ?_
      rintro e W10 ⟨f0, rfl, _, hb⟩
      refine ⟨_, rfl, hb, fun hS' => ?_⟩
      clear hS; have hS := hS'; clear hS' hb
      refine op_build (us := [(0, .agg (List.toArray [_, _, _, _, _, _, _, _, _]))]) rfl (bld_87_0 _ _ _ _ _ _ _ _ _) rfl ?_
      refine op_alloc (cs := [_, _, _, _, _, _, _, _, _, _, _, _, _, _, _, _, _]) hS Try.zeroValue87 rfl rfl ?_
      clear hS; intro B11 W11 hS
      refine op_storeA (i := 0) (vs := [_, _, _, _, _, _, _, _, _, _, _, _, _, _, _, _, _]) (cs' := [_, _, _, _, _, _, _, _, _, _, _, _, _, _, _, _, _]) (O' := [_, _, _]) hS Try.sizeOf87 rfl rfl (by first | rfl | (have h0 := hS.oneV 0 _ rfl; have h1 := hS.oneV 1 _ rfl; have h2 := hS.oneV 2 _ rfl; simp only [List.all_cons, List.all_nil, Bool.and_true, Bool.and_eq_true]; exact ⟨rfl, rfl, rfl, rfl, rfl, h0, h1, h2⟩)) rfl rfl rfl rfl ?_
      clear hS; intro W12 hS
      refine endF (XF.thenN ?_)
      refine seqF ?_
      have hS7 := hS
      have hszN := hS.below.size
      refine regY (al := []) (G := fun _ => []) (E := []) (k := 7) (ds := [64, 65, 66]) followsM rfl hS rfl rfl (by kernel_rfl) (by kernel_rfl) rfl (by decide) rfl ?_
      refine bly_cons 1 rfl (isV _) (syV fst_take [(1, _)] rfl rfl (fun _ => (w_free rfl)) (fun _ => ⟨g_fr (by kernel_rfl) rfl, trivial⟩) (fun s w hw => rn_field (o' := 0) fa_28_0 rfl rfl) (at_top rfl)) ?_
      refine bly_cons 2 rfl (isV _) (syV fst_take [(57, _)] rfl rfl (fun _ => (w_free rfl)) (fun _ => ⟨g_dep 0 (by kernel_rfl) (at_n rfl rfl (at_dep rfl rfl rfl)), trivial⟩) (fun s w hw => rn_loadA (vs := [_, _, _]) Try.isAgg25 Try.sizeOf25 rfl ((CellsAt.own (j := 0) (m := 3) (hw.at_ 2 rfl) rfl))) (at_top rfl)) ?_
      refine bly_cons 3 rfl (isSpN W12.heap.size S) (sy_call fst_take (fun s => [isV _]) rfl rfl goes_32 (fun _ => w_free rfl) (fun s => ⟨p_tmp (g_dep 1 (by kernel_rfl) (at_n rfl rfl (at_dep rfl rfl rfl))), trivial⟩) (fun vs s0 w' hk hw hlo hh => by have e := holds_isV (us := [_]) hh; subst e; exact copySp_is S s.f w' (hok.si.below hw.below) hlo) (at_top rfl)) ?_
      refine bly_cons 4 rfl (isV _) (syV fst_take [(1, _)] rfl rfl (fun _ => (w_free rfl)) (fun _ => ⟨g_fr (by kernel_rfl) rfl, trivial⟩) (fun s w hw => rn_field (o' := 3) fa_28_1 rfl rfl) (at_top rfl)) ?_
      refine bly_cons 5 rfl (isV _) (syV fst_take [(60, _)] rfl rfl (fun _ => (w_free rfl)) (fun _ => ⟨g_dep 3 (by kernel_rfl) (at_n rfl rfl (at_dep rfl rfl rfl)), trivial⟩) (fun s w hw => rn_load Try.isAgg3 rfl ((cell_own (hw.at_ 2 rfl) rfl))) (at_top rfl)) ?_
      refine bly_cons 6 rfl (isV _) (syV fst_take [(1, _)] rfl rfl (fun _ => (w_free rfl)) (fun _ => ⟨g_fr (by kernel_rfl) rfl, trivial⟩) (fun s w hw => rn_field (o' := 4) fa_28_2 rfl rfl) (at_top rfl)) ?_
      refine bly_cons 7 rfl (isV _) (syV fst_take [(62, _)] rfl rfl (fun _ => (w_free rfl)) (fun _ => ⟨g_dep 5 (by kernel_rfl) (at_n rfl rfl (at_dep rfl rfl rfl)), trivial⟩) (fun s w hw => rn_load Try.isAgg3 rfl ((cell_own (hw.at_ 2 rfl) rfl))) (at_top rfl)) ?_
      refine bly_nil ?_
      intro s13 W13 Ks13 hall13 hsz13 hKs13 hS' hcov13 hfx13 hno13
      clear hS; have hS := hS'.castO (O' := [_, _, _]) rfl; clear hS'
      refine castL (L' := [AwS _ _ (isV _), AwS _ _ (isV _), AwS _ _ (isSpN W12.heap.size S), AwS _ _ (isV _), AwS _ _ (isV _), AwS _ _ (isV _), AwS _ _ (isV _)]) rfl ?_
      refine fin_sV ?_
      refine fin_sV ?_
      refine fin_p ?_; rintro vC h59; have hcovS := @hcov13; obtain ⟨sq, rfl, hs2⟩ := h59.here
      refine fin_sV ?_
      refine fin_sV ?_
      refine fin_sV ?_
      refine fin_sV ?_
      refine fin_nil ?_
      refine op_build (us := [(0, .agg (List.toArray [_, _, _])), (1, .int .i64 _), (2, .int .i64 _)]) rfl (bld_28_0_1_2 _ _ _ _ _) rfl ?_
      refine op_field (o' := 9) fa_87_1 rfl rfl rfl ?_
      refine op_field (o' := 9) fa_33_0 rfl rfl rfl ?_
      refine op_storeA (i := 0) (vs := [_, _, _, _, _, _]) (cs' := [_, _, _, _, _, _, _, _, _, _, _, _, _, _, _, _, _]) (O' := [_, _, _]) hS Try.sizeOf28 rfl rfl (by first | rfl | (have h0 := hS.oneV 0 _ rfl; have h1 := hS.oneV 1 _ rfl; have h2 := hS.oneV 2 _ rfl; simp only [List.all_cons, List.all_nil, Bool.and_true, Bool.and_eq_true]; exact ⟨rfl, rfl, rfl, rfl, rfl, h0, h1, h2⟩)) rfl rfl rfl rfl ?_
      clear hS; intro W14 hS
      refine endF (XF.thenN ?_)
      refine seqF ?_
      refine seqF ?_
      have HS2 : Held w _ (fun W2 => SpFar w.heap.size S sq W2) := fun h2 hk W3 h3 => hs2 W3 ((sameX_agree9 (hcovS h2 (fun q hq => hk q hq)) (fun b h1 hx => by have h3 := xb_lt9 hS7 hx; omega)).trans (h3.mono hszN))
      have hS := ((hS.newG 4 1).newG 3 1).newG 47 10
      refine regF ?_
      refine op_field (o' := 5) fa_28_3 rfl rfl rfl ?_
      refine op_load Try.isAgg26 rfl (cell_own (hS.at_ 2 rfl) rfl) rfl ?_
      refine op_len Try.underlying26 rfl rfl ?_
      refine op_move rfl rfl ?_
      refine endF (XF.thenN ?_)
      refine blockF ?_
      refine loopF (fun m l W => ∃ (i : Nat) (u1 u2 u3 : Value) (Kk : List (Nat × World)) (ns : List R9), i ≤ rl ∧ m = rl - i ∧ l = [(1, .pointer (some ⟨B1, 0, none⟩)), (2, .pointer (some ⟨B2, 0, none⟩)), (3, .int .i64 0), (8, .pointer (some ⟨B11, 0, none⟩)), (68, .slice ra rl rc), (69, .int .i64 (rl : Int)), (70, .int .i64 (i : Int))] ∧ ns.map R9.pl = shortF (oneX S) px (rs.take i) 0 st sy ∧ Held w Kk (fun W2 => SpFar w.heap.size S sq W2 ∧ ∀ r ∈ ns, RHeld w.heap.size S W2 r) ∧ St w [(B11, shC s.f f0 sq (st + (moreF (rs.take i) : Int)) (sy + (moreF (rs.take i) : Int)) u1 u2 u3, 87), (B2, z8, 33), (B1, [.int .i64 s.f.tag, .int .i64 s.f.dim, .slice s.f.a s.f.len s.f.cap, .int .i64 st, .int .i64 sy, .slice ra rl rc], 28)] [⟨u1, ns.length, ns.flatMap ten9, 47, 10⟩, ⟨u2, ns.length, ns.map (fun r => Value.int .i64 r.num), 3, 1⟩, ⟨u3, ns.length, ns.map (fun r => Value.bool r.first), 4, 1⟩] Kk W) (rl - 0) ([(1, _), (2, _), (3, _), (8, _), (68, _), (69, _), (70, _)]) ⟨rfl, rfl, rfl, rfl, rfl, rfl, rfl, trivial⟩ (⟨0, _, _, _, _, [], Nat.zero_le _, rfl, rfl, rfl, fun h2 hk => ⟨HS2 h2 (fun q hq => hk q (List.mem_append_left _ hq)), fun r hr => by cases hr⟩, hS.castO (by simp [moreF])⟩) ?_
      clear hS
      rintro m l W ⟨i, u1, u2, u3, Kk, ns, hi, rfl, rfl, hns, HN, hS⟩
      refine seqF (regF ?_)
      refine op_lss rfl rfl rfl ?_
      refine endF (XF.thenN ?_)
      refine seqF ?_
      refine condF rfl (fun hc => ?_) (fun hc => ?_)
      ·have hc71 := of_decide_eq_true hc; clear hc
       have hk : i < rl := by omega
       obtain ⟨r, hr⟩ : ∃ r, rs[i]? = some r := ⟨rs[i]'(by omega), by simp [show i < rs.length by omega]⟩
       obtain ⟨b, off, rfl, hcs⟩ := hprow.at_ hr
       have k1 := CellsAt.agree hS.agree (Nat.zero_le _) hcs
       have hri := hin r (List.mem_of_getElem? hr)
       have hr4 : r.wl ≤ 4096 := hok.w4 r (List.mem_of_getElem? hr)
       have hmt := moreF_take_le (rs := rs) (i := i)
       have hnl : ns.length = i + moreF (rs.take i) := by
        have h1 := congrArg List.length hns
        rw [List.length_map, shortF_len (fun x hx => (hin x (List.mem_of_mem_take hx)).len), List.length_take, Nat.min_eq_left (by omega)] at h1
        exact h1
       have hfw : moreF rs ≤ 16384 := by
        have h1 := hfew
        unfold tooMany at h1
        simp only [Bool.or_eq_false_iff, decide_eq_false_iff_not] at h1
        omega
       have hf1 : st + (moreF rs : Int) ≤ 4096 ∧ sy + (moreF rs : Int) ≤ 4096 := by
        have h1 := hfew
        unfold tooMany at h1
        simp only [Bool.or_eq_false_iff, decide_eq_false_iff_not] at h1
        omega
       refine skipF ?_
       refine XF.thenN ?_
       refine seqF ?_
       refine blockF ?_
       refine seqF (regF ?_)
       refine op_move rfl rfl ?_
       refine op_indexA  Try.underlying26 Try.sizeOf47 rfl rfl rfl (by omega) rfl rfl ?_
       refine op_loadA (vs := [_, _, _, _, _, _, _, _, _, _]) Try.isAgg47 Try.sizeOf47 rfl (k1) rfl ?_
       refine op_alloc (cs := [_, _, _, _, _, _, _, _, _, _]) hS Try.zeroValue47 rfl rfl ?_
       clear hS; intro B15 W15 hS
       refine op_assign rfl rfl ?_
       refine op_storeA (i := 0) (vs := [_, _, _, _, _, _, _, _, _, _]) (cs' := [_, _, _, _, _, _, _, _, _, _]) (O' := [_, _, _, _]) hS Try.sizeOf47 rfl rfl (by first | rfl | (have h0 := hS.oneV 0 _ rfl; have h1 := hS.oneV 1 _ rfl; have h2 := hS.oneV 2 _ rfl; simp only [List.all_cons, List.all_nil, Bool.and_true, Bool.and_eq_true]; exact ⟨rfl, rfl, rfl, rfl, rfl, h0, h1, h2⟩)) rfl rfl rfl rfl ?_
       clear hS; intro W16 hS
       refine endF (XF.thenN ?_)
       refine regF ?_
       refine op_move rfl rfl ?_
       refine op_loadA (vs := [_, _, _, _, _, _, _, _, _, _]) Try.isAgg47 Try.sizeOf47 rfl (CellsAt.own (j := 0) (m := 10) (hS.at_ 0 rfl) rfl) rfl ?_
       refine op_callX (vs := [_, _, _]) goes_33 rfl (shParts_is s.f f0 sq (st + (moreF (rs.take i) : Int)) (sy + (moreF (rs.take i) : Int)) u1 u2 u3 ns.length (ns.flatMap ten9) (ns.map (fun r => Value.int .i64 r.num)) (ns.map (fun r => Value.bool r.first)) B11 _ _ w S (px r) (i : Int) r.p r.g r.q r.wa r.wl r.wc r.ws r.x.f _ (hS.perm (List.Perm.swap _ _ _)) (by omega) hok.si hok.ok (hok.x r (List.mem_of_getElem? hr)) hri.row hri.len hr4 (by omega) (by omega) ht) rfl ?_
       rintro e W9 ⟨w1, w2, w3, Kn, ns2, rfl, hpl, hsubn, HNn, hS9⟩
       refine ⟨_, rfl, ?_⟩
       clear hS; have hS := hS9.perm (List.Perm.swap _ _ _); clear hS9
       have ez : st + (moreF (rs.take i) : Int) + ((r.wl - 2 : Nat) : Int) = st + (moreF (rs.take (i + 1)) : Int) := by rw [moreF_take hr]; omega
       have ey : sy + (moreF (rs.take i) : Int) + ((r.wl - 2 : Nat) : Int) = sy + (moreF (rs.take (i + 1)) : Int) := by rw [moreF_take hr]; omega
       rw [ez, ey] at hS
       refine endF ?_
       refine XF.blkN ?_
       refine XF.thenN ?_
       refine regF ?_
       refine op_add rfl rfl (IntWalk.i64_in _ (by omega)) rfl ?_
       refine op_move rfl rfl ?_
       refine endF ?_
       exact XF.round (rl - (i + 1)) [(1, _), (2, _), (3, _), (8, _), (68, _), (69, _), (70, _)] (by omega) ⟨rfl, rfl, rfl, rfl, rfl, rfl, rfl, trivial⟩ ⟨i + 1, w1, w2, w3, Kn, ns ++ ns2, by omega, rfl, rfl, by rw [List.map_append, hns, hpl, shortF_take hr], fun h2 hk => ⟨(HN h2 (fun q hq => hk q (hsubn q hq))).1, fun x hx => by
         rcases List.mem_append.1 hx with hx | hx
         ·exact (HN h2 (fun q hq => hk q (hsubn q hq))).2 x hx
         ·exact HNn h2 hk x hx⟩, hS.tail.castG (by simp)⟩
      ·have hc71 := of_decide_eq_false hc; clear hc
       have hil : i = rl := by omega
       rw [List.take_of_length_le (by omega)] at hS hns
       refine exitF ?_
       refine XF.thenX ?_
       refine XF.thenX ?_
       refine XF.blkX ?_
       refine XF.thenN ?_
       refine seqF (regF ?_)
       refine op_field (o' := 9) fa_87_1 rfl rfl rfl ?_
       refine op_loadA (vs := [_, _, _, _, _, _, _, _]) Try.isAgg33 Try.sizeOf33 rfl (CellsAt.own (j := 9) (m := 8) (hS.at_ 0 rfl) rfl) rfl ?_
       refine op_storeA (i := 1) (vs := [_, _, _, _, _, _, _, _]) (cs' := [_, _, _, _, _, _, _, _]) (O' := [_, _, _]) hS Try.sizeOf33 rfl rfl (by first | rfl | (have h0 := hS.oneV 0 _ rfl; have h1 := hS.oneV 1 _ rfl; have h2 := hS.oneV 2 _ rfl; simp only [List.all_cons, List.all_nil, Bool.and_true, Bool.and_eq_true]; exact ⟨rfl, rfl, rfl, rfl, rfl, h0, h1, h2⟩)) rfl rfl rfl rfl ?_
       clear hS; intro W17 hS
       refine op_assign rfl rfl ?_
       refine endF (XF.thenN ?_)
       refine retF ?_
       refine XF.res (resCT (vs := [_, _, _, _, _, _, _, _]) Try.results8 Try.isAgg33 Try.sizeOf33 rfl (CellsAt.own (j := 0) (m := 8) (hS.at_ 1 rfl) rfl) rfl) ?_
       exact shortRet_ok (p := ⟨s, st, sy, ra, rl, rc, rs⟩) ⟨hok, hfew, hns, (HN hS (fun q hq => hq)).1, (HN hS (fun q hq => hq)).2, hS.row 0 rfl, hS.row 1 rfl, hS.row 2 rfl⟩ hS.below
end Go.Proofs.Ytpkcaabbcoiiiaa
namespace Go.Proofs.Ytpkcaabbcoiiiaa
open Go Go.RowKit
theorem goes_29 : goesIn Try.prog 29 = true := by kernel_rfl
theorem psmall_step (fz : Bool) (fc : Int) (fg : Nat) (fra : Option Addr) (frl frc : Nat) (fca : Option Addr) (fcl fcc : Nat) (fpa : Option Addr) (fpl fpc : Nat) (ps : List WV) (dp : Int) (w : World) (hlen : ps.length = fpl) (hrow : PRow w fpa ps) (hd : 0 ≤ dp ∧ dp ≤ 4) (IH : ∀ y ∈ ps, ∀ (W : World) (d9 : Int), Below w.heap.size w W → 0 ≤ d9 ∧ d9 ≤ 4 → Calls Try.prog 29 #[y.f.val, .int .i64 d9] W fun e w2 => ∃ b, e = .returned (.bool b) ∧ Below W.heap.size W w2) :
  Calls Try.prog 29 #[.agg #[.bool fz, .int .i64 fc, .int .u64 (fg : Int), .slice fra frl frc, .slice fca fcl fcc, .slice fpa fpl fpc], .int .i64 dp] w (fun e w' => ∃ b, e = .returned (.bool b) ∧ Below w.heap.size w w') := by
 refine enterF (args := [.agg #[.bool fz, .int .i64 fc, .int .u64 (fg : Int), .slice fra frl frc, .slice fca fcl fcc, .slice fpa fpl fpc], .int .i64 dp]) Try.func29 rfl Try.ntmps29 rfl ?_
 have hS := St.start w
 refine seqF (regF ?_)
 refine op_box (cs := [_, _, _, _, _, _]) hS rfl rfl rfl ?_
 clear hS; intro B1 W1 hS
 refine op_assign rfl rfl ?_
 refine endF (XF.thenN ?_)
 refine seqF ?_
 refine seqF (regF ?_)
 refine op_field (o' := 2) fa_45_2 rfl rfl rfl ?_
 refine op_field (o' := 3) fa_41_1 rfl rfl rfl ?_
 refine op_load Try.isAgg39 rfl (cell_own (hS.at_ 0 rfl) rfl) rfl ?_
 refine op_len Try.underlying39 rfl rfl ?_
 refine op_gtr rfl rfl rfl ?_
 refine op_move rfl rfl ?_
 refine op_cases (d := 11) rfl (fun hc => ?_) (fun hc => ?_)
 ·have hg11 := of_decide_eq_true hc; clear hc
  refine op_notF (d := 11) rfl rfl rfl rfl ?_
  refine op_notF (d := 11) rfl rfl rfl rfl ?_
  refine op_notF (d := 11) rfl rfl rfl rfl ?_
  refine op_notF (d := 11) rfl rfl rfl rfl ?_
  refine op_pickT rfl rfl rfl ?_
  refine op_move rfl rfl ?_
  refine op_notF (d := 17) rfl rfl rfl rfl ?_
  refine op_notF (d := 17) rfl rfl rfl rfl ?_
  refine op_notF (d := 17) rfl rfl rfl rfl ?_
  refine op_notF (d := 17) rfl rfl rfl rfl ?_
  refine op_pickT rfl rfl rfl ?_
  refine op_move rfl rfl ?_
  refine op_notF (d := 23) rfl rfl rfl rfl ?_
  refine op_notF (d := 23) rfl rfl rfl rfl ?_
  refine op_pickT rfl rfl rfl ?_
  refine endF (XF.thenN ?_)
  refine condT rfl ?_
  refine seqF (regF ?_)
  refine op_assign rfl rfl ?_
  refine endF (XF.thenN ?_)
  refine retF ?_
  refine XF.thenR ?_
  refine XF.res (res1 Try.results29 rfl) ?_
  exact ⟨_, rfl, hS.below⟩
 ·have hg11 := of_decide_eq_false hc; clear hc
  refine op_wantedF (d := 11) rfl rfl ?_
  refine op_field (o' := 4) fa_45_3 rfl rfl rfl ?_
  refine op_wantedF (d := 11) rfl rfl ?_
  refine op_load Try.isAgg42 rfl (cell_own (hS.at_ 0 rfl) rfl) rfl ?_
  refine op_wantedF (d := 11) rfl rfl ?_
  refine op_len Try.underlying42 rfl rfl ?_
  refine op_wantedF (d := 11) rfl rfl ?_
  refine op_gtr rfl rfl rfl ?_
  refine op_pickF rfl rfl rfl ?_
  refine op_move rfl rfl ?_
  refine op_cases (d := 17) rfl (fun hc => ?_) (fun hc => ?_)
  ·have hg17 := of_decide_eq_true hc; clear hc
   refine op_notF (d := 17) rfl rfl rfl rfl ?_
   refine op_notF (d := 17) rfl rfl rfl rfl ?_
   refine op_notF (d := 17) rfl rfl rfl rfl ?_
   refine op_notF (d := 17) rfl rfl rfl rfl ?_
   refine op_pickT rfl rfl rfl ?_
   refine op_move rfl rfl ?_
   refine op_notF (d := 23) rfl rfl rfl rfl ?_
   refine op_notF (d := 23) rfl rfl rfl rfl ?_
   refine op_pickT rfl rfl rfl ?_
   refine endF (XF.thenN ?_)
   refine condT rfl ?_
   refine seqF (regF ?_)
   refine op_assign rfl rfl ?_
   refine endF (XF.thenN ?_)
   refine retF ?_
   refine XF.thenR ?_
   refine XF.res (res1 Try.results29 rfl) ?_
   exact ⟨_, rfl, hS.below⟩
  ·have hg17 := of_decide_eq_false hc; clear hc
   refine op_wantedF (d := 17) rfl rfl ?_
   refine op_field (o' := 5) fa_45_4 rfl rfl rfl ?_
   refine op_wantedF (d := 17) rfl rfl ?_
   refine op_load Try.isAgg43 rfl (cell_own (hS.at_ 0 rfl) rfl) rfl ?_
   refine op_wantedF (d := 17) rfl rfl ?_
   refine op_len Try.underlying43 rfl rfl ?_
   refine op_wantedF (d := 17) rfl rfl ?_
   refine op_gtr rfl rfl rfl ?_
   refine op_pickF rfl rfl rfl ?_
   refine op_move rfl rfl ?_
   refine op_cases (d := 23) rfl (fun hc => ?_) (fun hc => ?_)
   ·have hg23 := of_decide_eq_true hc; clear hc
    refine op_notF (d := 23) rfl rfl rfl rfl ?_
    refine op_notF (d := 23) rfl rfl rfl rfl ?_
    refine op_pickT rfl rfl rfl ?_
    refine endF (XF.thenN ?_)
    refine condT rfl ?_
    refine seqF (regF ?_)
    refine op_assign rfl rfl ?_
    refine endF (XF.thenN ?_)
    refine retF ?_
    refine XF.thenR ?_
    refine XF.res (res1 Try.results29 rfl) ?_
    exact ⟨_, rfl, hS.below⟩
   ·have hg23 := of_decide_eq_false hc; clear hc
    refine op_wantedF (d := 23) rfl rfl ?_
    refine op_move rfl rfl ?_
    refine op_wantedF (d := 23) rfl rfl ?_
    refine op_gtr rfl rfl rfl ?_
    refine op_pickF rfl rfl rfl ?_
    refine endF (XF.thenN ?_)
    refine condF rfl (fun hc => ?_) (fun hc => ?_)
    ·have hc26 := of_decide_eq_true hc; clear hc
     refine seqF (regF ?_)
     refine op_assign rfl rfl ?_
     refine endF (XF.thenN ?_)
     refine retF ?_
     refine XF.thenR ?_
     refine XF.res (res1 Try.results29 rfl) ?_
     exact ⟨_, rfl, hS.below⟩
    ·have hc26 := of_decide_eq_false hc; clear hc
     refine skipF ?_
     refine XF.thenN ?_
     refine seqF ?_
     refine seqF (regF ?_)
     refine op_assign rfl rfl ?_
     refine endF (XF.thenN ?_)
     refine blockF ?_
     refine loopF (fun m l W => ∃ i : Nat, i ≤ fpl ∧ m = fpl - i ∧ l = [(1, .int .i64 dp), (2, .pointer (some ⟨B1, 0, none⟩)), (5, .int .i64 (i : Int))] ∧ St w [(B1, [.bool fz, .int .i64 fc, .int .u64 (fg : Int), .slice fra frl frc, .slice fca fcl fcc, .slice fpa fpl fpc], 45)] [] [] W) (fpl - 0) ([(1, _), (2, _), (5, _)]) ⟨rfl, rfl, rfl, trivial⟩ (⟨0, Nat.zero_le _, rfl, rfl, hS.clear⟩) ?_
     clear hS
     rintro m l W ⟨i, hi, rfl, rfl, hS⟩
     refine seqF ?_
     refine seqF (regF ?_)
     refine op_move rfl rfl ?_
     refine op_field (o' := 5) fa_45_4 rfl rfl rfl ?_
     refine op_load Try.isAgg43 rfl (cell_own (hS.at_ 0 rfl) rfl) rfl ?_
     refine op_len Try.underlying43 rfl rfl ?_
     refine op_lss rfl rfl rfl ?_
     refine endF (XF.thenN ?_)
     refine condF rfl (fun hc => ?_) (fun hc => ?_)
     ·have hc31 := of_decide_eq_true hc; clear hc
      have hk : i < fpl := by omega
      obtain ⟨y, hy⟩ : ∃ y, ps[i]? = some y := ⟨ps[i]'(by omega), by simp [show i < ps.length by omega]⟩
      obtain ⟨b, off, rfl, hcs⟩ : ∃ b off, fpa = some ⟨b, off, none⟩ ∧ W6 w b (off + i * 6) y.f := by
       rcases hrow with h | ⟨b, off, ha, hc⟩
       ·rw [h] at hy; simp at hy
       ·exact ⟨b, off, ha, hc i y hy⟩
      have k1 : CellsAt W b (off + i * 6) y.f.six := CellsAt.agree hS.agree (Nat.zero_le _) ⟨hcs.1, hcs.2.1, hcs.2.2.1, hcs.2.2.2.1, hcs.2.2.2.2.1, hcs.2.2.2.2.2, trivial⟩
      refine skipF ?_
      refine XF.thenN ?_
      refine seqF ?_
      refine blockF ?_
      refine seqF (regF ?_)
      refine op_field (o' := 5) fa_45_4 rfl rfl rfl ?_
      refine op_load Try.isAgg43 rfl (cell_own (hS.at_ 0 rfl) rfl) rfl ?_
      refine op_move rfl rfl ?_
      refine op_indexA  Try.underlying43 Try.sizeOf45 rfl rfl rfl (by omega) rfl rfl ?_
      refine op_loadA (vs := [_, _, _, _, _, _]) Try.isAgg45 Try.sizeOf45 rfl (k1) rfl ?_
      refine op_move rfl rfl ?_
      refine op_add rfl rfl (IntWalk.i64_in _ (by omega)) rfl ?_
      refine op_call (vs := [_, _]) hS goes_29 rfl (IH y (List.mem_of_getElem? hy) _ (dp + 1) hS.below (by omega)) rfl ?_
      rintro e W2 ⟨b9, rfl, hb⟩
      refine ⟨_, rfl, hb, fun hS' => ?_⟩
      clear hS; have hS := hS'; clear hS' hb
      refine op_not rfl rfl ?_
      refine endF (XF.thenN ?_)
      refine condF rfl (fun hc => ?_) (fun hc => ?_)
      ·have hc42 := hc; clear hc
       refine seqF (regF ?_)
       refine op_assign rfl rfl ?_
       refine endF (XF.thenN ?_)
       refine retF ?_
       refine XF.blkR ?_
       refine XF.thenR ?_
       refine XF.thenR ?_
       refine XF.blkR ?_
       refine XF.thenR ?_
       refine XF.res (res1 Try.results29 rfl) ?_
       exact ⟨_, rfl, hS.below⟩
      ·have hc42 := hc; clear hc
       refine skipF ?_
       refine XF.blkN ?_
       refine XF.thenN ?_
       refine regF ?_
       refine op_move rfl rfl ?_
       refine op_add rfl rfl (IntWalk.i64_in _ (by omega)) rfl ?_
       refine op_assign rfl rfl ?_
       refine endF ?_
       exact XF.round (fpl - (i + 1)) [(1, _), (2, _), (5, _)] (by omega) ⟨rfl, rfl, rfl, trivial⟩ ⟨i + 1, by omega, rfl, rfl, hS.clear⟩
     ·have hc31 := of_decide_eq_false hc; clear hc
      refine exitF ?_
      refine XF.thenX ?_
      refine XF.thenX ?_
      refine XF.blkX ?_
      refine XF.thenN ?_
      refine seqF (regF ?_)
      refine op_assign rfl rfl ?_
      refine endF (XF.thenN ?_)
      refine retF ?_
      refine XF.res (res1 Try.results29 rfl) ?_
      exact ⟨_, rfl, hS.below⟩
theorem psmall_is : ∀ (d : Nat) (x : WV) (dp : Int) (w : World), WIn w d x → 0 ≤ dp ∧ dp ≤ 4 → Calls Try.prog 29 #[x.f.val, .int .i64 dp] w fun e w2 => ∃ b, e = .returned (.bool b) ∧ Below w.heap.size w w2
 | 0, _, _, _, h, _ => h.elim
 | d + 1, .mk f ps, dp, w, ⟨_, h1, h2, h3⟩, hd => psmall_step f.z f.c f.g f.ra f.rl f.rc f.ca f.cl f.cc f.pa f.pl f.pc ps dp w h1 h2 hd fun y hy W d9 hb h9 => psmall_is d y d9 W (WIn.below hb (h3 y hy)) h9
theorem row_rrow9 {W : World} {lo c : Nat} {a : Option Addr} {rs : List RV} (h : W.ownsRow lo 47 10 (.slice a rs.length c) rs.length (rs.flatMap RV.ten)) : RRow W a rs := by
 cases rs with
 | nil => exact .inl rfl
 | cons x r =>
  obtain ⟨b, c9, e, _⟩ := ownsRow_at h (by simp)
  injection e with e _ _
  subst e
  refine .inr ⟨b, 0, rfl, fun i y hi => ?_⟩
  rw [Nat.zero_add]
  have key : ∀ (l : List RV) (i : Nat), l[i]? = some y → ((l.flatMap RV.ten).drop (i * 10)).take 10 = y.ten := by
   intro l
   induction l with
   | nil => intro i h; simp at h
   | cons z l ih =>
    intro i h
    cases i with
    | zero => simp at h; subst h; rfl
    | succ i =>
     have e : (i + 1) * 10 = 10 + i * 10 := by omega
     rw [List.flatMap_cons, e, ← List.drop_drop]
     exact ih i (by simpa using h)
  have e5 := key (x :: r) i hi
  refine CellsAt.of fun j v hj => ownsRow_blk h ?_
  rw [← e5, List.getElem?_take] at hj
  split at hj
  ·rw [List.getElem?_drop] at hj; exact hj
  ·cases hj
theorem addr_row9 {w : World} {a : Option Addr} {ws : List Int} (h : Row w a ws) (hl : 0 < ws.length) : ∀ x, a = some x → ∃ b o, x = ⟨b, o, none⟩ := fun x hx => by
 rcases h with h | ⟨b, off, h, _⟩
 ·rw [h] at hl; simp at hl
 ·exact ⟨b, off, by rw [h] at hx; exact (Option.some.inj hx).symm⟩
theorem addr_srow9 {w : World} {a : Option Addr} {ps : List SV} (h : SRow w a ps) (hl : 0 < ps.length) : ∀ x, a = some x → ∃ b o, x = ⟨b, o, none⟩ := fun x hx => by
 rcases h with h | ⟨b, off, h, _⟩
 ·rw [h] at hl; simp at hl
 ·exact ⟨b, off, by rw [h] at hx; exact (Option.some.inj hx).symm⟩
theorem SRow.take9 {w : World} {a : Option Addr} {ps : List SV} (h : SRow w a ps) (k : Nat) : SRow w a (ps.take k) := by
 rcases h with h | ⟨b, off, h, hc⟩
 ·exact .inl (by rw [h]; simp)
 ·refine .inr ⟨b, off, h, fun i p hp => hc i p ?_⟩
  rw [List.getElem?_take] at hp
  split at hp
  ·exact hp
  ·cases hp
structure PvCap9 (p : PV) : Prop where
 s : p.s.f.len ≤ p.s.f.cap
 r : ∀ r ∈ p.rs, r.wl ≤ r.wc
structure Cut9 (ds d : Nat) (w9 w w' : World) (p : PV) : Prop where
 far : ∀ W2, Below w9.heap.size w9 W2 → Agree w.heap.size w' W2 → PvIn W2 ds d p
 rl : p.rl ≤ 40
 wl : ∀ r ∈ p.rs, r.wl ≤ 40
 cap : ∀ r ∈ p.rs, r.wl ≤ r.wc
theorem pcut_c (ds d : Nat) (tag dim : Int) (sa : Option Addr) (slen scap : Nat) (sps : List SV) (st sy : Int) (ra : Option Addr) (rl rc : Nat) (rs : List RV) (w9 w : World) (h9 : Below w9.heap.size w9 w) (hsl : sps.length = slen) (hsr : SRow w9 sa sps) (hsi : ∀ q ∈ sps, SIn w9 ds q) (hsc : slen ≤ scap) (hprow : RRow w9 ra rs) (hplen : rs.length = rl) (hin : ∀ r ∈ rs, RIn w9 d r) (hrc : ∀ r ∈ rs, r.wl ≤ r.wc) (hrm : rl ≤ 9223372036854775807) :
  Calls Try.prog 7 #[.agg #[.int .i64 tag, .int .i64 dim, .slice sa slen scap, .int .i64 st, .int .i64 sy, .slice ra rl rc]] w (fun e w' => ∃ p : PV, e = .returned p.val ∧ Cut9 (ds + 1) d w9 w w' p ∧ Below w.heap.size w w') := by
 refine enterF (args := [.agg #[.int .i64 tag, .int .i64 dim, .slice sa slen scap, .int .i64 st, .int .i64 sy, .slice ra rl rc]]) Try.func7 rfl Try.ntmps7 rfl ?_
 have hS := St.start w
 have hprow1 : RRow w ra rs := hprow.below h9
 refine seqF (regF ?_)
 refine op_box (cs := [_, _, _, _, _, _]) hS rfl rfl rfl ?_
 clear hS; intro B1 W1 hS
 refine op_alloc (cs := [_, _, _, _, _, _]) hS Try.zeroValue28 rfl rfl ?_
 clear hS; intro B2 W2 hS
 refine endF (XF.thenN ?_)
 refine seqF (regF ?_)
 refine op_assign rfl rfl ?_
 refine endF (XF.thenN ?_)
 refine seqF ?_
 refine seqF ?_
 have hS := hS.newG 47 10
 refine regF ?_
 refine op_assign rfl rfl ?_
 refine endF (XF.thenN ?_)
 refine blockF ?_
 refine loopF (fun m l W => ∃ (i : Nat) (va : Option Addr) (vc : Nat) (rs2 : List RV), i ≤ rl ∧ rs2.length ≤ 40 ∧ m = rl - i ∧ l = [(1, .pointer (some ⟨B1, 0, none⟩)), (2, .pointer (some ⟨B2, 0, none⟩)), (3, .slice va rs2.length vc), (4, .int .i64 (i : Int))] ∧ (∀ r ∈ rs2, RIn w9 d r ∧ r.wl ≤ 40 ∧ r.wl ≤ r.wc) ∧ St w [(B2, [.int .i64 0, .int .i64 0, .slice none 0 0, .int .i64 0, .int .i64 0, .slice none 0 0], 28), (B1, [.int .i64 tag, .int .i64 dim, .slice sa slen scap, .int .i64 st, .int .i64 sy, .slice ra rl rc], 28)] [⟨.slice va rs2.length vc, rs2.length, rs2.flatMap RV.ten, 47, 10⟩] [] W) (rl - 0) ([(1, _), (2, _), (3, _), (4, _)]) ⟨rfl, rfl, rfl, rfl, trivial⟩ (⟨0, none, 0, [], Nat.zero_le _, by simp, rfl, rfl, (fun r hr => by cases hr), hS.clear⟩) ?_
 clear hS
 rintro m l W ⟨i, va, vc, rs2, hi, hl40, rfl, rfl, hok, hS⟩
 refine seqF ?_
 refine seqF (regF ?_)
 refine op_move rfl rfl ?_
 refine op_field (o' := 5) fa_28_3 rfl rfl rfl ?_
 refine op_load Try.isAgg26 rfl (cell_own (hS.at_ 1 rfl) rfl) rfl ?_
 refine op_len Try.underlying26 rfl rfl ?_
 refine op_lss rfl rfl rfl ?_
 refine op_move rfl rfl ?_
 refine op_cases (d := 12) rfl (fun hc => ?_) (fun hc => ?_)
 ·have hg12 := of_decide_eq_true hc; clear hc
  refine op_wantedF (d := 12) rfl rfl ?_
  refine op_move rfl rfl ?_
  refine op_wantedF (d := 12) rfl rfl ?_
  refine op_len Try.underlying26 rfl rfl ?_
  refine op_wantedF (d := 12) rfl rfl ?_
  refine op_lss rfl rfl rfl ?_
  refine op_pickT rfl rfl rfl ?_
  refine endF (XF.thenN ?_)
  refine condF rfl (fun hc => ?_) (fun hc => ?_)
  ·have hc16 := of_decide_eq_true hc; clear hc
   have hk : i < rl := by omega
   obtain ⟨r, hr⟩ : ∃ r, rs[i]? = some r := ⟨rs[i]'(by omega), by simp [show i < rs.length by omega]⟩
   obtain ⟨b, off, rfl, hcs⟩ := hprow1.at_ hr
   have k1 := CellsAt.agree hS.agree (Nat.zero_le _) hcs
   have hri := hin r (List.mem_of_getElem? hr)
   have hcp := hrc r (List.mem_of_getElem? hr)
   refine skipF ?_
   refine XF.thenN ?_
   refine seqF ?_
   refine blockF ?_
   refine seqF (regF ?_)
   refine op_field (o' := 5) fa_28_3 rfl rfl rfl ?_
   refine op_load Try.isAgg26 rfl (cell_own (hS.at_ 1 rfl) rfl) rfl ?_
   refine op_move rfl rfl ?_
   refine op_indexA  Try.underlying26 Try.sizeOf47 rfl rfl rfl (by omega) rfl rfl ?_
   refine op_loadA (vs := [_, _, _, _, _, _, _, _, _, _]) Try.isAgg47 Try.sizeOf47 rfl (k1) rfl ?_
   refine op_alloc (cs := [_, _, _, _, _, _, _, _, _, _]) hS Try.zeroValue47 rfl rfl ?_
   clear hS; intro B3 W3 hS
   refine op_storeA (i := 0) (vs := [_, _, _, _, _, _, _, _, _, _]) (cs' := [_, _, _, _, _, _, _, _, _, _]) (O' := [_, _, _]) hS Try.sizeOf47 rfl rfl rfl rfl rfl rfl rfl ?_
   clear hS; intro W4 hS
   refine endF (XF.thenN ?_)
   refine seqF ?_
   refine seqF (regF ?_)
   refine op_field (o' := 3) fa_47_3 rfl rfl rfl ?_
   refine op_load Try.isAgg29 rfl (cell_own (hS.at_ 0 rfl) rfl) rfl ?_
   refine op_len Try.underlying29 rfl rfl ?_
   refine op_gtr rfl rfl rfl ?_
   refine endF (XF.thenN ?_)
   refine condF rfl (fun hc => ?_) (fun hc => ?_)
   ·have hc27 := of_decide_eq_true hc; clear hc
    have hla := addr_row9 hri.row (by rw [hri.len]; omega)
    obtain ⟨r2, hr2e⟩ : ∃ r2 : RV, r2 = { r with wl := 40, ws := r.ws.take 40 } := ⟨_, rfl⟩
    have hr2 : RIn w9 d r2 ∧ r2.wl ≤ 40 ∧ r2.wl ≤ r2.wc := by
     subst hr2e
     exact ⟨⟨hri.row.take 40, by have := hri.len; show (r.ws.take 40).length = 40; rw [List.length_take]; omega, hri.x⟩, Nat.le_refl _, by show 40 ≤ r.wc; omega⟩
    refine regF ?_
    refine op_field (o' := 3) fa_47_3 rfl rfl rfl ?_
    refine op_load Try.isAgg29 rfl (cell_own (hS.at_ 0 rfl) rfl) rfl ?_
    refine op_sliceTo (k := 40) Try.underlying29 Try.sizeOf3 rfl rfl (by decide) (by omega) (by omega) hla rfl ?_
    refine op_field (o' := 3) fa_47_3 rfl rfl rfl ?_
    refine op_store (i := 0) (cs' := [_, _, _, _, _, _, _, _, _, _]) (O' := [_, _, _]) hS Try.sizeOf29 rfl rfl rfl rfl rfl rfl rfl ?_
    clear hS; intro W5 hS
    refine endF (XF.thenN ?_)
    refine seqF (regF ?_)
    refine op_field (o' := 4) fa_47_4 rfl rfl rfl ?_
    refine op_loadA (vs := [_, _, _, _, _, _]) Try.isAgg45 Try.sizeOf45 rfl (CellsAt.own (j := 4) (m := 6) (hS.at_ 0 rfl) rfl) rfl ?_
    refine op_call (vs := [_, _]) hS goes_29 rfl (psmall_is d r.x 0 _ (WIn.below hS.below (WIn.below h9 hri.x)) (by decide)) rfl ?_
    rintro e W6 ⟨b9, rfl, hb⟩
    refine ⟨_, rfl, hb, fun hS' => ?_⟩
    clear hS; have hS := hS'; clear hS' hb
    refine endF (XF.thenN ?_)
    refine condF rfl (fun hc => ?_) (fun hc => ?_)
    ·have hc34 := hc; clear hc
     refine regF ?_
     refine op_move rfl rfl ?_
     refine op_loadA (vs := [_, _, _, _, _, _, _, _, _, _]) Try.isAgg47 Try.sizeOf47 rfl (CellsAt.own (j := 0) (m := 10) (hS.at_ 0 rfl) rfl) rfl ?_
     refine op_buildSlice (us := [(0, .agg (List.toArray [_, _, _, _, _, _, _, _, _, _]))]) hS Try.underlying26 Try.sizeOf47 Try.zeroValue47 rfl rfl rfl (bs_26_1 _ _ _ _ _ _ _ _ _ _) rfl ?_
     clear hS; intro B7 W7 hS
     refine op_append (i := 0) (news := [_, _, _, _, _, _, _, _, _, _]) hS Try.underlying26 inf_47 rfl rfl (by show 0 < 10; decide) rfl rfl rfl rfl rfl (CellsAt.own (j := 0) (m := 10) (hS.at_ 0 rfl) rfl) rfl rfl (by dsimp only; simp only [maxLen]; omega) (by dsimp only; show _ * 144 ≤ _; omega) rfl ?_
     clear hS; intro v8 W8 hS
     refine op_assign rfl rfl ?_
     refine endF ?_
     refine XF.blkN ?_
     refine XF.thenN ?_
     refine regF ?_
     refine op_move rfl rfl ?_
     refine op_add rfl rfl (IntWalk.i64_in _ (by omega)) rfl ?_
     refine op_assign rfl rfl ?_
     refine endF ?_
     obtain ⟨va2, vc2, rfl⟩ := (hS.castG (G' := [⟨_, _, _, _, _⟩]) rfl).headSl
     exact XF.round (rl - (i + 1)) [(1, _), (2, _), (3, _), (4, _)] (by omega) ⟨rfl, rfl, rfl, rfl, trivial⟩ ⟨i + 1, va2, vc2, rs2 ++ [r2], by omega, by simp; omega, rfl, by simp, fun x hx => by
       rcases List.mem_append.1 hx with hx | hx
       ·exact hok x hx
       ·simp at hx; subst hx; exact hr2, (hS.tail.tail.clear).castG (by simp [hr2e])⟩
    ·have hc34 := hc; clear hc
     refine skipF ?_
     refine XF.blkN ?_
     refine XF.thenN ?_
     refine regF ?_
     refine op_move rfl rfl ?_
     refine op_add rfl rfl (IntWalk.i64_in _ (by omega)) rfl ?_
     refine op_assign rfl rfl ?_
     refine endF ?_
     exact XF.round (rl - (i + 1)) [(1, _), (2, _), (3, _), (4, _)] (by omega) ⟨rfl, rfl, rfl, rfl, trivial⟩ ⟨i + 1, va, vc, rs2, by omega, by omega, rfl, rfl, hok, hS.tail.clear⟩
   ·have hc27 := of_decide_eq_false hc; clear hc
    obtain ⟨r2, hr2e⟩ : ∃ r2 : RV, r2 = r := ⟨_, rfl⟩
    have hr2 : RIn w9 d r2 ∧ r2.wl ≤ 40 ∧ r2.wl ≤ r2.wc := by subst hr2e; exact ⟨hri, by omega, hcp⟩
    refine skipF ?_
    refine XF.thenN ?_
    refine seqF (regF ?_)
    refine op_field (o' := 4) fa_47_4 rfl rfl rfl ?_
    refine op_loadA (vs := [_, _, _, _, _, _]) Try.isAgg45 Try.sizeOf45 rfl (CellsAt.own (j := 4) (m := 6) (hS.at_ 0 rfl) rfl) rfl ?_
    refine op_call (vs := [_, _]) hS goes_29 rfl (psmall_is d r.x 0 _ (WIn.below hS.below (WIn.below h9 hri.x)) (by decide)) rfl ?_
    rintro e W9 ⟨b9, rfl, hb⟩
    refine ⟨_, rfl, hb, fun hS' => ?_⟩
    clear hS; have hS := hS'; clear hS' hb
    refine endF (XF.thenN ?_)
    refine condF rfl (fun hc => ?_) (fun hc => ?_)
    ·have hc34 := hc; clear hc
     refine regF ?_
     refine op_move rfl rfl ?_
     refine op_loadA (vs := [_, _, _, _, _, _, _, _, _, _]) Try.isAgg47 Try.sizeOf47 rfl (CellsAt.own (j := 0) (m := 10) (hS.at_ 0 rfl) rfl) rfl ?_
     refine op_buildSlice (us := [(0, .agg (List.toArray [_, _, _, _, _, _, _, _, _, _]))]) hS Try.underlying26 Try.sizeOf47 Try.zeroValue47 rfl rfl rfl (bs_26_1 _ _ _ _ _ _ _ _ _ _) rfl ?_
     clear hS; intro B10 W10 hS
     refine op_append (i := 0) (news := [_, _, _, _, _, _, _, _, _, _]) hS Try.underlying26 inf_47 rfl rfl (by show 0 < 10; decide) rfl rfl rfl rfl rfl (CellsAt.own (j := 0) (m := 10) (hS.at_ 0 rfl) rfl) rfl rfl (by dsimp only; simp only [maxLen]; omega) (by dsimp only; show _ * 144 ≤ _; omega) rfl ?_
     clear hS; intro v11 W11 hS
     refine op_assign rfl rfl ?_
     refine endF ?_
     refine XF.blkN ?_
     refine XF.thenN ?_
     refine regF ?_
     refine op_move rfl rfl ?_
     refine op_add rfl rfl (IntWalk.i64_in _ (by omega)) rfl ?_
     refine op_assign rfl rfl ?_
     refine endF ?_
     obtain ⟨va2, vc2, rfl⟩ := (hS.castG (G' := [⟨_, _, _, _, _⟩]) rfl).headSl
     exact XF.round (rl - (i + 1)) [(1, _), (2, _), (3, _), (4, _)] (by omega) ⟨rfl, rfl, rfl, rfl, trivial⟩ ⟨i + 1, va2, vc2, rs2 ++ [r2], by omega, by simp; omega, rfl, by simp, fun x hx => by
       rcases List.mem_append.1 hx with hx | hx
       ·exact hok x hx
       ·simp at hx; subst hx; exact hr2, (hS.tail.tail.clear).castG (by simp [hr2e])⟩
    ·have hc34 := hc; clear hc
     refine skipF ?_
     refine XF.blkN ?_
     refine XF.thenN ?_
     refine regF ?_
     refine op_move rfl rfl ?_
     refine op_add rfl rfl (IntWalk.i64_in _ (by omega)) rfl ?_
     refine op_assign rfl rfl ?_
     refine endF ?_
     exact XF.round (rl - (i + 1)) [(1, _), (2, _), (3, _), (4, _)] (by omega) ⟨rfl, rfl, rfl, rfl, trivial⟩ ⟨i + 1, va, vc, rs2, by omega, by omega, rfl, rfl, hok, hS.tail.clear⟩
  ·have hc16 := of_decide_eq_false hc; clear hc
   refine exitF ?_
   refine XF.thenX ?_
   refine XF.thenX ?_
   refine XF.blkX ?_
   refine XF.thenN ?_
   refine seqF (regF ?_)
   refine op_move rfl rfl ?_
   refine op_field (o' := 5) fa_28_3 rfl rfl rfl ?_
   refine op_store (i := 1) (cs' := [_, _, _, _, _, _]) (O' := [_, _]) hS Try.sizeOf26 rfl rfl rfl rfl rfl rfl rfl ?_
   clear hS; intro W12 hS
   refine endF (XF.thenN ?_)
   refine joinF (fun l W => ∃ (len2 : Nat) (sps2 : List SV), l = [(1, .pointer (some ⟨B1, 0, none⟩)), (2, .pointer (some ⟨B2, 0, none⟩))] ∧ len2 ≤ 3 ∧ sps2.length = len2 ∧ SRow w9 sa sps2 ∧ (∀ q ∈ sps2, SIn w9 ds q) ∧ St w [(B2, [.int .i64 0, .int .i64 0, .slice none 0 0, .int .i64 0, .int .i64 0, .slice none 0 0], 28), (B1, [.int .i64 tag, .int .i64 dim, .slice sa len2 scap, .int .i64 st, .int .i64 sy, .slice va rs2.length vc], 28)] [⟨.slice va rs2.length vc, rs2.length, rs2.flatMap RV.ten, 47, 10⟩] [] W) ?_ ?_
   ·clear hS
    rintro _ W ⟨len2, sps2, rfl, hl3, hs2l, hs2r, hs2i, hS⟩
    refine seqF ?_
    refine seqF (regF ?_)
    refine op_assign rfl rfl ?_
    refine endF (XF.thenN ?_)
    refine blockF ?_
    refine loopF (fun m l W => ∃ (i : Nat) (sa3 : Option Addr) (len3 cap3 : Nat) (sps3 : List SV), i ≤ 3 ∧ m = len3 - i ∧ l = [(1, .pointer (some ⟨B1, 0, none⟩)), (2, .pointer (some ⟨B2, 0, none⟩)), (6, .int .i64 (i : Int))] ∧ len3 ≤ 3 ∧ sps3.length = len3 ∧ SRow w9 sa3 sps3 ∧ (∀ q ∈ sps3, SIn w9 ds q) ∧ St w [(B2, [.int .i64 0, .int .i64 0, .slice none 0 0, .int .i64 0, .int .i64 0, .slice none 0 0], 28), (B1, [.int .i64 tag, .int .i64 dim, .slice sa3 len3 cap3, .int .i64 st, .int .i64 sy, .slice va rs2.length vc], 28)] [⟨.slice va rs2.length vc, rs2.length, rs2.flatMap RV.ten, 47, 10⟩] [] W) (len2 - 0) ([(1, _), (2, _), (6, _)]) ⟨rfl, rfl, rfl, trivial⟩ (⟨0, sa, len2, scap, sps2, Nat.zero_le _, rfl, rfl, hl3, hs2l, hs2r, hs2i, hS.clear⟩) ?_
    clear hS
    rintro m l W ⟨i, sa3, len3, cap3, sps3, hi3, rfl, rfl, hl33, hs3l, hs3r, hs3i, hS⟩
    refine seqF ?_
    refine seqF (regF ?_)
    refine op_move rfl rfl ?_
    refine op_field (o' := 0) fa_28_0 rfl rfl rfl ?_
    refine op_field (o' := 2) fa_25_2 rfl rfl rfl ?_
    refine op_load Try.isAgg23 rfl (cell_own (hS.at_ 1 rfl) rfl) rfl ?_
    refine op_len Try.underlying23 rfl rfl ?_
    refine op_lss rfl rfl rfl ?_
    refine endF (XF.thenN ?_)
    refine condF rfl (fun hc => ?_) (fun hc => ?_)
    ·have hc57 := of_decide_eq_true hc; clear hc
     have hk3 : i < len3 := by omega
     obtain ⟨q, hq⟩ : ∃ q, sps3[i]? = some q := ⟨sps3[i]'(by omega), by simp [show i < sps3.length by omega]⟩
     obtain ⟨b, off, rfl, hs3⟩ : ∃ b off, sa3 = some ⟨b, off, none⟩ ∧ S3 w9 b (off + i * 3) q.f := by
      rcases hs3r with h | ⟨b, off, ha, hc⟩
      ·rw [h] at hq; simp at hq
      ·exact ⟨b, off, ha, hc i q hq⟩
     have k16 : W.cell? ⟨b, off + i * 3 + 2, none⟩ = some (.slice q.f.a q.f.len q.f.cap) := hS.old (hs3.below h9).2.2
     refine skipF ?_
     refine XF.thenN ?_
     refine seqF ?_
     refine blockF ?_
     refine seqF (regF ?_)
     refine op_field (o' := 0) fa_28_0 rfl rfl rfl ?_
     refine op_field (o' := 2) fa_25_2 rfl rfl rfl ?_
     refine op_load Try.isAgg23 rfl (cell_own (hS.at_ 1 rfl) rfl) rfl ?_
     refine op_move rfl rfl ?_
     refine op_indexA  Try.underlying23 Try.sizeOf25 rfl rfl rfl (by omega) rfl rfl ?_
     refine op_field fa_25_2 rfl rfl rfl ?_
     refine op_load Try.isAgg23 rfl (k16) rfl ?_
     refine op_len Try.underlying23 rfl rfl ?_
     refine op_gtr rfl rfl rfl ?_
     refine endF (XF.thenN ?_)
     refine condF rfl (fun hc => ?_) (fun hc => ?_)
     ·have hc68 := of_decide_eq_true hc; clear hc
      refine regF ?_
      refine op_field (o' := 0) fa_28_0 rfl rfl rfl ?_
      refine op_field (o' := 2) fa_25_2 rfl rfl rfl ?_
      refine op_store (i := 1) (cs' := [_, _, _, _, _, _]) (O' := [_, _]) hS Try.sizeOf23 rfl rfl rfl rfl rfl rfl rfl ?_
      clear hS; intro W13 hS
      refine endF ?_
      refine XF.blkN ?_
      refine XF.thenN ?_
      refine regF ?_
      refine op_move rfl rfl ?_
      refine op_add rfl rfl (IntWalk.i64_in _ (by omega)) rfl ?_
      refine op_assign rfl rfl ?_
      refine endF ?_
      exact XF.round (0 - (i + 1)) [(1, _), (2, _), (6, _)] (by omega) ⟨rfl, rfl, rfl, trivial⟩ ⟨i + 1, none, 0, 0, [], by omega, rfl, rfl, by omega, rfl, .inl rfl, (fun q hq => by cases hq), hS.clear⟩
     ·have hc68 := of_decide_eq_false hc; clear hc
      refine skipF ?_
      refine XF.blkN ?_
      refine XF.thenN ?_
      refine regF ?_
      refine op_move rfl rfl ?_
      refine op_add rfl rfl (IntWalk.i64_in _ (by omega)) rfl ?_
      refine op_assign rfl rfl ?_
      refine endF ?_
      exact XF.round (len3 - (i + 1)) [(1, _), (2, _), (6, _)] (by omega) ⟨rfl, rfl, rfl, trivial⟩ ⟨i + 1, _, len3, cap3, sps3, by omega, rfl, rfl, hl33, hs3l, hs3r, hs3i, hS.clear⟩
    ·have hc57 := of_decide_eq_false hc; clear hc
     refine exitF ?_
     refine XF.thenX ?_
     refine XF.thenX ?_
     refine XF.blkX ?_
     refine XF.thenN ?_
     refine seqF (regF ?_)
     refine op_loadA (vs := [_, _, _, _, _, _]) Try.isAgg28 Try.sizeOf28 rfl (CellsAt.own (j := 0) (m := 6) (hS.at_ 1 rfl) rfl) rfl ?_
     refine op_storeA (i := 0) (vs := [_, _, _, _, _, _]) (cs' := [_, _, _, _, _, _]) (O' := [_, _]) hS Try.sizeOf28 rfl rfl rfl rfl rfl rfl rfl ?_
     clear hS; intro W14 hS
     refine endF (XF.thenN ?_)
     refine retF ?_
     refine XF.res (resC1 (vs := [_, _, _, _, _, _]) Try.results7 Try.isAgg28 Try.sizeOf28 rfl (CellsAt.own (j := 0) (m := 6) (hS.at_ 0 rfl) rfl)) ?_
     have hrw := hS.row 0 rfl
     exact ⟨⟨.mk ⟨tag, dim, sa3, len3, cap3⟩ sps3, st, sy, va, rs2.length, vc, rs2⟩, rfl, ⟨fun W2 hb hg => ⟨⟨hs3l, hs3r.below hb, fun q hq => SIn.below hb (hs3i q hq)⟩, row_rrow9 (ownsRow_agree hrw hg), rfl, fun r hr => (hok r hr).1.below hb⟩, hl40, fun r hr => (hok r hr).2.1, fun r hr => (hok r hr).2.2⟩, hS.below⟩
   ·skip
    refine seqF (regF ?_)
    refine op_field (o' := 0) fa_28_0 rfl rfl rfl ?_
    refine op_field (o' := 2) fa_25_2 rfl rfl rfl ?_
    refine op_load Try.isAgg23 rfl (cell_own (hS.at_ 1 rfl) rfl) rfl ?_
    refine op_len Try.underlying23 rfl rfl ?_
    refine op_gtr rfl rfl rfl ?_
    refine endF (XF.thenN ?_)
    refine condF rfl (fun hc => ?_) (fun hc => ?_)
    ·have hc45 := of_decide_eq_true hc; clear hc
     have hla := addr_srow9 hsr (by omega)
     refine regF ?_
     refine op_field (o' := 0) fa_28_0 rfl rfl rfl ?_
     refine op_field (o' := 2) fa_25_2 rfl rfl rfl ?_
     refine op_load Try.isAgg23 rfl (cell_own (hS.at_ 1 rfl) rfl) rfl ?_
     refine op_sliceTo (k := 3) Try.underlying23 Try.sizeOf25 rfl rfl (by decide) (by omega) (by omega) hla rfl ?_
     refine op_field (o' := 0) fa_28_0 rfl rfl rfl ?_
     refine op_field (o' := 2) fa_25_2 rfl rfl rfl ?_
     refine op_store (i := 1) (cs' := [_, _, _, _, _, _]) (O' := [_, _]) hS Try.sizeOf23 rfl rfl rfl rfl rfl rfl rfl ?_
     clear hS; intro W15 hS
     refine endF ?_
     exact XF.join [(1, _), (2, _)] ⟨rfl, rfl, trivial⟩ ⟨3, sps.take 3, rfl, Nat.le_refl _, by rw [List.length_take]; omega, hsr.take9 3, fun q hq => hsi q (List.mem_of_mem_take hq), hS.clear⟩
    ·have hc45 := of_decide_eq_false hc; clear hc
     refine skipF ?_
     exact XF.join [(1, _), (2, _)] ⟨rfl, rfl, trivial⟩ ⟨slen, sps, rfl, by omega, hsl, hsr, hsi, hS.clear⟩
 ·have hg12 := of_decide_eq_false hc; clear hc
  refine op_notF (d := 12) rfl rfl rfl rfl ?_
  refine op_notF (d := 12) rfl rfl rfl rfl ?_
  refine op_notF (d := 12) rfl rfl rfl rfl ?_
  refine op_pickF rfl rfl rfl ?_
  refine endF (XF.thenN ?_)
  refine condN rfl ?_
  refine exitF ?_
  refine XF.thenX ?_
  refine XF.thenX ?_
  refine XF.blkX ?_
  refine XF.thenN ?_
  refine seqF (regF ?_)
  refine op_move rfl rfl ?_
  refine op_field (o' := 5) fa_28_3 rfl rfl rfl ?_
  refine op_store (i := 1) (cs' := [_, _, _, _, _, _]) (O' := [_, _]) hS Try.sizeOf26 rfl rfl rfl rfl rfl rfl rfl ?_
  clear hS; intro W16 hS
  refine endF (XF.thenN ?_)
  refine joinF (fun l W => ∃ (len2 : Nat) (sps2 : List SV), l = [(1, .pointer (some ⟨B1, 0, none⟩)), (2, .pointer (some ⟨B2, 0, none⟩))] ∧ len2 ≤ 3 ∧ sps2.length = len2 ∧ SRow w9 sa sps2 ∧ (∀ q ∈ sps2, SIn w9 ds q) ∧ St w [(B2, [.int .i64 0, .int .i64 0, .slice none 0 0, .int .i64 0, .int .i64 0, .slice none 0 0], 28), (B1, [.int .i64 tag, .int .i64 dim, .slice sa len2 scap, .int .i64 st, .int .i64 sy, .slice va rs2.length vc], 28)] [⟨.slice va rs2.length vc, rs2.length, rs2.flatMap RV.ten, 47, 10⟩] [] W) ?_ ?_
  ·clear hS
   rintro _ W ⟨len2, sps2, rfl, hl3, hs2l, hs2r, hs2i, hS⟩
   refine seqF ?_
   refine seqF (regF ?_)
   refine op_assign rfl rfl ?_
   refine endF (XF.thenN ?_)
   refine blockF ?_
   refine loopF (fun m l W => ∃ (i : Nat) (sa3 : Option Addr) (len3 cap3 : Nat) (sps3 : List SV), i ≤ 3 ∧ m = len3 - i ∧ l = [(1, .pointer (some ⟨B1, 0, none⟩)), (2, .pointer (some ⟨B2, 0, none⟩)), (6, .int .i64 (i : Int))] ∧ len3 ≤ 3 ∧ sps3.length = len3 ∧ SRow w9 sa3 sps3 ∧ (∀ q ∈ sps3, SIn w9 ds q) ∧ St w [(B2, [.int .i64 0, .int .i64 0, .slice none 0 0, .int .i64 0, .int .i64 0, .slice none 0 0], 28), (B1, [.int .i64 tag, .int .i64 dim, .slice sa3 len3 cap3, .int .i64 st, .int .i64 sy, .slice va rs2.length vc], 28)] [⟨.slice va rs2.length vc, rs2.length, rs2.flatMap RV.ten, 47, 10⟩] [] W) (len2 - 0) ([(1, _), (2, _), (6, _)]) ⟨rfl, rfl, rfl, trivial⟩ (⟨0, sa, len2, scap, sps2, Nat.zero_le _, rfl, rfl, hl3, hs2l, hs2r, hs2i, hS.clear⟩) ?_
   clear hS
   rintro m l W ⟨i, sa3, len3, cap3, sps3, hi3, rfl, rfl, hl33, hs3l, hs3r, hs3i, hS⟩
   refine seqF ?_
   refine seqF (regF ?_)
   refine op_move rfl rfl ?_
   refine op_field (o' := 0) fa_28_0 rfl rfl rfl ?_
   refine op_field (o' := 2) fa_25_2 rfl rfl rfl ?_
   refine op_load Try.isAgg23 rfl (cell_own (hS.at_ 1 rfl) rfl) rfl ?_
   refine op_len Try.underlying23 rfl rfl ?_
   refine op_lss rfl rfl rfl ?_
   refine endF (XF.thenN ?_)
   refine condF rfl (fun hc => ?_) (fun hc => ?_)
   ·have hc57 := of_decide_eq_true hc; clear hc
    have hk3 : i < len3 := by omega
    obtain ⟨q, hq⟩ : ∃ q, sps3[i]? = some q := ⟨sps3[i]'(by omega), by simp [show i < sps3.length by omega]⟩
    obtain ⟨b, off, rfl, hs3⟩ : ∃ b off, sa3 = some ⟨b, off, none⟩ ∧ S3 w9 b (off + i * 3) q.f := by
     rcases hs3r with h | ⟨b, off, ha, hc⟩
     ·rw [h] at hq; simp at hq
     ·exact ⟨b, off, ha, hc i q hq⟩
    have k16 : W.cell? ⟨b, off + i * 3 + 2, none⟩ = some (.slice q.f.a q.f.len q.f.cap) := hS.old (hs3.below h9).2.2
    refine skipF ?_
    refine XF.thenN ?_
    refine seqF ?_
    refine blockF ?_
    refine seqF (regF ?_)
    refine op_field (o' := 0) fa_28_0 rfl rfl rfl ?_
    refine op_field (o' := 2) fa_25_2 rfl rfl rfl ?_
    refine op_load Try.isAgg23 rfl (cell_own (hS.at_ 1 rfl) rfl) rfl ?_
    refine op_move rfl rfl ?_
    refine op_indexA  Try.underlying23 Try.sizeOf25 rfl rfl rfl (by omega) rfl rfl ?_
    refine op_field fa_25_2 rfl rfl rfl ?_
    refine op_load Try.isAgg23 rfl (k16) rfl ?_
    refine op_len Try.underlying23 rfl rfl ?_
    refine op_gtr rfl rfl rfl ?_
    refine endF (XF.thenN ?_)
    refine condF rfl (fun hc => ?_) (fun hc => ?_)
    ·have hc68 := of_decide_eq_true hc; clear hc
     refine regF ?_
     refine op_field (o' := 0) fa_28_0 rfl rfl rfl ?_
     refine op_field (o' := 2) fa_25_2 rfl rfl rfl ?_
     refine op_store (i := 1) (cs' := [_, _, _, _, _, _]) (O' := [_, _]) hS Try.sizeOf23 rfl rfl rfl rfl rfl rfl rfl ?_
     clear hS; intro W17 hS
     refine endF ?_
     refine XF.blkN ?_
     refine XF.thenN ?_
     refine regF ?_
     refine op_move rfl rfl ?_
     refine op_add rfl rfl (IntWalk.i64_in _ (by omega)) rfl ?_
     refine op_assign rfl rfl ?_
     refine endF ?_
     exact XF.round (0 - (i + 1)) [(1, _), (2, _), (6, _)] (by omega) ⟨rfl, rfl, rfl, trivial⟩ ⟨i + 1, none, 0, 0, [], by omega, rfl, rfl, by omega, rfl, .inl rfl, (fun q hq => by cases hq), hS.clear⟩
    ·have hc68 := of_decide_eq_false hc; clear hc
     refine skipF ?_
     refine XF.blkN ?_
     refine XF.thenN ?_
     refine regF ?_
     refine op_move rfl rfl ?_
     refine op_add rfl rfl (IntWalk.i64_in _ (by omega)) rfl ?_
     refine op_assign rfl rfl ?_
     refine endF ?_
     exact XF.round (len3 - (i + 1)) [(1, _), (2, _), (6, _)] (by omega) ⟨rfl, rfl, rfl, trivial⟩ ⟨i + 1, _, len3, cap3, sps3, by omega, rfl, rfl, hl33, hs3l, hs3r, hs3i, hS.clear⟩
   ·have hc57 := of_decide_eq_false hc; clear hc
    refine exitF ?_
    refine XF.thenX ?_
    refine XF.thenX ?_
    refine XF.blkX ?_
    refine XF.thenN ?_
    refine seqF (regF ?_)
    refine op_loadA (vs := [_, _, _, _, _, _]) Try.isAgg28 Try.sizeOf28 rfl (CellsAt.own (j := 0) (m := 6) (hS.at_ 1 rfl) rfl) rfl ?_
    refine op_storeA (i := 0) (vs := [_, _, _, _, _, _]) (cs' := [_, _, _, _, _, _]) (O' := [_, _]) hS Try.sizeOf28 rfl rfl rfl rfl rfl rfl rfl ?_
    clear hS; intro W18 hS
    refine endF (XF.thenN ?_)
    refine retF ?_
    refine XF.res (resC1 (vs := [_, _, _, _, _, _]) Try.results7 Try.isAgg28 Try.sizeOf28 rfl (CellsAt.own (j := 0) (m := 6) (hS.at_ 0 rfl) rfl)) ?_
    have hrw := hS.row 0 rfl
    exact ⟨⟨.mk ⟨tag, dim, sa3, len3, cap3⟩ sps3, st, sy, va, rs2.length, vc, rs2⟩, rfl, ⟨fun W2 hb hg => ⟨⟨hs3l, hs3r.below hb, fun q hq => SIn.below hb (hs3i q hq)⟩, row_rrow9 (ownsRow_agree hrw hg), rfl, fun r hr => (hok r hr).1.below hb⟩, hl40, fun r hr => (hok r hr).2.1, fun r hr => (hok r hr).2.2⟩, hS.below⟩
  ·skip
   refine seqF (regF ?_)
   refine op_field (o' := 0) fa_28_0 rfl rfl rfl ?_
   refine op_field (o' := 2) fa_25_2 rfl rfl rfl ?_
   refine op_load Try.isAgg23 rfl (cell_own (hS.at_ 1 rfl) rfl) rfl ?_
   refine op_len Try.underlying23 rfl rfl ?_
   refine op_gtr rfl rfl rfl ?_
   refine endF (XF.thenN ?_)
   refine condF rfl (fun hc => ?_) (fun hc => ?_)
   ·have hc45 := of_decide_eq_true hc; clear hc
    have hla := addr_srow9 hsr (by omega)
    refine regF ?_
    refine op_field (o' := 0) fa_28_0 rfl rfl rfl ?_
    refine op_field (o' := 2) fa_25_2 rfl rfl rfl ?_
    refine op_load Try.isAgg23 rfl (cell_own (hS.at_ 1 rfl) rfl) rfl ?_
    refine op_sliceTo (k := 3) Try.underlying23 Try.sizeOf25 rfl rfl (by decide) (by omega) (by omega) hla rfl ?_
    refine op_field (o' := 0) fa_28_0 rfl rfl rfl ?_
    refine op_field (o' := 2) fa_25_2 rfl rfl rfl ?_
    refine op_store (i := 1) (cs' := [_, _, _, _, _, _]) (O' := [_, _]) hS Try.sizeOf23 rfl rfl rfl rfl rfl rfl rfl ?_
    clear hS; intro W19 hS
    refine endF ?_
    exact XF.join [(1, _), (2, _)] ⟨rfl, rfl, trivial⟩ ⟨3, sps.take 3, rfl, Nat.le_refl _, by rw [List.length_take]; omega, hsr.take9 3, fun q hq => hsi q (List.mem_of_mem_take hq), hS.clear⟩
   ·have hc45 := of_decide_eq_false hc; clear hc
    refine skipF ?_
    exact XF.join [(1, _), (2, _)] ⟨rfl, rfl, trivial⟩ ⟨slen, sps, rfl, by omega, hsl, hsr, hsi, hS.clear⟩
theorem pcut_is {ds d : Nat} {p : PV} {w9 w : World} (h9 : Below w9.heap.size w9 w) (hp : PvIn w9 (ds + 1) d p) (hc : PvCap9 p) (hrm : p.rl ≤ 9223372036854775807) : Calls Try.prog 7 #[p.val] w fun e w' => ∃ q : PV, e = .returned q.val ∧ Cut9 (ds + 1) d w9 w w' q ∧ Below w.heap.size w w' := by
 obtain ⟨s, st, sy, ra, rl, rc, rs⟩ := p
 obtain ⟨⟨tag, dim, sa, slen, scap⟩, sps⟩ := s
 obtain ⟨hs, hr, hl, hi⟩ := hp
 exact pcut_c ds d tag dim sa slen scap sps st sy ra rl rc rs w9 w h9 hs.1 hs.2.1 hs.2.2 hc.s hr hl hi hc.r hrm
end Go.Proofs.Ytpkcaabbcoiiiaa
namespace Go.Proofs.Ytpkcaabbcoiiiaa
open Go Go.RowKit
theorem bld_25_0 (v0 : Int) : Try.prog.built 25 [(0, .int .i64 v0)] = some #[.int .i64 v0, .int .i64 0, .slice none 0 0] := by kernel_rfl
theorem bld_47_2_3 (v2 : Int) (v3a : Option Addr) (v3l : Nat) (v3c : Nat) : Try.prog.built 47 [(2, .int .i64 v2), (3, .slice v3a v3l v3c)] = some #[.int .i64 0, .int .i64 0, .int .i64 v2, .slice v3a v3l v3c, .bool false, .int .i64 0, .int .u64 0, .slice none 0 0, .slice none 0 0, .slice none 0 0] := by kernel_rfl
theorem bs_29_3 (v0 : Int) (v1 : Int) (v2 : Int) : Instr.fill (fun i => some (i * 1, 1)) ((Array.range (3 * 1)).map ((Value.cells (.int .i64 0))[· % (Value.cells (.int .i64 0)).size]!)) [(0, .int .i64 v0), (1, .int .i64 v1), (2, .int .i64 v2)] = some (List.toArray [.int .i64 v0, .int .i64 v1, .int .i64 v2]) := by kernel_rfl
theorem goes_8 : goesIn Try.prog 8 = true := by kernel_rfl
theorem shortA_is {ds d : Nat} {p : PV} {w : World} (hp : PvIn w ds d p) (ht : Tabs w) (S : PS) (px : RV → PX) (hpx : pdsE p = 0 → PdsOk w S px p) : Calls Try.prog 8 #[p.val] w (ShortRet S px p w) := shortA_c ds d p.s p.st p.sy p.ra p.rl p.rc p.rs w hp.s hp.row hp.len hp.rin ht S px hpx
def alW : WV := .mk ⟨false, 0, 0, none, 0, 0, [], none, 0, 0, [], none, 0, 0⟩ []
abbrev alR (b1 : Nat) : RV := ⟨0, 0, 1, some ⟨b1, 0, none⟩, 3, 3, [2, 3, 4], alW⟩
abbrev alP (b1 b2 : Nat) : PV := ⟨.mk ⟨1, 0, none, 0, 0⟩ [], 2, 5, some ⟨b2, 0, none⟩, 1, 1, [alR b1]⟩
theorem alW_in (w : World) : WIn w 1 alW := ⟨⟨.inl rfl, rfl, by decide, (fun r hr => by cases hr), .inl rfl, rfl, (fun c hc => by cases hc), by decide⟩, rfl, .inl rfl, fun p hp => by cases hp⟩
theorem row_own3 {W : World} {B : Nat} {T : TypeId} {a b c : Int} (h : W.heap[B]? = some (.cells (List.toArray [.int .i64 a, .int .i64 b, .int .i64 c]) T (0, 0))) : Row W (some ⟨B, 0, none⟩) [a, b, c] := by
 refine .inr ⟨B, 0, rfl, fun i hi => ?_⟩
 match i, hi with
 | 0, _ => exact cell_own h rfl
 | 1, _ => exact cell_own h rfl
 | 2, _ => exact cell_own h rfl
 | i + 3, hi => exact absurd hi (by simp)
theorem own_one9 {w : World} {lo n size : Nat} {e : TypeId} {v : Value} {xs : List Value} (h : w.ownsRow lo e size v n xs) : v.oneCell' = true := by
 rcases h.2 with ⟨h1, _⟩ | ⟨_, _, _, h1, _⟩ <;> rw [h1] <;> rfl
theorem alP_in {w : World} {b1 b2 : Nat} {T1 T2 : TypeId} (h1 : w.heap[b1]? = some (.cells (List.toArray [.int .i64 2, .int .i64 3, .int .i64 4]) T1 (0, 0))) (h2 : w.heap[b2]? = some (.cells (List.toArray (alR b1).ten) T2 (0, 0))) : PvIn w 1 1 (alP b1 b2) := by
 refine ⟨⟨rfl, .inl rfl, fun p hp => by cases hp⟩, .inr ⟨b2, 0, rfl, fun i r hi => ?_⟩, rfl, fun r hr => ?_⟩
 ·match i, hi with
  | 0, hi =>
   cases hi
   exact CellsAt.own (j := 0) (m := 10) h2 rfl
  | i + 1, hi => exact absurd hi (by simp)
 ·simp at hr
  subst hr
  exact ⟨row_own3 h1, rfl, alW_in w⟩
theorem alP_ok (b1 b2 : Nat) : pdsE (alP b1 b2) = 0 ∧ tooMany (alP b1 b2) = false := by
 have e1 : spaceE (alP b1 b2).s = 0 := by show spaceE (.mk ⟨1, 0, none, 0, 0⟩ []) = 0; decide
 have e2 : (alP b1 b2).rs.all (ruleB 2 5) = true := by simp [ruleB, inQ]
 have e3 : chkW (alP b1 b2).s alW = 0 := by show chkW (.mk ⟨1, 0, none, 0, 0⟩ []) alW = 0; decide
 have e4 : wtE (alP b1 b2).s (alP b1 b2).rs = 0 := wtE_all (by simp; exact e3)
 constructor
 ·unfold pdsE
  rw [if_neg (by rw [e1]; simp), if_neg (by simp), if_neg (by simp), if_pos (show (alP b1 b2).rs.all (ruleB (alP b1 b2).st (alP b1 b2).sy) = true from e2), e4]
 ·rfl
theorem two_map9 {α β : Type} {f : α → β} {l : List α} {a b : β} (h : l.map f = [a, b]) : ∃ x y, l = [x, y] ∧ f x = a ∧ f y = b := by
 match l, h with
 | [x, y], h => simp at h; exact ⟨x, y, rfl, h.1, h.2⟩
theorem rowN_addr {lo c : Nat} {W : World} {a : Option Addr} {xs : List Int} (h : RowN lo W a c xs) (hl : 0 < xs.length) : ∃ b, a = some ⟨b, 0, none⟩ := by
 obtain ⟨b, c9, e, _⟩ := ownsRow_at h hl
 injection e with e _ _
 exact ⟨b, e⟩
theorem rowN_cell9 {lo c b i : Nat} {W : World} {xs : List Int} {y : Int} (h : RowN lo W (some ⟨b, 0, none⟩) c xs) (hi : xs[i]? = some y) : W.cell? ⟨b, i, none⟩ = some (.int .i64 y) := ownsRow_blk h (by rw [List.getElem?_map, hi]; rfl)
theorem row_ten9 {W : World} {lo b n c i : Nat} {ns : List R9} {r : R9} (h : W.ownsRow lo 47 10 (.slice (some ⟨b, 0, none⟩) n c) n (ns.flatMap ten9)) (hi : ns[i]? = some r) : CellsAt W b (i * 10) (ten9 r) := by
 have key : ∀ (l : List R9) (i : Nat), l[i]? = some r → ((l.flatMap ten9).drop (i * 10)).take 10 = ten9 r := by
  intro l
  induction l with
  | nil => intro i h; simp at h
  | cons z l ih =>
   intro i h
   cases i with
   | zero => simp at h; subst h; rfl
   | succ i =>
    have e : (i + 1) * 10 = 10 + i * 10 := by omega
    rw [List.flatMap_cons, e, ← List.drop_drop]
    exact ih i (by simpa using h)
 have e5 := key ns i hi
 refine CellsAt.of fun j v hj => ownsRow_blk h ?_
 rw [← e5, List.getElem?_take] at hj
 split at hj
 ·rw [List.getElem?_drop] at hj; exact hj
 ·cases hj
theorem alive_short {b1 b2 : Nat} {w : World} (hp : PvIn w 1 1 (alP b1 b2)) (ht : Tabs w) : Calls Try.prog 8 #[(alP b1 b2).val] w fun e w' => ∃ (s2 : SF) (c9 : Nat) (v2 v3 : Value) (S : PS) (x1 x2 : PX) (f1 f2 : WF) (b9 ba bb ca cb : Nat), e = .returned (.tuple #[.agg #[.int .i64 s2.tag, .int .i64 s2.dim, .slice s2.a s2.len s2.cap, .int .i64 3, .int .i64 6, .slice (some ⟨b9, 0, none⟩) 2 c9, v2, v3], .int .i64 0]) ∧ w'.ownsRow w.heap.size 47 10 (.slice (some ⟨b9, 0, none⟩) 2 c9) 2 ([⟨0, true, 0, 0, 2, some ⟨ba, 0, none⟩, ca, [5, 4], f1, x1⟩, ⟨0, false, 2, 5, 1, some ⟨bb, 0, none⟩, cb, [2, 3], f2, x2⟩].flatMap ten9) ∧ RowN w.heap.size w' (some ⟨ba, 0, none⟩) ca [5, 4] ∧ RowN w.heap.size w' (some ⟨bb, 0, none⟩) cb [2, 3] ∧ v2.oneCell' = true ∧ v3.oneCell' = true ∧ Below w.heap.size w w' := by
 obtain ⟨S, px, hpx⟩ := pdsOk_of hp (alP_ok b1 b2).1
 refine (shortA_is hp ht S px (fun _ => hpx)).mono fun e w' h => ?_
 obtain ⟨hb, h | h | ⟨_, s2, v1, v2, v3, ns, hok, rfl⟩⟩ := h
 ·exact absurd (alP_ok b1 b2).1 h.1
 ·rw [(alP_ok b1 b2).2] at h; cases h.2.1
 ·have hpl : ns.map R9.pl = [(0, true, 0, 0, 2, [5, 4], px (alR b1)), (0, false, 2, 5, 1, [2, 3], oneX S)] := hok.pl
  obtain ⟨r1, r2, rfl, h1, h2⟩ := two_map9 hpl
  obtain ⟨n1, t1, p1, g1, q1, wa1, wc1, ws1, f1, x1⟩ := r1
  obtain ⟨n2, t2, p2, g2, q2, wa2, wc2, ws2, f2, x2⟩ := r2
  simp only [R9.pl, Prod.mk.injEq] at h1 h2
  obtain ⟨rfl, rfl, rfl, rfl, rfl, rfl, rfl⟩ := h1
  obtain ⟨rfl, rfl, rfl, rfl, rfl, rfl, rfl⟩ := h2
  have w1 : RowN w.heap.size w' wa1 wc1 [5, 4] := (hok.rules _ List.mem_cons_self).w
  have w2 : RowN w.heap.size w' wa2 wc2 [2, 3] := (hok.rules _ (List.mem_cons_of_mem _ List.mem_cons_self)).w
  obtain ⟨ba, rfl⟩ := rowN_addr w1 (by decide)
  obtain ⟨bb, rfl⟩ := rowN_addr w2 (by decide)
  have r1 := hok.r1
  obtain ⟨b9, c9, rfl, _⟩ := ownsRow_at (n := 2) r1 (by decide)
  exact ⟨s2, c9, v2, v3, S, _, _, f1, f2, b9, ba, bb, wc1, wc2, rfl, r1, w1, w2, own_one9 hok.r2, own_one9 hok.r3, hb⟩
theorem alive_is (w : World) (ht : Tabs w) :
  Calls Try.prog 9 #[] w (fun e w' => e = .returned (.bool (true)) ∧ Below w.heap.size w w') := by
 refine enterF (args := []) Try.func9 rfl Try.ntmps9 rfl ?_
 have hS := St.start w
 refine seqF (regF ?_)
 refine op_assign rfl rfl ?_
 refine endF (XF.thenN ?_)
 refine seqF (regF ?_)
 refine op_build (us := [(0, .int .i64 _)]) rfl (bld_25_0 _) rfl ?_
 refine op_buildSlice (us := [(0, .int .i64 _), (1, .int .i64 _), (2, .int .i64 _)]) hS Try.underlying29 Try.sizeOf3 Try.zeroValue3 rfl rfl rfl (bs_29_3 _ _ _) rfl ?_
 clear hS; intro B1 W1 hS
 refine op_build (us := [(2, .int .i64 _), (3, .slice _ _ _)]) rfl (bld_47_2_3 _ _ _ _) rfl ?_
 refine op_buildSlice (us := [(0, .agg (List.toArray [_, _, _, _, _, _, _, _, _, _]))]) hS Try.underlying26 Try.sizeOf47 Try.zeroValue47 rfl rfl rfl (bs_26_1 _ _ _ _ _ _ _ _ _ _) rfl ?_
 clear hS; intro B2 W2 hS
 refine op_build (us := [(0, .agg (List.toArray [_, _, _])), (1, .int .i64 _), (2, .int .i64 _), (3, .slice _ _ _)]) rfl (bld_28_0_1_2_3 _ _ _ _ _ _ _ _) rfl ?_
 refine op_alloc (cs := [_, _, _, _, _, _]) hS Try.zeroValue28 rfl rfl ?_
 clear hS; intro B3 W3 hS
 refine op_storeA (i := 0) (vs := [_, _, _, _, _, _]) (cs' := [_, _, _, _, _, _]) (O' := [_, _, _]) hS Try.sizeOf28 rfl rfl (by first | rfl | (simp only [List.all_cons, List.all_nil, Bool.and_true, Bool.and_eq_true]; exact ⟨rfl, rfl, rfl, rfl, rfl, rfl, h1v, h2v⟩)) rfl rfl rfl rfl ?_
 clear hS; intro W4 hS
 refine endF (XF.thenN ?_)
 refine seqF (regF ?_)
 refine op_loadA (vs := [_, _, _, _, _, _]) Try.isAgg28 Try.sizeOf28 rfl (CellsAt.own (j := 0) (m := 6) (hS.at_ 0 rfl) rfl) rfl ?_
 have hal := alive_short (alP_in (hS.at_ 2 rfl) (hS.at_ 1 rfl)) (ht.below hS.below)
 refine op_call (vs := [_]) hS goes_8 rfl (hal) rfl ?_
 rintro e W5 ⟨s2, c9, v2, v3, S, x1, x2, f1, f2, b9, ba, bb, ca, cb, rfl, hr9, hn1, hn2, h1v, h2v, hb⟩
 refine ⟨_, rfl, hb, fun hS' => ?_⟩
 clear hS; have hS := hS'; clear hS'
 clear hal hb
 obtain ⟨lo9, hlo9⟩ : ∃ n, n = W4.heap.size := ⟨_, rfl⟩
 rw [← hlo9] at hr9 hn1 hn2 hS
 have HN : Held w [(lo9, W5)] (fun W2 => W2.ownsRow lo9 47 10 (.slice (some ⟨b9, 0, none⟩) 2 c9) 2 ([⟨0, true, 0, 0, 2, some ⟨ba, 0, none⟩, ca, [5, 4], f1, x1⟩, ⟨0, false, 2, 5, 1, some ⟨bb, 0, none⟩, cb, [2, 3], f2, x2⟩].flatMap ten9) ∧ RowN lo9 W2 (some ⟨ba, 0, none⟩) ca [5, 4] ∧ RowN lo9 W2 (some ⟨bb, 0, none⟩) cb [2, 3]) := Held.one (p := fun W2 => W2.ownsRow lo9 47 10 (.slice (some ⟨b9, 0, none⟩) 2 c9) 2 ([⟨0, true, 0, 0, 2, some ⟨ba, 0, none⟩, ca, [5, 4], f1, x1⟩, ⟨0, false, 2, 5, 1, some ⟨bb, 0, none⟩, cb, [2, 3], f2, x2⟩].flatMap ten9) ∧ RowN lo9 W2 (some ⟨ba, 0, none⟩) ca [5, 4] ∧ RowN lo9 W2 (some ⟨bb, 0, none⟩) cb [2, 3]) (fun W2 hg => ⟨ownsRow_agree hr9 hg, hn1.agree hg, hn2.agree hg⟩)
 refine op_move rfl rfl ?_
 refine op_extract rfl rfl rfl ?_
 refine op_extract rfl rfl rfl ?_
 refine op_alloc (cs := [_, _, _, _, _, _, _, _]) hS Try.zeroValue33 rfl rfl ?_
 clear hS; intro B6 W6 hS
 refine op_storeA (i := 0) (vs := [_, _, _, _, _, _, _, _]) (cs' := [_, _, _, _, _, _, _, _]) (O' := [_, _, _, _]) hS Try.sizeOf33 rfl rfl (by first | rfl | (simp only [List.all_cons, List.all_nil, Bool.and_true, Bool.and_eq_true]; exact ⟨rfl, rfl, rfl, rfl, rfl, rfl, h1v, h2v⟩)) rfl rfl rfl rfl ?_
 clear hS; intro W7 hS
 refine op_assign rfl rfl ?_
 refine endF (XF.thenN ?_)
 refine seqF ?_
 refine seqF (regF ?_)
 refine op_move rfl rfl ?_
 refine op_neq rfl rfl rfl ?_
 refine op_move rfl rfl ?_
 refine op_cases (d := 18) rfl (fun hc => absurd (of_decide_eq_true hc) (by exact fun h => h rfl)) (fun hc => ?_)
 have hc := of_decide_eq_false hc
 refine op_wantedF (d := 18) rfl rfl ?_
 refine op_field (o' := 0) fa_33_0 rfl rfl rfl ?_
 refine op_wantedF (d := 18) rfl rfl ?_
 refine op_field (o' := 5) fa_28_3 rfl rfl rfl ?_
 refine op_wantedF (d := 18) rfl rfl ?_
 refine op_load Try.isAgg26 rfl (cell_own (hS.at_ 0 rfl) rfl) rfl ?_
 refine op_wantedF (d := 18) rfl rfl ?_
 refine op_len Try.underlying26 rfl rfl ?_
 refine op_wantedF (d := 18) rfl rfl ?_
 refine op_neq rfl rfl rfl ?_
 refine op_pickF rfl rfl rfl ?_
 refine endF (XF.thenN ?_)
 refine condF rfl (fun hc => absurd (of_decide_eq_true hc) (by exact fun h => h rfl)) (fun hc => ?_)
 have hc := of_decide_eq_false hc
 refine skipF ?_
 refine XF.thenN ?_
 refine seqF ?_
 refine regY (al := [⟨10, 47, [.int .i64 0, .int .i64 0, .int .i64 0, .slice none 0 0, .bool false, .int .i64 0, .int .u64 0, .slice none 0 0, .slice none 0 0, .slice none 0 0], 12⟩, ⟨11, 47, [.int .i64 0, .int .i64 0, .int .i64 0, .slice none 0 0, .bool false, .int .i64 0, .int .u64 0, .slice none 0 0, .slice none 0 0, .slice none 0 0], 25⟩]) (G := fun _ => []) (E := [10, 11, 12]) (k := 13) (ds := []) followsM rfl hS rfl rfl (by kernel_rfl) (by kernel_rfl) rfl (by decide) rfl ?_
 refine bly_cons 1 rfl (isV _) (syV fst_take [(2, _)] rfl rfl (fun _ => (w_free rfl)) (fun _ => ⟨g_fr (by kernel_rfl) rfl, trivial⟩) (fun s w hw => rn_field (o' := 0) fa_33_0 rfl rfl) (at_top rfl)) ?_
 refine bly_cons 2 rfl (isV _) (syV fst_take [(25, _)] rfl rfl (fun _ => (w_free rfl)) (fun _ => ⟨g_dep 0 (by kernel_rfl) (at_n rfl rfl (at_dep rfl rfl rfl)), trivial⟩) (fun s w hw => rn_field (o' := 5) fa_28_3 rfl rfl) (at_top rfl)) ?_
 refine bly_cons 3 rfl (isV _) (syV fst_take [(26, _)] rfl rfl (fun _ => (w_free rfl)) (fun _ => ⟨g_dep 1 (by kernel_rfl) (at_n rfl rfl (at_dep rfl rfl rfl)), trivial⟩) (fun s w hw => rn_load Try.isAgg26 rfl ((cell_own (hw.at_ 0 rfl) rfl))) (at_top rfl)) ?_
 refine bly_cons 4 rfl (isV _) (syV fst_take [(27, _)] rfl rfl (fun _ => (w_free rfl)) (fun _ => ⟨g_dep 2 (by kernel_rfl) (at_n rfl rfl (at_dep rfl rfl rfl)), trivial⟩) (fun s w hw => rn_indexA (j := 0) Try.underlying26 Try.sizeOf47 rfl rfl rfl (by omega) (Nat.add_zero _)) (at_top rfl)) ?_
 refine bly_cons 5 rfl (isV _) (syV fst_take [(28, _)] rfl rfl (fun _ => (w_free rfl)) (fun _ => ⟨g_dep 3 (by kernel_rfl) (at_n rfl rfl (at_dep rfl rfl rfl)), trivial⟩) (fun s w hw => rn_loadA (vs := [_, _, _, _, _, _, _, _, _, _]) Try.isAgg47 Try.sizeOf47 rfl (row_ten9 (i := 0) (HN hw (fun q hq => by simp at hq; subst hq; simp)).1 rfl)) (at_top rfl)) ?_
 refine bly_cons 6 rfl (isV _) (syV fst_take [(2, _)] rfl rfl (fun _ => (w_free rfl)) (fun _ => ⟨g_fr (by kernel_rfl) rfl, trivial⟩) (fun s w hw => rn_field (o' := 0) fa_33_0 rfl rfl) (at_top rfl)) ?_
 refine bly_cons 7 rfl (isV _) (syV fst_take [(30, _)] rfl rfl (fun _ => (w_free rfl)) (fun _ => ⟨g_dep 5 (by kernel_rfl) (at_n rfl rfl (at_dep rfl rfl rfl)), trivial⟩) (fun s w hw => rn_field (o' := 5) fa_28_3 rfl rfl) (at_top rfl)) ?_
 refine bly_cons 8 rfl (isV _) (syV fst_take [(31, _)] rfl rfl (fun _ => (w_free rfl)) (fun _ => ⟨g_dep 6 (by kernel_rfl) (at_n rfl rfl (at_dep rfl rfl rfl)), trivial⟩) (fun s w hw => rn_load Try.isAgg26 rfl ((cell_own (hw.at_ 0 rfl) rfl))) (at_top rfl)) ?_
 refine bly_cons 9 rfl (isV _) (syV fst_take [(32, _)] rfl rfl (fun _ => (w_free rfl)) (fun _ => ⟨g_dep 7 (by kernel_rfl) (at_n rfl rfl (at_dep rfl rfl rfl)), trivial⟩) (fun s w hw => rn_indexA (j := 1) Try.underlying26 Try.sizeOf47 rfl rfl rfl (by omega) rfl) (at_top rfl)) ?_
 refine bly_cons 10 rfl (isV _) (syV fst_take [(33, _)] rfl rfl (fun _ => (w_free rfl)) (fun _ => ⟨g_dep 8 (by kernel_rfl) (at_n rfl rfl (at_dep rfl rfl rfl)), trivial⟩) (fun s w hw => rn_loadA (vs := [_, _, _, _, _, _, _, _, _, _]) Try.isAgg47 Try.sizeOf47 rfl (row_ten9 (i := 1) (HN hw (fun q hq => by simp at hq; subst hq; simp)).1 rfl)) (at_top rfl)) ?_
 refine bly_cons 11 rfl (isPtr W7.heap.size) (sy_alloc ⟨10, 47, [.int .i64 0, .int .i64 0, .int .i64 0, .slice none 0 0, .bool false, .int .i64 0, .int .u64 0, .slice none 0 0, .slice none 0 0, .slice none 0 0], 12⟩ rfl rfl Try.zeroValue47 List.mem_cons_self rfl rfl rfl (.inl (by kernel_rfl)) (by decide) rfl (fun _ _ => rfl) (at_top rfl)) ?_
 refine bly_cons 12 rfl (isPtr W7.heap.size) (sy_alloc ⟨11, 47, [.int .i64 0, .int .i64 0, .int .i64 0, .slice none 0 0, .bool false, .int .i64 0, .int .u64 0, .slice none 0 0, .slice none 0 0, .slice none 0 0], 25⟩ rfl rfl Try.zeroValue47 (List.mem_cons_of_mem _ List.mem_cons_self) rfl rfl rfl (.inr rfl) (by decide) rfl (fun _ _ => rfl) (at_top rfl)) ?_
 refine bly_cons 13 rfl (isV _) (sy_store (jy := 4) (m := 10) ⟨10, 47, [.int .i64 0, .int .i64 0, .int .i64 0, .slice none 0 0, .bool false, .int .i64 0, .int .u64 0, .slice none 0 0, .slice none 0 0, .slice none 0 0], 12⟩ rfl rfl List.mem_cons_self rfl rfl (by kernel_rfl) (at_dep rfl rfl rfl) (by kernel_rfl) (at_dep rfl rfl rfl) (at_top rfl) Try.sizeOf47 rfl (fun v w h => by subst h; exact ⟨_, rfl, rfl, rfl⟩) (by decide) rfl (fun _ _ => rfl)) ?_
 refine bly_nil ?_
 intro s8 W8 Ks8 hall8 hsz8 hKs8 hS' hcov8 hfx8 hno8
 obtain ⟨v8_10, h8_10⟩ := hall8 10 rfl
 obtain ⟨v8_11, h8_11⟩ := hall8 11 rfl
 obtain ⟨v8_12, h8_12⟩ := hall8 12 rfl
 have f8_10 : AwS _ _ (isPtr W7.heap.size) _ _ := hfx8 10 rfl _ h8_10
 obtain ⟨B8_10, rfl, hB8_10⟩ := f8_10.here
 have f8_11 : AwS _ _ (isPtr W7.heap.size) _ _ := hfx8 11 rfl _ h8_11
 obtain ⟨B8_11, rfl, hB8_11⟩ := f8_11.here
 have f8_12 : AwS _ _ (isV _) _ _ := hfx8 12 rfl _ h8_12
 obtain rfl := f8_12.here
 clear hS; have hS := hS'.castO (O' := [(B8_10, _, 47), (B8_11, _, 47), _, _, _, _]) (by simp only [OY, AS_cons, AB.cs, h8_10, h8_11, h8_12, hno8 25 rfl]; rfl); clear hS'
 refine castL (L' := [AwS _ _ (isV _), AwS _ _ (isV _), AwS _ _ (isV _), AwS _ _ (isV _), AwS _ _ (isV _), AwS _ _ (isV _), AwS _ _ (isV _), AwS _ _ (isV _), AwS _ _ (isV _), AwS _ _ (isV _), isE s8 10, isE s8 11, isE s8 12]) rfl ?_
 refine fin_sV ?_
 refine fin_sV ?_
 refine fin_sV ?_
 refine fin_sV ?_
 refine fin_sV ?_
 refine fin_sV ?_
 refine fin_sV ?_
 refine fin_sV ?_
 refine fin_sV ?_
 refine fin_sV ?_
 refine fin_p ?_; intro u hu; obtain rfl := Option.some.inj (h8_10.symm.trans hu); clear hu
 refine fin_p ?_; intro u hu; obtain rfl := Option.some.inj (h8_11.symm.trans hu); clear hu
 refine fin_0 ?_
 refine fin_nil ?_
 refine op_storeA (i := 1) (vs := [_, _, _, _, _, _, _, _, _, _]) (cs' := [_, _, _, _, _, _, _, _, _, _]) (O' := [_, _, _, _, _, _]) hS Try.sizeOf47 rfl rfl (by first | rfl | (simp only [List.all_cons, List.all_nil, Bool.and_true, Bool.and_eq_true]; exact ⟨rfl, rfl, rfl, rfl, rfl, rfl, h1v, h2v⟩)) rfl rfl rfl rfl ?_
 clear hS; intro W9 hS
 refine endF (XF.thenN ?_)
 refine seqF ?_
 obtain ⟨_, hm1, hm2⟩ := HN hS (fun q hq => by simp at hq; subst hq; simp)
 have k1 := rowN_cell9 (i := 0) hm1 rfl
 have k2 := rowN_cell9 (i := 1) hm1 rfl
 have k3 := rowN_cell9 (i := 1) hm2 rfl
 refine regF ?_
 refine op_field (o' := 0) fa_33_0 rfl rfl rfl ?_
 refine op_field (o' := 3) fa_28_1 rfl rfl rfl ?_
 refine op_load Try.isAgg3 rfl (cell_own (hS.at_ 2 rfl) rfl) rfl ?_
 refine op_eql rfl rfl rfl ?_
 refine op_move rfl rfl ?_
 refine op_cases (d := 39) rfl (fun hc => ?_) (fun hc => absurd (of_decide_eq_false hc) (by exact fun h => h rfl))
 have hc := of_decide_eq_true hc
 refine op_wantedF (d := 39) rfl rfl ?_
 refine op_field (o' := 0) fa_33_0 rfl rfl rfl ?_
 refine op_wantedF (d := 39) rfl rfl ?_
 refine op_field (o' := 4) fa_28_2 rfl rfl rfl ?_
 refine op_wantedF (d := 39) rfl rfl ?_
 refine op_load Try.isAgg3 rfl (cell_own (hS.at_ 2 rfl) rfl) rfl ?_
 refine op_wantedF (d := 39) rfl rfl ?_
 refine op_eql rfl rfl rfl ?_
 refine op_pickT rfl rfl rfl ?_
 refine op_move rfl rfl ?_
 refine op_cases (d := 45) rfl (fun hc => ?_) (fun hc => absurd (of_decide_eq_false hc) (by exact fun h => h rfl))
 have hc := of_decide_eq_true hc
 refine op_wantedF (d := 45) rfl rfl ?_
 refine op_field (o' := 2) fa_47_2 rfl rfl rfl ?_
 refine op_wantedF (d := 45) rfl rfl ?_
 refine op_load Try.isAgg3 rfl (cell_own (hS.at_ 0 rfl) rfl) rfl ?_
 refine op_wantedF (d := 45) rfl rfl ?_
 refine op_eql rfl rfl rfl ?_
 refine op_pickT rfl rfl rfl ?_
 refine op_move rfl rfl ?_
 refine op_cases (d := 50) rfl (fun hc => ?_) (fun hc => absurd (of_decide_eq_false hc) (by exact fun h => h rfl))
 have hc := of_decide_eq_true hc
 refine op_wantedF (d := 50) rfl rfl ?_
 refine op_field (o' := 3) fa_47_3 rfl rfl rfl ?_
 refine op_wantedF (d := 50) rfl rfl ?_
 refine op_load Try.isAgg29 rfl (cell_own (hS.at_ 0 rfl) rfl) rfl ?_
 refine op_wantedF (d := 50) rfl rfl ?_
 refine op_len Try.underlying29 rfl rfl ?_
 refine op_wantedF (d := 50) rfl rfl ?_
 refine op_eql rfl rfl rfl ?_
 refine op_pickT rfl rfl rfl ?_
 refine op_move rfl rfl ?_
 refine op_cases (d := 56) rfl (fun hc => ?_) (fun hc => absurd (of_decide_eq_false hc) (by exact fun h => h rfl))
 have hc := of_decide_eq_true hc
 refine op_wantedF (d := 56) rfl rfl ?_
 refine op_field (o' := 3) fa_47_3 rfl rfl rfl ?_
 refine op_wantedF (d := 56) rfl rfl ?_
 refine op_load Try.isAgg29 rfl (cell_own (hS.at_ 0 rfl) rfl) rfl ?_
 refine op_wantedF (d := 56) rfl rfl ?_
 refine op_indexA (j := 0) Try.underlying29 Try.sizeOf3 rfl rfl rfl (by omega) (Nat.add_zero _) rfl ?_
 refine op_wantedF (d := 56) rfl rfl ?_
 refine op_load Try.isAgg3 rfl (k1) rfl ?_
 refine op_wantedF (d := 56) rfl rfl ?_
 refine op_eql rfl rfl rfl ?_
 refine op_pickT rfl rfl rfl ?_
 refine op_move rfl rfl ?_
 refine op_cases (d := 63) rfl (fun hc => ?_) (fun hc => absurd (of_decide_eq_false hc) (by exact fun h => h rfl))
 have hc := of_decide_eq_true hc
 refine op_wantedF (d := 63) rfl rfl ?_
 refine op_field (o' := 3) fa_47_3 rfl rfl rfl ?_
 refine op_wantedF (d := 63) rfl rfl ?_
 refine op_load Try.isAgg29 rfl (cell_own (hS.at_ 0 rfl) rfl) rfl ?_
 refine op_wantedF (d := 63) rfl rfl ?_
 refine op_indexA (j := 1) Try.underlying29 Try.sizeOf3 rfl rfl rfl (by omega) rfl rfl ?_
 refine op_wantedF (d := 63) rfl rfl ?_
 refine op_load Try.isAgg3 rfl (k2) rfl ?_
 refine op_wantedF (d := 63) rfl rfl ?_
 refine op_eql rfl rfl rfl ?_
 refine op_pickT rfl rfl rfl ?_
 refine op_move rfl rfl ?_
 refine op_cases (d := 70) rfl (fun hc => ?_) (fun hc => absurd (of_decide_eq_false hc) (by exact fun h => h rfl))
 have hc := of_decide_eq_true hc
 refine op_wantedF (d := 70) rfl rfl ?_
 refine op_field (o' := 0) fa_47_0 rfl rfl rfl ?_
 refine op_wantedF (d := 70) rfl rfl ?_
 refine op_load Try.isAgg3 rfl (cell_own (hS.at_ 1 rfl) rfl) rfl ?_
 refine op_wantedF (d := 70) rfl rfl ?_
 refine op_eql rfl rfl rfl ?_
 refine op_pickT rfl rfl rfl ?_
 refine op_move rfl rfl ?_
 refine op_cases (d := 75) rfl (fun hc => ?_) (fun hc => absurd (of_decide_eq_false hc) (by exact fun h => h rfl))
 have hc := of_decide_eq_true hc
 refine op_wantedF (d := 75) rfl rfl ?_
 refine op_field (o' := 1) fa_47_1 rfl rfl rfl ?_
 refine op_wantedF (d := 75) rfl rfl ?_
 refine op_load Try.isAgg3 rfl (cell_own (hS.at_ 1 rfl) rfl) rfl ?_
 refine op_wantedF (d := 75) rfl rfl ?_
 refine op_eql rfl rfl rfl ?_
 refine op_pickT rfl rfl rfl ?_
 refine op_move rfl rfl ?_
 refine op_cases (d := 80) rfl (fun hc => ?_) (fun hc => absurd (of_decide_eq_false hc) (by exact fun h => h rfl))
 have hc := of_decide_eq_true hc
 refine op_wantedF (d := 80) rfl rfl ?_
 refine op_field (o' := 2) fa_47_2 rfl rfl rfl ?_
 refine op_wantedF (d := 80) rfl rfl ?_
 refine op_load Try.isAgg3 rfl (cell_own (hS.at_ 1 rfl) rfl) rfl ?_
 refine op_wantedF (d := 80) rfl rfl ?_
 refine op_eql rfl rfl rfl ?_
 refine op_pickT rfl rfl rfl ?_
 refine op_move rfl rfl ?_
 refine op_cases (d := 85) rfl (fun hc => ?_) (fun hc => absurd (of_decide_eq_false hc) (by exact fun h => h rfl))
 have hc := of_decide_eq_true hc
 refine op_wantedF (d := 85) rfl rfl ?_
 refine op_field (o' := 3) fa_47_3 rfl rfl rfl ?_
 refine op_wantedF (d := 85) rfl rfl ?_
 refine op_load Try.isAgg29 rfl (cell_own (hS.at_ 1 rfl) rfl) rfl ?_
 refine op_wantedF (d := 85) rfl rfl ?_
 refine op_len Try.underlying29 rfl rfl ?_
 refine op_wantedF (d := 85) rfl rfl ?_
 refine op_eql rfl rfl rfl ?_
 refine op_pickT rfl rfl rfl ?_
 refine op_move rfl rfl ?_
 refine op_cases (d := 91) rfl (fun hc => ?_) (fun hc => absurd (of_decide_eq_false hc) (by exact fun h => h rfl))
 have hc := of_decide_eq_true hc
 refine op_wantedF (d := 91) rfl rfl ?_
 refine op_field (o' := 3) fa_47_3 rfl rfl rfl ?_
 refine op_wantedF (d := 91) rfl rfl ?_
 refine op_load Try.isAgg29 rfl (cell_own (hS.at_ 1 rfl) rfl) rfl ?_
 refine op_wantedF (d := 91) rfl rfl ?_
 refine op_indexA (j := 1) Try.underlying29 Try.sizeOf3 rfl rfl rfl (by omega) rfl rfl ?_
 refine op_wantedF (d := 91) rfl rfl ?_
 refine op_load Try.isAgg3 rfl (k3) rfl ?_
 refine op_wantedF (d := 91) rfl rfl ?_
 refine op_eql rfl rfl rfl ?_
 refine op_pickT rfl rfl rfl ?_
 refine op_assign rfl rfl ?_
 refine endF (XF.thenN ?_)
 refine retF ?_
 refine XF.res (res1 Try.results9 rfl) ?_
 exact ⟨rbool (decide_eq_true rfl), hS.below⟩
end Go.Proofs.Ytpkcaabbcoiiiaa
namespace Go.Proofs.Ytpkcaabbcoiiiaa
open Go.RowKit Go.ChangeShapes Go.WideShapes Go.Deep
section
variable {H : Type} {enc : TypeId × Value → H} {w : World} {base : Nat} {spare : Nat → Bool} {held : Bool}
theorem three_len {cs : List Value} (h : cs.length = 3) : ∃ a b c, cs = [a, b, c] := by
 match cs, h with
 | [a, b, c], _ => exact ⟨a, b, c, rfl⟩
theorem cell_open {n : Nat} {cs : List Value} {x : DataW H × List MemPlace} (hl : cs.length = 3) (h : DataW.trod enc Try.prog w base spare held n 96 cs = some x) :
  ∃ c : Cl, c.f < 18446744073709551616 ∧ cs = [.int .u64 (c.f : Int), .int .i64 c.k, .int .i64 c.v] := by
 obtain ⟨xs, n', _, hx, _, hlen, hg⟩ := DataW.trod_struct Try.underlying96 h
 obtain ⟨a, b, c, rfl⟩ := three_len hl
 ·skip
  have hlen3 : xs.length = 3 := hlen
  have g0 := hg 0 _ rfl
  have g1 := hg 1 _ rfl
  have g2 := hg 2 _ rfl
  rw [show Try.prog.cellsOf _ = 1 by kernel_rfl, List.getElem?_eq_getElem (by omega)] at g0 g1 g2
  obtain ⟨z0, e0, _, w0⟩ := DataW.trod_int Try.underlying38 g0
  obtain ⟨z1, e1, _, w1⟩ := DataW.trod_int (k := .i64) (by kernel_rfl) g1
  obtain ⟨z2, e2, _, w2⟩ := DataW.trod_int (k := .i64) (by kernel_rfl) g2
  simp at e0 e1 e2
  subst e0 e1 e2
  have hw : 0 ≤ z0 ∧ z0 ≤ 18446744073709551615 := by simpa [Lit.wf, IntKind.signed, IntKind.bits, IntKind.min, IntKind.max] using w0
  exact ⟨⟨z0.toNat, z1, z2⟩, by show z0.toNat < _; omega, by simp; omega⟩
theorem list_of : ∀ (n : Nat) (p : Nat → Cl → Prop), (∀ i, i < n → ∃ c, p i c) → ∃ xs : List Cl, xs.length = n ∧ ∀ i c, xs[i]? = some c → p i c
 | 0, p, h => ⟨[], rfl, fun i c hi => by simp at hi⟩
 | n + 1, p, h => by
  obtain ⟨xs, hl, hp⟩ := list_of n p (fun i hi => h i (by omega))
  obtain ⟨c, hc⟩ := h n (by omega)
  refine ⟨xs ++ [c], by simp [hl], fun i d hi => ?_⟩
  rcases Nat.lt_or_ge i n with h1 | h1
  ·rw [List.getElem?_append_left (by omega)] at hi
   exact hp i d hi
  ·obtain ⟨h2, _⟩ := List.getElem?_eq_some_iff.1 hi
   simp [hl] at h2
   obtain rfl : i = n := by omega
   rw [List.getElem?_append_right (by omega), hl, Nat.sub_self] at hi
   simp at hi
   subst hi
   exact hc
theorem cells_open {n : Nat} {a : Option Addr} {len cap : Nat} {x : DataW H × List MemPlace} (h : DataW.trod enc Try.prog w base spare held n 42 [.slice a len cap] = some x) :
  ∃ xs, IsCells w a len cap xs := by
 rcases open_slice Try.underlying42 h with ⟨hcs, _⟩ | ⟨ad, len', cap', m, n', D, Pl, hcs, hb, hl, hm, hmm, hx, hi⟩
 ·simp at hcs
  obtain ⟨rfl, rfl, rfl⟩ := hcs
  exact ⟨[], rfl, by simp, .inl rfl, fun c hc => by simp at hc⟩
 ·simp at hcs
  obtain ⟨rfl, rfl, rfl⟩ := hcs
  rw [show Try.prog.cellsOf 96 = 3 by kernel_rfl] at hi
  obtain ⟨xs, hxl, hxs⟩ := list_of len (fun i c => c.f < 18446744073709551616 ∧ w.cell? (ad.add (i * 3)) = some (.int .u64 (c.f : Int)) ∧ w.cell? (ad.add (i * 3 + 1)) = some (.int .i64 c.k) ∧ w.cell? (ad.add (i * 3 + 2)) = some (.int .i64 c.v)) (fun i hil => by
   obtain ⟨cs', hc, ht⟩ := hi i (by rw [hmm]; split <;> omega)
   obtain ⟨_, hcl, hat⟩ := World.cells?_some hc
   obtain ⟨c, hf, rfl⟩ := cell_open hcl ht
   have e0 := hat 0 (by omega)
   have e1 := hat 1 (by omega)
   have e2 := hat 2 (by omega)
   rw [add_add] at e0 e1 e2
   exact ⟨c, hf, e0, e1, e2⟩)
  refine ⟨xs, hxl.symm, by omega, ?_, fun c hc => ?_⟩
  ·rcases Nat.eq_zero_or_pos len with h0 | h0
   ·exact .inl (List.length_eq_zero_iff.1 (by omega))
   ·obtain ⟨b, off, spot⟩ := ad
    obtain ⟨_, h1, _, _⟩ := hxs 0 (xs[0]'(by omega)) (List.getElem?_eq_getElem (by omega))
    have hspot : spot = none := by simpa [Addr.add] using World.cell?_spot h1
    subst hspot
    refine .inr ⟨b, off, rfl, fun i c hic => ?_⟩
    have e : ∀ k, ({ block := b, off := off } : Addr).add k = ⟨b, off + k, none⟩ := fun k => by simp [Addr.add]
    have h3 := (hxs i c hic).2
    rw [e, e, e, ← Nat.add_assoc, ← Nat.add_assoc] at h3
    exact h3
  ·obtain ⟨i, hi', hic⟩ := List.mem_iff_getElem.1 hc
   exact (hxs i c (by rw [← hic]; exact List.getElem?_eq_getElem hi')).1
end
end Go.Proofs.Ytpkcaabbcoiiiaa
namespace Go.Proofs.Ytpkcaabbcoiiiaa
open Go.RowKit Go.ChangeShapes Go.WideShapes Go.Deep
section
variable {H : Type} {enc : TypeId × Value → H} {w : World} {base : Nat} {spare : Nat → Bool} {held : Bool}
theorem slice_form {n : Nat} {cs : List Value} {x : DataW H × List MemPlace} (h : DataW.trod enc Try.prog w base spare held n 42 cs = some x) : ∃ a len cap, cs = [.slice a len cap] := by
 rcases open_slice Try.underlying42 h with ⟨hcs, _⟩ | ⟨ad, len', cap', m, n', D, Pl, hcs, _⟩
 ·exact ⟨_, _, _, hcs⟩
 ·exact ⟨_, _, _, hcs⟩
end
end Go.Proofs.Ytpkcaabbcoiiiaa
namespace Go.Proofs.Ytpkcaabbcoiiiaa
open Go.RowKit Go.ChangeShapes Go.WideShapes Go.Deep Go.Joins
theorem list_pick {α : Type} : ∀ (n : Nat) (p : Nat → α → Prop), (∀ i, i < n → ∃ c, p i c) → ∃ xs : List α, xs.length = n ∧ ∀ i c, xs[i]? = some c → p i c
 | 0, p, h => ⟨[], rfl, fun i c hi => by simp at hi⟩
 | n + 1, p, h => by
  obtain ⟨xs, hl, hp⟩ := list_pick n p (fun i hi => h i (by omega))
  obtain ⟨c, hc⟩ := h n (by omega)
  refine ⟨xs ++ [c], by simp [hl], fun i d hi => ?_⟩
  rcases Nat.lt_or_ge i n with h1 | h1
  ·rw [List.getElem?_append_left (by omega)] at hi
   exact hp i d hi
  ·obtain ⟨h2, _⟩ := List.getElem?_eq_some_iff.1 hi
   simp [hl] at h2
   obtain rfl : i = n := by omega
   rw [List.getElem?_append_right (by omega), hl, Nat.sub_self] at hi
   simp at hi
   subst hi
   exact hc
theorem SIn.more {w : World} : ∀ {d e : Nat} {s : SV}, d ≤ e → SIn w d s → SIn w e s
 | 0, _, _, _, h => h.elim
 | d + 1, 0, _, hl, _ => by omega
 | d + 1, e + 1, .mk f ps, hl, ⟨h1, h2, h3⟩ => ⟨h1, h2, fun p hp => SIn.more (by omega) (h3 p hp)⟩
theorem WIn.more {w : World} : ∀ {d e : Nat} {s : WV}, d ≤ e → WIn w d s → WIn w e s
 | 0, _, _, _, h => h.elim
 | d + 1, 0, _, hl, _ => by omega
 | d + 1, e + 1, .mk f ps, hl, ⟨h0, h1, h2, h3⟩ => ⟨h0, h1, h2, fun p hp => WIn.more (by omega) (h3 p hp)⟩
theorem six_len {cs : List Value} (h : cs.length = 6) : ∃ a b c d e f, cs = [a, b, c, d, e, f] := by
 match cs, h with
 | [a, b, c, d, e, f], _ => exact ⟨a, b, c, d, e, f, rfl⟩
section
variable {H : Type} {enc : TypeId × Value → H} {w : World} {base : Nat} {spare : Nat → Bool} {held : Bool}
theorem space_in : ∀ (fuel : Nat) {cs : List Value} {x : DataW H × List MemPlace}, DataW.trod enc Try.prog w base spare held fuel 25 cs = some x → ∃ s : SV, cs = [.int .i64 s.f.tag, .int .i64 s.f.dim, .slice s.f.a s.f.len s.f.cap] ∧ SIn w fuel s := by
 intro fuel
 induction fuel using Nat.strongRecOn with
 | _ fuel ih =>
 intro cs x h
 obtain ⟨xs, n, hn, _, hl, hlen, hg⟩ := DataW.trod_struct Try.underlying25 h
 rw [show Try.prog.cellsOf 25 = 3 by kernel_rfl] at hl
 obtain ⟨a, b, c, rfl⟩ := three_len hl
 have hlen3 : xs.length = 3 := hlen
 have g0 := hg 0 _ rfl
 have g1 := hg 1 _ rfl
 have g2 := hg 2 _ rfl
 rw [show Try.prog.cellsOf _ = 1 by kernel_rfl, List.getElem?_eq_getElem (by omega)] at g0 g1 g2
 obtain ⟨z0, e0, _, w0⟩ := DataW.trod_int (k := .i64) (by kernel_rfl) g0
 obtain ⟨z1, e1, _, w1⟩ := DataW.trod_int (k := .i64) (by kernel_rfl) g1
 simp at e0 e1
 subst e0 e1
 rcases DataW.trod_slice Try.underlying23 g2 with ⟨hcs, _⟩ | ⟨ad, len, cap, elems, rest, n', hn', hcs, _, hb, hle, hcap, hel, hi, _, _⟩
 ·simp at hcs
  subst hcs
  subst hn
  exact ⟨.mk ⟨z0, z1, none, 0, 0⟩ [], rfl, rfl, .inl rfl, fun p hp => by cases hp⟩
 ·simp at hcs
  subst hcs
  subst hn
  rw [show Try.prog.cellsOf 25 = 3 by kernel_rfl] at hi
  obtain ⟨ps, hpl, hps⟩ := list_pick len (fun i (p : SV) => (w.cell? (ad.add (i * 3)) = some (.int .i64 p.f.tag) ∧ w.cell? (ad.add (i * 3 + 1)) = some (.int .i64 p.f.dim) ∧ w.cell? (ad.add (i * 3 + 2)) = some (.slice p.f.a p.f.len p.f.cap)) ∧ SIn w n' p) (fun i hil => by
   have hii := hi i hil
   rw [List.getElem?_eq_getElem (by omega)] at hii
   obtain ⟨cs', hc, ht⟩ := Option.bind_eq_some_iff.1 hii
   obtain ⟨_, hcl, hat⟩ := World.cells?_some hc
   obtain ⟨s, rfl, hs⟩ := ih n' (by omega) ht
   have e0 := hat 0 (by omega)
   have e1 := hat 1 (by omega)
   have e2 := hat 2 (by omega)
   rw [Go.Deep.add_add] at e0 e1 e2
   exact ⟨s, ⟨e0, e1, e2⟩, hs⟩)
  refine ⟨.mk ⟨z0, z1, some ad, len, cap⟩ ps, rfl, hpl, ?_, fun p hp => ?_⟩
  ·rcases Nat.eq_zero_or_pos len with h0 | h0
   ·exact .inl (List.length_eq_zero_iff.1 (by omega))
   ·obtain ⟨b, off, spot⟩ := ad
    obtain ⟨⟨h1, _, _⟩, _⟩ := hps 0 (ps[0]'(by omega)) (List.getElem?_eq_getElem (by omega))
    have hspot : spot = none := by simpa [Addr.add] using World.cell?_spot h1
    subst hspot
    refine .inr ⟨b, off, rfl, fun i c hic => ?_⟩
    have e : ∀ k, ({ block := b, off := off } : Addr).add k = ⟨b, off + k, none⟩ := fun k => by simp [Addr.add]
    have h3 := (hps i c hic).1
    rw [e, e, e, ← Nat.add_assoc, ← Nat.add_assoc] at h3
    exact h3
  ·obtain ⟨i, hi', hic⟩ := List.mem_iff_getElem.1 hp
   exact (hps i p (by rw [← hic]; exact List.getElem?_eq_getElem hi')).2.more (by omega)
theorem u64s_open {n : Nat} {v : Value} {x : DataW H × List MemPlace} (h : DataW.trod enc Try.prog w base spare held n 39 [v] = some x) :
  ∃ (a : Option Addr) (len cap : Nat) (rows : List Nat), v = .slice a len cap ∧ VRow w a (u64s rows) ∧ rows.length = len ∧ ∀ r ∈ rows, r < 18446744073709551616 := by
 rcases open_ints (t := 39) (e := 38) (k := .u64) (by kernel_rfl) (by kernel_rfl) (by kernel_rfl) h with ⟨hcs, _⟩ | ⟨x, len, cap, zs, hcs, _, hl, hm, hz, _, hcell, hwz⟩
 ·have hcs' : v = .slice none 0 0 := by simpa using hcs
  subst hcs'
  exact ⟨none, 0, 0, [], rfl, .inl rfl, rfl, fun r hr => by cases hr⟩
 ·have hcs' : v = .slice (some x) len cap := by simpa using hcs
  subst hcs'
  have hzl : len ≤ zs.length := by rw [hz]; split <;> omega
  refine ⟨some x, len, cap, (zs.take len).map Int.toNat, rfl, ?_, ?_, ?_⟩
  ·rcases Nat.eq_zero_or_pos len with h0 | h0
   ·subst h0; exact .inl (by simp [u64s])
   ·obtain ⟨b, off, spot⟩ := x
    have hc0 := hcell 0 (by omega)
    have hspot : spot = none := by simpa [Addr.add] using World.cell?_spot hc0
    subst hspot
    refine .inr ⟨b, off, rfl, fun i v hi => ?_⟩
    obtain ⟨q, hq, rfl⟩ := u64s_at hi
    rw [List.getElem?_map, List.getElem?_take] at hq
    split at hq
    ·rename_i hlt
     have hi2 : i < zs.length := by omega
     rw [List.getElem?_eq_getElem hi2] at hq
     have hq' : (zs[i]).toNat = q := by simpa using hq
     obtain ⟨m, hm1, hm2⟩ := u64_nat (hwz _ (List.getElem_mem hi2))
     have hc := hcell i hi2
     have e : ({ block := b, off := off } : Addr).add i = ⟨b, off + i, none⟩ := by simp [Addr.add]
     rw [e] at hc
     rw [hc]
     have : zs.getD i 0 = zs[i] := by simp [List.getD, List.getElem?_eq_getElem hi2]
     rw [this, hm1, ← hq', hm1]
     rfl
    ·cases hq
  ·simp; omega
  ·intro r hr
   obtain ⟨z, hz1, rfl⟩ := List.mem_map.1 hr
   obtain ⟨m, hm1, hm2⟩ := u64_nat (hwz z (List.mem_of_mem_take hz1))
   rw [hm1]; exact hm2
theorem facts_in {n : Nat} {a b : Value} {x : DataW H × List MemPlace} (h : DataW.trod enc Try.prog w base spare held n 41 [a, b] = some x) :
  ∃ (g : Nat) (ra : Option Addr) (rl rc : Nat) (rows : List Nat), a = .int .u64 (g : Int) ∧ b = .slice ra rl rc ∧ g < 18446744073709551616 ∧ VRow w ra (u64s rows) ∧ rows.length = rl ∧ ∀ r ∈ rows, r < 18446744073709551616 := by
 obtain ⟨xs, n', _, _, hl, hlen, hg⟩ := DataW.trod_struct Try.underlying41 h
 have hlen2 : xs.length = 2 := hlen
 have g0 := hg 0 _ rfl
 have g1 := hg 1 _ rfl
 rw [show Try.prog.cellsOf _ = 1 by kernel_rfl, List.getElem?_eq_getElem (by omega)] at g0 g1
 obtain ⟨z0, e0, _, w0⟩ := DataW.trod_int (k := .u64) (by kernel_rfl) g0
 simp at e0
 subst e0
 obtain ⟨g, rfl, hg64⟩ := u64_nat w0
 obtain ⟨ra, rl, rc, rows, e1, h1, h2, h3⟩ := u64s_open (v := b) g1
 exact ⟨g, ra, rl, rc, rows, rfl, e1, hg64, h1, h2, h3⟩
theorem weight_in : ∀ (fuel : Nat) {cs : List Value} {x : DataW H × List MemPlace}, DataW.trod enc Try.prog w base spare held fuel 45 cs = some x → ∃ s : WV, cs = s.f.six ∧ WIn w fuel s := by
 intro fuel
 induction fuel using Nat.strongRecOn with
 | _ fuel ih =>
 intro cs x h
 obtain ⟨xs, n, hn, _, hl, hlen, hg⟩ := DataW.trod_struct Try.underlying45 h
 rw [show Try.prog.cellsOf 45 = 6 by kernel_rfl] at hl
 obtain ⟨a, b, c, d, e, f, rfl⟩ := six_len hl
 have hlen5 : xs.length = 5 := hlen
 have g0 := hg 0 _ rfl
 have g1 := hg 1 _ rfl
 have g2 := hg 2 _ rfl
 have g3 := hg 3 _ rfl
 have g4 := hg 4 _ rfl
 rw [show Try.prog.cellsOf _ = 1 by kernel_rfl, List.getElem?_eq_getElem (by omega)] at g0 g1 g3 g4
 rw [show Try.prog.cellsOf _ = 2 by kernel_rfl, List.getElem?_eq_getElem (by omega)] at g2
 obtain ⟨z0, e0, _⟩ := DataW.trod_bool (by kernel_rfl) g0
 obtain ⟨z1, e1, _, w1⟩ := DataW.trod_int (k := .i64) (by kernel_rfl) g1
 simp at e0 e1
 subst e0 e1
 obtain ⟨gg, ra, rl, rc, rows, rfl, rfl, hg64, hrow, hrl, hr64⟩ := facts_in (a := c) (b := d) g2
 obtain ⟨ca, cl, cc, e3⟩ := slice_form g3
 have e3' : e = .slice ca cl cc := by simpa using e3
 subst e3'
 obtain ⟨cells, hcl, hcm, hcrow, hcbits⟩ := cells_open (a := ca) (len := cl) (cap := cc) g3
 rcases DataW.trod_slice Try.underlying43 g4 with ⟨hcs, _⟩ | ⟨ad, len, cap, elems, rest, n', hn', hcs, _, hb, hle, hcap, hel, hi, _, _⟩
 ·simp at hcs
  subst hcs
  subst hn
  exact ⟨.mk ⟨z0, z1, gg, ra, rl, rc, rows, ca, cl, cc, cells, none, 0, 0⟩ [], rfl, ⟨hrow, hrl, hg64, hr64, hcrow, hcl.symm, hcbits, by dsimp only; omega⟩, rfl, .inl rfl, fun p hp => by cases hp⟩
 ·simp at hcs
  subst hcs
  subst hn
  rw [show Try.prog.cellsOf 45 = 6 by kernel_rfl] at hi
  obtain ⟨ps, hpl, hps⟩ := list_pick len (fun i (p : WV) => (w.cell? (ad.add (i * 6)) = some (.bool p.f.z) ∧ w.cell? (ad.add (i * 6 + 1)) = some (.int .i64 p.f.c) ∧ w.cell? (ad.add (i * 6 + 2)) = some (.int .u64 (p.f.g : Int)) ∧ w.cell? (ad.add (i * 6 + 3)) = some (.slice p.f.ra p.f.rl p.f.rc) ∧ w.cell? (ad.add (i * 6 + 4)) = some (.slice p.f.ca p.f.cl p.f.cc) ∧ w.cell? (ad.add (i * 6 + 5)) = some (.slice p.f.pa p.f.pl p.f.pc)) ∧ WIn w n' p) (fun i hil => by
   have hii := hi i hil
   rw [List.getElem?_eq_getElem (by omega)] at hii
   obtain ⟨cs', hc, ht⟩ := Option.bind_eq_some_iff.1 hii
   obtain ⟨_, hcl, hat⟩ := World.cells?_some hc
   obtain ⟨s, rfl, hs⟩ := ih n' (by omega) ht
   have e0 := hat 0 (by omega)
   have e1 := hat 1 (by omega)
   have e2 := hat 2 (by omega)
   have e3 := hat 3 (by omega)
   have e4 := hat 4 (by omega)
   have e5 := hat 5 (by omega)
   rw [Go.Deep.add_add] at e0 e1 e2 e3 e4 e5
   exact ⟨s, ⟨e0, e1, e2, e3, e4, e5⟩, hs⟩)
  refine ⟨.mk ⟨z0, z1, gg, ra, rl, rc, rows, ca, cl, cc, cells, some ad, len, cap⟩ ps, rfl, ⟨hrow, hrl, hg64, hr64, hcrow, hcl.symm, hcbits, by dsimp only; omega⟩, hpl, ?_, fun p hp => ?_⟩
  ·rcases Nat.eq_zero_or_pos len with h0 | h0
   ·exact .inl (List.length_eq_zero_iff.1 (by omega))
   ·obtain ⟨b, off, spot⟩ := ad
    obtain ⟨⟨h1, _⟩, _⟩ := hps 0 (ps[0]'(by omega)) (List.getElem?_eq_getElem (by omega))
    have hspot : spot = none := by simpa [Addr.add] using World.cell?_spot h1
    subst hspot
    refine .inr ⟨b, off, rfl, fun i c hic => ?_⟩
    have e : ∀ k, ({ block := b, off := off } : Addr).add k = ⟨b, off + k, none⟩ := fun k => by simp [Addr.add]
    have h3 := (hps i c hic).1
    rw [e, e, e, e, e, e, ← Nat.add_assoc, ← Nat.add_assoc, ← Nat.add_assoc, ← Nat.add_assoc, ← Nat.add_assoc] at h3
    exact h3
  ·obtain ⟨i, hi', hic⟩ := List.mem_iff_getElem.1 hp
   exact (hps i p (by rw [← hic]; exact List.getElem?_eq_getElem hi')).2.more (by omega)
end
end Go.Proofs.Ytpkcaabbcoiiiaa
namespace Go.Proofs.Ytpkcaabbcoiiiaa
open Go.RowKit Go.ChangeShapes Go.WideShapes Go.Deep Go.Joins
theorem ten_len {cs : List Value} (h : cs.length = 10) : ∃ a b c d e f g i j k, cs = [a, b, c, d, e, f, g, i, j, k] := by
 match cs, h with
 | [a, b, c, d, e, f, g, i, j, k], _ => exact ⟨a, b, c, d, e, f, g, i, j, k, rfl⟩
theorem cellsAt_of {w : World} {b : Nat} : ∀ (vs : List Value) (o : Nat), (∀ (j : Nat) u, vs[j]? = some u → w.cell? ⟨b, o + j, none⟩ = some u) → CellsAt w b o vs
 | [], _, _ => trivial
 | v :: vs, o, h => ⟨h 0 v rfl, cellsAt_of vs (o + 1) fun j u hj => by have := h (j + 1) u (by simpa using hj); rwa [show o + 1 + j = o + (j + 1) by omega]⟩
section
variable {H : Type} {enc : TypeId × Value → H} {w : World} {base : Nat} {spare : Nat → Bool} {held : Bool}
theorem ints_in {n : Nat} {v : Value} {x : DataW H × List MemPlace} (h : DataW.trod enc Try.prog w base spare held n 29 [v] = some x) :
  ∃ (a : Option Addr) (len cap : Nat) (zs : List Int), v = .slice a len cap ∧ Row w a zs ∧ zs.length = len ∧ len ≤ cap ∧ cap ≤ maxLen := by
 rcases open_ints (t := 29) (e := 3) (k := .i64) (by kernel_rfl) (by kernel_rfl) (by kernel_rfl) h with ⟨hcs, _⟩ | ⟨x, len, cap, zs, hcs, _, hl, hm, hz, _, hcell, hwz⟩
 ·have hcs' : v = .slice none 0 0 := by simpa using hcs
  subst hcs'
  exact ⟨none, 0, 0, [], rfl, .inl rfl, rfl, Nat.le_refl _, Nat.zero_le _⟩
 ·have hcs' : v = .slice (some x) len cap := by simpa using hcs
  subst hcs'
  have hzl : len ≤ zs.length := by rw [hz]; split <;> omega
  refine ⟨some x, len, cap, zs.take len, rfl, ?_, by simp; omega, hl, hm⟩
  rcases Nat.eq_zero_or_pos len with h0 | h0
  ·subst h0; exact .inl (by simp)
  ·obtain ⟨b, off, spot⟩ := x
   have hc0 := hcell 0 (by omega)
   have hspot : spot = none := by simpa [Addr.add] using World.cell?_spot hc0
   subst hspot
   refine .inr ⟨b, off, rfl, fun i hi => ?_⟩
   have hi1 : i < len := by simp at hi; omega
   have hi2 : i < zs.length := by omega
   have hc := hcell i hi2
   have e : ({ block := b, off := off } : Addr).add i = ⟨b, off + i, none⟩ := by simp [Addr.add]
   rw [e] at hc
   rw [hc]
   simp [List.getD, List.getElem?_take, hi1]
theorem list_open {n : Nat} {a : Option Addr} {len cap : Nat} {x : DataW H × List MemPlace} (h : DataW.trod enc Try.prog w base spare held n 29 [.slice a len cap] = some x) : ∃ zs : List Int, Row w a zs ∧ zs.length = len ∧ len ≤ cap ∧ len ≤ 9223372036854775807 := by
 obtain ⟨a', len', cap', zs, e, h1, h2, h3, h4⟩ := ints_in h
 cases e
 exact ⟨zs, h1, h2, h3, by simp only [maxLen] at h4; omega⟩
end
end Go.Proofs.Ytpkcaabbcoiiiaa
namespace Go.Proofs.Ytpkcaabbcoiiiaa
open Go.RowKit Go.ChangeShapes Go.WideShapes Go.Deep Go.Joins
structure PvCap (p : PV) : Prop where
 s : p.s.f.len ≤ p.s.f.cap
 r : ∀ r ∈ p.rs, r.wl ≤ r.wc
 rl : p.rl ≤ 9223372036854775807
section
variable {H : Type} {enc : TypeId × Value → H} {w : World} {base : Nat} {spare : Nat → Bool} {held : Bool}
theorem space_cap {n : Nat} {sf : SF} {x : DataW H × List MemPlace} (h : DataW.trod enc Try.prog w base spare held n 25 [.int .i64 sf.tag, .int .i64 sf.dim, .slice sf.a sf.len sf.cap] = some x) : sf.len ≤ sf.cap := by
 obtain ⟨xs, n', hn, _, hl, hlen, hg⟩ := DataW.trod_struct Try.underlying25 h
 have hlen3 : xs.length = 3 := hlen
 have g2 := hg 2 _ rfl
 rw [show Try.prog.cellsOf _ = 1 by kernel_rfl, List.getElem?_eq_getElem (by omega)] at g2
 rcases DataW.trod_slice Try.underlying23 g2 with ⟨hcs, _⟩ | ⟨ad, len, cap, elems, rest, n2, hn2, hcs, _, hb, hle, hcap, hel, hi, _, _⟩
 ·simp at hcs
  omega
 ·simp at hcs
  obtain ⟨_, rfl, rfl⟩ := hcs
  omega
theorem rule_in2 {n : Nat} {cs : List Value} {x : DataW H × List MemPlace} (h : DataW.trod enc Try.prog w base spare held n 47 cs = some x) : ∃ r : RV, cs = r.ten ∧ RIn w n r ∧ r.wl ≤ r.wc := by
 obtain ⟨xs, n', hn, _, hl, hlen, hg⟩ := DataW.trod_struct Try.underlying47 h
 rw [show Try.prog.cellsOf 47 = 10 by kernel_rfl] at hl
 obtain ⟨a, b, c, d, e, f, g, i, j, k, rfl⟩ := ten_len hl
 have hlen5 : xs.length = 5 := hlen
 have g0 := hg 0 _ rfl
 have g1 := hg 1 _ rfl
 have g2 := hg 2 _ rfl
 have g3 := hg 3 _ rfl
 have g4 := hg 4 _ rfl
 rw [show Try.prog.cellsOf _ = 1 by kernel_rfl, List.getElem?_eq_getElem (by omega)] at g0 g1 g2 g3
 rw [show Try.prog.cellsOf _ = 6 by kernel_rfl, List.getElem?_eq_getElem (by omega)] at g4
 obtain ⟨z0, e0, _, w0⟩ := DataW.trod_int (k := .i64) (by kernel_rfl) g0
 obtain ⟨z1, e1, _, w1⟩ := DataW.trod_int (k := .i64) (by kernel_rfl) g1
 obtain ⟨z2, e2, _, w2⟩ := DataW.trod_int (k := .i64) (by kernel_rfl) g2
 simp at e0 e1 e2
 subst e0 e1 e2
 obtain ⟨ra, rl, rc, ws, rfl, hrow, hrl, hcap9, _⟩ := ints_in (v := d) g3
 obtain ⟨s, e4, hs⟩ := weight_in n' g4
 have e4' : [e, f, g, i, j, k] = s.f.six := by simpa using e4
 simp only [List.cons.injEq, and_true] at e4'
 obtain ⟨rfl, rfl, rfl, rfl, rfl, rfl⟩ := e4'
 exact ⟨⟨z0, z1, z2, ra, rl, rc, ws, s⟩, rfl, ⟨hrow, hrl, hs.more (by omega)⟩, hcap9⟩
theorem pds_in2 {n : Nat} {cs : List Value} {x : DataW H × List MemPlace} (h : DataW.trod enc Try.prog w base spare held n 28 cs = some x) : ∃ p : PV, cs = p.six ∧ PvIn w n n p ∧ PvCap p := by
 obtain ⟨xs, n', hn, _, hl, hlen, hg⟩ := DataW.trod_struct Try.underlying28 h
 rw [show Try.prog.cellsOf 28 = 6 by kernel_rfl] at hl
 obtain ⟨a, b, c, d, e, f, rfl⟩ := six_len hl
 have hlen4 : xs.length = 4 := hlen
 have g0 := hg 0 _ rfl
 have g1 := hg 1 _ rfl
 have g2 := hg 2 _ rfl
 have g3 := hg 3 _ rfl
 rw [show Try.prog.cellsOf _ = 3 by kernel_rfl, List.getElem?_eq_getElem (by omega)] at g0
 rw [show Try.prog.cellsOf _ = 1 by kernel_rfl, List.getElem?_eq_getElem (by omega)] at g1 g2 g3
 obtain ⟨s, es, hs⟩ := space_in n' g0
 have es' : [a, b, c] = [.int .i64 s.f.tag, .int .i64 s.f.dim, .slice s.f.a s.f.len s.f.cap] := by simpa using es
 simp only [List.cons.injEq, and_true] at es'
 obtain ⟨rfl, rfl, rfl⟩ := es'
 obtain ⟨z1, e1, _, w1⟩ := DataW.trod_int (k := .i64) (by kernel_rfl) g1
 obtain ⟨z2, e2, _, w2⟩ := DataW.trod_int (k := .i64) (by kernel_rfl) g2
 simp at e1 e2
 subst e1 e2
 rcases DataW.trod_slice Try.underlying26 g3 with ⟨hcs, _⟩ | ⟨ad, len, cap, elems, rest, n2, hn2, hcs, _, hb, hle, hcap, hel, hi, _, _⟩
 ·simp at hcs
  subst hcs
  exact ⟨⟨s, z1, z2, none, 0, 0, []⟩, rfl, ⟨hs.more (by omega), .inl rfl, rfl, fun r hr => by cases hr⟩, space_cap g0, (fun r hr => by cases hr), Nat.zero_le _⟩
 ·simp at hcs
  subst hcs
  rw [show Try.prog.cellsOf 47 = 10 by kernel_rfl] at hi
  obtain ⟨rs, hrl, hrs⟩ := list_pick len (fun i (r : RV) => (∀ (j : Nat) u, r.ten[j]? = some u → w.cell? (ad.add (i * 10 + j)) = some u) ∧ RIn w n2 r ∧ r.wl ≤ r.wc) (fun i hil => by
   have hii := hi i hil
   rw [List.getElem?_eq_getElem (by omega)] at hii
   obtain ⟨cs', hc, ht⟩ := Option.bind_eq_some_iff.1 hii
   obtain ⟨_, hcl, hat⟩ := World.cells?_some hc
   obtain ⟨r, rfl, hr, hr9⟩ := rule_in2 ht
   refine ⟨r, fun j u hj => ?_, hr, hr9⟩
   have hj10 : j < 10 := (List.getElem?_eq_some_iff.1 hj).1
   have h0 := hat j (by omega)
   rw [Go.Deep.add_add] at h0
   rw [h0]; exact hj)
  refine ⟨⟨s, z1, z2, some ad, len, cap, rs⟩, rfl, ⟨hs.more (by omega), ?_, hrl, fun r hr => ?_⟩, space_cap g0, fun r hr => ?_, by simp only [maxLen] at hcap hle; dsimp only; omega⟩
  ·rcases Nat.eq_zero_or_pos len with h0 | h0
   ·exact .inl (List.length_eq_zero_iff.1 (by dsimp only; omega))
   ·obtain ⟨b, off, spot⟩ := ad
    have h1 := (hrs 0 (rs[0]'(by omega)) (List.getElem?_eq_getElem (by omega))).1 0 _ rfl
    have hspot : spot = none := by simpa [Addr.add] using World.cell?_spot h1
    subst hspot
    refine .inr ⟨b, off, rfl, fun i r hir => cellsAt_of _ _ fun j u hj => ?_⟩
    have h3 := (hrs i r hir).1 j u hj
    have e : ∀ k, ({ block := b, off := off } : Addr).add k = ⟨b, off + k, none⟩ := fun k => by simp [Addr.add]
    rw [e, ← Nat.add_assoc] at h3
    exact h3
  ·obtain ⟨i, hi', hic⟩ := List.mem_iff_getElem.1 hr
   have h4 := (hrs i r (by rw [← hic]; exact List.getElem?_eq_getElem hi')).2.1
   exact ⟨h4.row, h4.len, h4.x.more (by omega)⟩
  ·obtain ⟨i, hi', hic⟩ := List.mem_iff_getElem.1 hr
   exact (hrs i r (by rw [← hic]; exact List.getElem?_eq_getElem hi')).2.2
theorem pds_open2 {r : Reach} {b0 : Nat} {v : Value} {d : DataW H} {p : List MemPlace} (hv : Value.okWide Try.prog w r b0 28 v) (h : DataW.Trod enc Try.prog w base spare held 28 v d p) :
  ∃ (n : Nat) (s : PV), v = s.val ∧ PvIn w n n s ∧ PvCap s := by
 obtain ⟨cs, rfl, _⟩ := okWide_struct Try.underlying28 hv
 obtain ⟨n, h⟩ := h
 obtain ⟨s, e, hs⟩ := pds_in2 (n := n) h
 have e' : cs.toList = _ := e
 exact ⟨n, s, by show Value.agg cs = Value.agg _; congr 1; exact Array.ext' e', hs⟩
end
end Go.Proofs.Ytpkcaabbcoiiiaa
namespace Go.Proofs.Ytpkcaabbcoiiiaa
open Go Go.RowKit
theorem goes_9 : goesIn Try.prog 9 = true := by kernel_rfl
theorem goes_7 : goesIn Try.prog 7 = true := by kernel_rfl
theorem below_join {n : Nat} {w A W : World} (hn : n = w.heap.size) (h1 : Below n w A) (h2 : Below n w W) (h3 : Agree n A W) : Below A.heap.size A W where
 os := h2.os.trans h1.os.symm
 tape := h2.tape.trans h1.tape.symm
 output := h2.output.trans h1.output.symm
 size := h3.1
 block := fun k hk => by
  rcases Nat.lt_or_ge k n with h | h
  ·exact (h2.block k h).trans (h1.block k h).symm
  ·exact h3.2 k h hk
theorem PdsOk.below {w w' : World} {S : PS} {px : RV → PX} {p : PV} (h : PdsOk w S px p) (hb : Below w.heap.size w w') : PdsOk w' S px p := ⟨h.chk, h.ok, h.si.below hb, fun r hr => (h.x r hr).below hb, h.rl, h.w4, h.st, h.sy, h.rule⟩
theorem pdsOk_ex {w : World} {ds d : Nat} {p : PV} (hp : PvIn w ds d p) : ∃ S px, pdsE p = 0 → PdsOk w S px p := by
 by_cases h : pdsE p = 0
 ·obtain ⟨S, px, hk⟩ := pdsOk_of hp h
  exact ⟨S, px, fun _ => hk⟩
 ·exact ⟨.one 0 0, fun _ => oneX (.one 0 0), fun h9 => absurd h9 h⟩
def ShR (o : Option PS) (pl : List PR) (zt yt E : Int) (w : World) (e : Ending) (w' : World) : Prop :=
 ∃ (sf : SF) (n : Nat) (a1 a2 a3 : Option Addr) (c1 c2 c3 : Nat) (ns : List R9), e = .returned (.tuple #[.agg #[.int .i64 sf.tag, .int .i64 sf.dim, .slice sf.a sf.len sf.cap, .int .i64 zt, .int .i64 yt, .slice a1 n c1, .slice a2 n c2, .slice a3 n c3], .int .i64 E]) ∧ ShO o pl w' sf n a1 a2 a3 ns ∧ Below w.heap.size w w'
theorem shR_of {D : Option PS × List PR × Int × Int × Int} {o : Option PS} {pl : List PR} {zt yt E : Int} {w w' : World} {e : Ending} (hD : D = (o, pl, zt, yt, E)) (h : ShOutX D w e w') : ShR o pl zt yt E w e w' := by
 subst hD; exact h
theorem shortA_out {ds d : Nat} {p : PV} {w : World} {S : PS} {px : RV → PX} {o : Option PS} {pl : List PR} {zt yt E : Int} (hD : shortD S px p = (o, pl, zt, yt, E)) (hp : PvIn w ds d p) (ht : Tabs w) (hpx : pdsE p = 0 → PdsOk w S px p) : Calls Try.prog 8 #[p.val] w (ShR o pl zt yt E w) := by
 refine (shortA_is hp ht S px hpx).mono fun e w' h => shR_of hD ?_
 obtain ⟨hb, ⟨h1, rfl⟩ | ⟨h1, h2, rfl⟩ | ⟨h1, s2, v1, v2, v3, ns, hok, rfl⟩⟩ := h
 ·exact shOut_bad h1 hb
 ·exact shOut_many h1 h2 hb
 ·exact shOut_ok h1 hok.few ⟨hok.pds.ok, hok.space _ (Agree.refl _ _)⟩ hok.pl (fun r hr => (hok.rules r hr).ok) (by have h9 := shortF_len9 hp hok.few hok.pl; omega) hok.r1 hok.r2 hok.r3 hb
end Go.Proofs.Ytpkcaabbcoiiiaa
namespace Go.Proofs.Ytpkcaabbcoiiiaa
open Go Go.RowKit
theorem shortD_ok {S : PS} {px : RV → PX} {p : PV} {o : Option PS} {pl : List PR} {zt yt E : Int} (hD : shortD S px p = (o, pl, zt, yt, E)) (hE : E = 0) : pdsE p = 0 ∧ tooMany p = false ∧ o = some S ∧ pl = shortF (oneX S) px p.rs 0 p.st p.sy := by
 unfold shortD at hD
 split at hD
 ·rename_i h
  simp only [Prod.mk.injEq] at hD
  exact absurd (hD.2.2.2.2.trans hE) h
 ·rename_i h
  split at hD
  ·simp only [Prod.mk.injEq] at hD
   have h9 := hD.2.2.2.2
   omega
  ·rename_i h2
   simp only [Prod.mk.injEq] at hD
   refine ⟨Decidable.of_not_not h, ?_, hD.1.symm, hD.2.1.symm⟩
   cases ht : tooMany p with
   | false => rfl
   | true => exact absurd ht h2
theorem shortF_ge {one : PX} {px : RV → PX} : ∀ {rs : List RV} {i : Nat} {z y : Int}, rs.length ≤ (shortF one px rs i z y).length
 | [], _, _, _ => Nat.le_refl _
 | r :: rs, i, z, y => by
  simp only [shortF, List.length_append, List.length_cons]
  have h1 := partsF_pos one (i : Int) r.p r.g r.q r.ws (px r) z y
  have h2 := shortF_ge (one := one) (px := px) (rs := rs) (i := i + 1) (z := z + ((r.wl - 2 : Nat) : Int)) (y := y + ((r.wl - 2 : Nat) : Int))
  omega
theorem bldC9 (p : Int) (a : Option Addr) (l c : Nat) : Try.prog.built 49 [(0, .int .i64 p), (1, .slice a l c)] = some #[.int .i64 p, .slice a l c] := by kernel_rfl
theorem bld_conf9 {d j1 j2 t1 t2 lo : Nat} {ty : TypeId} {pos : String} {p : Int} {zs : List Int} : ∀ (ev : Operand → Value) (w : World), DepsH [(j1, t1, isV (.int .i64 p)), (j2, t2, isAppN9 lo zs)] ev w →
  ∃ v, (execOp ev ⟨some d, .build 49 #[(0, .tmp t1), (1, .tmp t2)], ty, pos, #[], none⟩).run Try.prog w = .ok (.value v) w ∧ ∀ w2, DepsH [(j1, t1, isV (.int .i64 p)), (j2, t2, isAppN9 lo zs)] ev w2 → isConfN lo p zs v w2 := fun ev w ⟨h1, ⟨a, c, h2, h3⟩, _⟩ => by
 have e1 : ev (.tmp t1) = _ := h1
 have e2 : ev (.tmp t2) = _ := h2
 refine ⟨.agg #[.int .i64 p, .slice a zs.length c], ?_, fun w2 ⟨_, ⟨a2, c2, k2, k3⟩, _⟩ => ?_⟩
 ·have hr := run_build w 49 #[(0, .int .i64 p), (1, .slice a zs.length c)] _ (P := Try.prog) (bldC9 p a zs.length c)
  unfold execOp
  simp only [List.map_toArray, List.map_cons, List.map_nil, e1, e2]
  simp [hr]
 ·have k2' : ev (.tmp t2) = _ := k2
  rw [e2] at k2'
  injection k2' with e3 _ e4
  subst e3; subst e4
  exact ⟨a, c, rfl, k3⟩
theorem confN_row9 {lo : Nat} {q : Int} {us : List Int} {a : Option Addr} {n c : Nat} {w : World} (h : isConfN lo q us (.agg #[.int .i64 q, .slice a n c]) w) : RowN lo w a c us := by
 obtain ⟨a2, c2, e, h⟩ := h
 simp at e
 obtain ⟨rfl, _, rfl⟩ := e
 exact h
theorem part_at {us ps bs : List PR} {k : Int} (h1 : ∀ a ∈ us, a.1 < k) (h2 : ∀ a ∈ ps, a.1 = k) (h3 : ∀ b ∈ bs, k < b.1) {i : Nat} {r : PR} (hi : (us ++ ps ++ bs)[i]? = some r) : (r.1 = k ∧ us.length ≤ i ∧ i < us.length + ps.length ∧ ps[i - us.length]? = some r) ∨ (r.1 ≠ k ∧ (i < us.length ∨ us.length + ps.length ≤ i)) := by
 by_cases ha : i < us.length
 ·rw [List.append_assoc, List.getElem?_append_left ha] at hi
  have := h1 r (List.mem_of_getElem? hi)
  exact .inr ⟨by omega, .inl ha⟩
 ·rw [List.append_assoc, List.getElem?_append_right (by omega)] at hi
  by_cases hb : i - us.length < ps.length
  ·rw [List.getElem?_append_left hb] at hi
   exact .inl ⟨h2 r (List.mem_of_getElem? hi), by omega, by omega, hi⟩
  ·rw [List.getElem?_append_right (by omega)] at hi
   have := h3 r (List.mem_of_getElem? hi)
   exact .inr ⟨by omega, .inr (by omega)⟩
end Go.Proofs.Ytpkcaabbcoiiiaa
namespace Go.Proofs.Ytpkcaabbcoiiiaa
open Go Go.RowKit
def KeepsB (M : World → Prop) : Prop := ∀ W W', M W → Below W.heap.size W W' → M W'
def FarP (M : World → Prop) (t n : Int) (f : WF) (x : PF) : Prop := ∀ W, M W → PIs W t n f x
def FarX (M : World → Prop) : PS → WF → PX → Prop
 | .one t n, f, .one a => FarP M t n f a
 | .two t n u m, f, .two a b => f.pf = pC 0 ∧ f.rl = 0 ∧ f.cl = 0 ∧ f.pl = 2 ∧ ∃ blk off g h, f.pa = some ⟨blk, off, none⟩ ∧ (∀ W, M W → W6 W blk off g ∧ W6 W blk (off + 6) h) ∧ FarP M t n g a ∧ FarP M u m h b
 | _, _, _ => False
theorem FarX.is {M : World → Prop} {S : PS} {f : WF} {x : PX} {w : World} (h : FarX M S f x) (hM : M w) : XIs w S f x := by
 cases S <;> cases x <;> first | exact h.elim | exact (show FarP M _ _ f _ from h) w hM | skip
 obtain ⟨h1, h2, h3, h4, blk, off, g, k, h5, h6, h7, h8⟩ := h
 exact ⟨h1, h2, h3, h4, blk, off, g, k, h5, (h6 w hM).1, (h6 w hM).2, h7 w hM, h8 w hM⟩
theorem FarX.mono {M M' : World → Prop} {S : PS} {f : WF} {x : PX} (h : FarX M S f x) (hm : ∀ W, M' W → M W) : FarX M' S f x := by
 cases S <;> cases x <;> first | exact h.elim | exact (fun W hW => (show FarP M _ _ f _ from h) W (hm W hW)) | skip
 obtain ⟨h1, h2, h3, h4, blk, off, g, k, h5, h6, h7, h8⟩ := h
 exact ⟨h1, h2, h3, h4, blk, off, g, k, h5, fun W hW => h6 W (hm W hW), fun W hW => h7 W (hm W hW), fun W hW => h8 W (hm W hW)⟩
theorem XNew.far {lo : Nat} {A : World} {S : PS} {f : WF} {x : PX} (h : XNew lo A S f x) : FarX (fun W => Agree lo A W) S f x := by
 cases S <;> cases x <;> first | exact h.elim | exact (fun W hW => (PNew.agree h hW).is) | skip
 obtain ⟨h1, h2, h3, h4, blk, g, k, h5, h0, h6, h7, h8, h9⟩ := h
 exact ⟨h1, h2, h3, h4, blk, 0, g, k, h5, fun W hW => ⟨h6.agree h0 hW, h7.agree h0 hW⟩, fun W hW => (h8.agree hW).is, fun W hW => (h9.agree hW).is⟩
theorem XIs.far {w : World} {S : PS} {f : WF} {x : PX} (h : XIs w S f x) : FarX (fun W => Below w.heap.size w W) S f x := by
 cases S <;> cases x <;> first | exact h.elim | exact (fun W hW => PIs.below h hW) | skip
 obtain ⟨h1, h2, h3, h4, blk, off, g, k, h5, h6, h7, h8, h9⟩ := h
 exact ⟨h1, h2, h3, h4, blk, off, g, k, h5, fun W hW => ⟨h6.below hW, h7.below hW⟩, fun W hW => h8.below hW, fun W hW => h9.below hW⟩
section
variable {w W : World} {k : Nat} {n : Int} {f g : WF} {x y : PF}
end
section
variable {n : Nat} {Q : Exit → Act → World → Prop} {l : Fr} {W : World} {ops : Array Oper} {L : List Asr} {i d : Nat} {ty : TypeId} {pos : String} {aft : Array Edge} {gd : Option (Nat × Bool)} {t k u m : Int} {x y : PF} {p q : Operand} {M : World → Prop}
end
end Go.Proofs.Ytpkcaabbcoiiiaa
namespace Go.Proofs.Ytpkcaabbcoiiiaa
open Go Go.RowKit
def MK (M : World → Prop) (K : List (Nat × World)) (W : World) : Prop := M W ∧ ∀ q ∈ K, Agree q.1 q.2 W
theorem MK.head {M : World → Prop} {W : World} {q : Nat × World} {K : List (Nat × World)} (h : MK M (q :: K) W) : Agree q.1 q.2 W := h.2 q List.mem_cons_self
theorem MK.keep {M : World → Prop} {W W' : World} {K : List (Nat × World)} (h : MK M K W) (hM : KeepsB M) (hb : Below W.heap.size W W') : MK M K W' := ⟨hM _ _ h.1 hb, fun q hq => (h.2 q hq).trans (below_agree hb _)⟩
theorem keepsB_MK {M : World → Prop} (hM : KeepsB M) (K : List (Nat × World)) : KeepsB (MK M K) := fun W W' h hb => h.keep hM hb
theorem St.stays {M : World → Prop} {w0 W : World} {O : Own} {G : Grows} {K : List (Nat × World)} (h : St w0 O G K W) (hM : KeepsB M) (hw : M w0) : MK M K W := ⟨hM _ _ hw h.below, fun q hq => (h.kept q hq).1⟩
theorem one_le {lo n : Nat} {A : World} (h : lo ≤ n) : ∀ q ∈ [(n, A)], lo ≤ q.1 := fun q hq => by
 simp only [List.mem_cons, List.not_mem_nil, or_false] at hq
 subst hq; exact h
theorem St.keep1 {w0 W : World} {O : Own} {G : Grows} {q : Nat × World} {K : List (Nat × World)} (h : St w0 O G (q :: K) W) : St w0 O G [q] W := h.keep [q] (fun r hr => by
 simp only [List.mem_cons, List.not_mem_nil, or_false] at hr
 subst hr; exact List.mem_cons_self)
def XRet2 (M : World → Prop) (S : PS) (x : PX) (e0 : Int) (w : World) (e : Ending) (w' : World) : Prop := ∃ f : WF, e = .returned (.tuple #[f.val, .int .i64 e0]) ∧ FarX (fun W => M W ∧ Agree w.heap.size w' W) S f x ∧ Below w.heap.size w w'
def XLF (M : World → Prop) (S : PS) (fs : List WF) (xs : List PX) : Prop := fs.length = xs.length ∧ ∀ (i : Nat) f x, fs[i]? = some f → xs[i]? = some x → FarX M S f x
theorem XLF.is {M : World → Prop} {w : World} {S : PS} {fs : List WF} {xs : List PX} (h : XLF M S fs xs) (hw : M w) : XL w S fs xs := ⟨h.1, fun i f x hf hx => (h.2 i f x hf hx).is hw⟩
theorem XLF.at_ {M : World → Prop} {S : PS} {fs : List WF} {xs : List PX} (h : XLF M S fs xs) {k : Nat} (hk : k < fs.length) : ∃ f x, fs[k]? = some f ∧ xs[k]? = some x ∧ FarX M S f x :=
 ⟨fs[k], xs[k]'(by have := h.1; omega), by simp [hk], by have := h.1; simp [show k < xs.length by omega], h.2 k _ _ (by simp [hk]) (by have := h.1; simp [show k < xs.length by omega])⟩
theorem keepsB_below (w : World) : KeepsB (fun W => Below w.heap.size w W) := fun W W' h hb => h.trans (hb.mono h.size)
theorem isR_ok {w : World} {S : PS} {sf : SF} {f : WF} {x : PX} (hs : SIs w S sf) (hok : S.ok) (hx : XIs w S f x) : Calls Try.prog 66 #[sf.val, f.val] w fun e w' => e = .returned (.bool true) ∧ Below w.heap.size w w' := by
 cases S <;> cases x <;> first | exact hx.elim | skip
 ·obtain ⟨a, c, rfl⟩ := hs
  exact isR_plain _ _ _ _ _ _ hok (PIs.rl100 hx) w (PIs.at_ hx) true (PIs.pw hx)
 ·obtain ⟨b, off, c, a1, c1, a2, c2, rfl, h1, h2⟩ := hs
  obtain ⟨ra, ca, rc, cc, pc, fb, fo, f1, f2, rfl, h6, h7, h8, h9⟩ := hx.two
  exact isR_pair 1 _ _ _ _ _ _ w (sin_two h1 h2) hok.1 hok.2 1 (two_win h6 h7 h8 h9) (by intro p hp; simp at hp; rcases hp with rfl | rfl <;> first | exact h8.rl100 | exact h9.rl100) true (two_pairOk h8 h9)
theorem allR_ok (S : PS) (sf : SF) (w : World) (hs : SIs w S sf) (hok : S.ok) (a : Option Addr) (c m : Nat) (fs : List WF) (xs : List PX) (hr : FRow w a fs) (hx : XL w S fs xs) (hm : fs.length = m) (hmx : m ≤ 9223372036854775807) :
  Calls Try.prog 36 #[sf.val, .slice a m c] w (fun e w' => e = .returned (.int .i64 0) ∧ Below w.heap.size w w') := by
 refine enterF (args := [sf.val, .slice a m c]) Try.func36 rfl Try.ntmps36 rfl ?_
 have hS := St.start w
 refine seqF (regF ?_)
 refine op_box (cs := [_, _, _]) hS rfl rfl rfl ?_
 clear hS; intro B1 W1 hS
 refine op_assign rfl rfl ?_
 refine endF (XF.thenN ?_)
 refine seqF ?_
 refine seqF (regF ?_)
 refine op_loadA (vs := [_, _, _]) Try.isAgg25 Try.sizeOf25 rfl (CellsAt.own (j := 0) (m := 3) (hS.at_ 0 rfl) rfl) rfl ?_
 refine op_call (vs := [_]) hS goes_34 rfl (spaceR_ok (hs.below hS.below) hok) rfl ?_
 rintro e W2 ⟨rfl, hb⟩
 refine ⟨_, rfl, hb, fun hS' => ?_⟩
 clear hS; have hS := hS'; clear hS' hb
 refine op_neq rfl rfl rfl ?_
 refine endF (XF.thenN ?_)
 refine condF rfl (fun hc => absurd (of_decide_eq_true hc) (by omega)) (fun hc => ?_)
 have hc := of_decide_eq_false hc
 refine skipF ?_
 refine XF.thenN ?_
 refine seqF ?_
 refine seqF (regF ?_)
 refine op_assign rfl rfl ?_
 refine endF (XF.thenN ?_)
 refine blockF ?_
 refine loopF (fun q l W => ∃ k : Nat, k ≤ m ∧ q = m - k ∧ l = [(1, .slice a m c), (2, .pointer (some ⟨B1, 0, none⟩)), (5, .int .i64 (k : Int))] ∧ St w [(B1, [.int .i64 sf.tag, .int .i64 sf.dim, .slice sf.a sf.len sf.cap], 25)] [] [] W) (m - 0) ([(1, _), (2, _), (5, _)]) ⟨rfl, rfl, rfl, trivial⟩ (⟨0, Nat.zero_le _, rfl, rfl, hS.clear⟩) ?_
 clear hS
 rintro q l W ⟨k, hkm, rfl, rfl, hS⟩
 refine seqF ?_
 refine seqF (regF ?_)
 refine op_move rfl rfl ?_
 refine op_move rfl rfl ?_
 refine op_len Try.underlying43 rfl rfl ?_
 refine op_lss rfl rfl rfl ?_
 refine endF (XF.thenN ?_)
 refine condF rfl (fun hc => ?_) (fun hc => ?_)
 ·have hc12 := of_decide_eq_true hc; clear hc
  have hk : k < m := by omega
  obtain ⟨f, x, hf, hxk, hxx⟩ := hx.at_ (k := k) (by omega)
  obtain ⟨b, off, rfl, h6⟩ := hr.at_ hf
  have k1 := CellsAt.agree hS.agree (Nat.zero_le _) h6.cells
  refine skipF ?_
  refine XF.thenN ?_
  refine seqF ?_
  refine blockF ?_
  refine seqF ?_
  refine regB (m := 7) followsM hS (by kernel_rfl) (by kernel_rfl) rfl ?_
  refine bl_cons 1 rfl (isV _) (stab_isV _) (rgV (li := [(2, _)]) rfl (w_free rfl) ⟨g_fr (by kernel_rfl) rfl, trivial⟩ (fun w hw => rn_loadA (vs := [_, _, _]) Try.isAgg25 Try.sizeOf25 rfl (CellsAt.agree (below_agree hw 0) (Nat.zero_le _) (CellsAt.own (j := 0) (m := 3) (hS.at_ 0 rfl) rfl))) (at_top rfl)) ?_
  refine bl_cons 2 rfl (isV _) (stab_isV _) (rgV (li := [(1, _)]) rfl (w_free rfl) ⟨g_fr (by kernel_rfl) rfl, trivial⟩ (fun w hw => rn_move rfl) (at_top rfl)) ?_
  refine bl_cons 3 rfl (isV _) (stab_isV _) (rgV (li := [(5, _)]) rfl (w_free rfl) ⟨g_fr (by kernel_rfl) rfl, trivial⟩ (fun w hw => rn_move rfl) (at_top rfl)) ?_
  refine bl_cons 4 rfl (isV _) (stab_isV _) (rgV (li := [(16, _), (17, _)]) rfl (w_free rfl) ⟨g_dep 1 (by kernel_rfl) (at_dep rfl rfl rfl), g_dep 2 (by kernel_rfl) (at_dep rfl rfl rfl), trivial⟩ (fun w hw => rn_indexA  Try.underlying43 Try.sizeOf45 rfl rfl rfl (by omega) rfl) (at_top rfl)) ?_
  refine bl_cons 5 rfl (isV _) (stab_isV _) (rgV (li := [(18, _)]) rfl (w_free rfl) ⟨g_dep 3 (by kernel_rfl) (at_dep rfl rfl rfl), trivial⟩ (fun w hw => rn_loadA (vs := [_, _, _, _, _, _]) Try.isAgg45 Try.sizeOf45 rfl (CellsAt.agree (below_agree hw 0) (Nat.zero_le _) (by assumption))) (at_top rfl)) ?_
  refine bl_cons 6 rfl (isV (.bool true)) (stab_isV _) (rg_call [isV _, isV _] rfl goes_66 (w_free rfl) ⟨p_tmp (g_dep 0 (by kernel_rfl) (at_dep rfl rfl rfl)), p_tmp (g_dep 4 (by kernel_rfl) (at_dep rfl rfl rfl)), trivial⟩ (fun vs w' hb hh => by have e := holds_isV (us := [_, _]) hh; subst e; exact (isR_ok (hs.below (hS.below.trans (hb.mono hS.below.size))) hok (hxx.below (hS.below.trans (hb.mono hS.below.size)))).mono fun e w2 h => ⟨_, h.1, rfl, h.2⟩) (at_top rfl)) ?_
  refine bl_cons 7 rfl (isV (.bool false)) (stab_isV _) (rgVe (li := [(20, _)]) rfl (w_free rfl) ⟨g_dep 5 (by kernel_rfl) (at_dep rfl rfl rfl), trivial⟩ (fun w hw => rn_not rfl) (rfl) (at_top rfl)) ?_
  refine bl_nil ?_
  intro W3 hbR hS'
  clear hS; have hS := hS'; clear hS'
  refine fin_v ?_
  refine fin_v ?_
  refine fin_v ?_
  refine fin_v ?_
  refine fin_v ?_
  refine fin_v ?_
  refine fin_v ?_
  refine fin_nil ?_
  refine XF.thenN ?_
  refine condN rfl ?_
  refine skipF ?_
  refine XF.blkN ?_
  refine XF.thenN ?_
  refine regF ?_
  refine op_move rfl rfl ?_
  refine op_add rfl rfl (IntWalk.i64_in _ (by omega)) rfl ?_
  refine op_assign rfl rfl ?_
  refine endF ?_
  exact XF.round (m - (k + 1)) [(1, _), (2, _), (5, _)] (by omega) ⟨rfl, rfl, rfl, trivial⟩ ⟨k + 1, by omega, rfl, rfl, hS.clear⟩
 ·have hc12 := of_decide_eq_false hc; clear hc
  refine exitF ?_
  refine XF.thenX ?_
  refine XF.thenX ?_
  refine XF.blkX ?_
  refine XF.thenN ?_
  refine seqF (regF ?_)
  refine op_assign rfl rfl ?_
  refine endF (XF.thenN ?_)
  refine retF ?_
  refine XF.res (res1 Try.results36 rfl) ?_
  exact ⟨rfl, hS.below⟩
theorem ExtendR_ok (S : PS) (sf : SF) (w : World) (hs : SIs w S sf) (hok : S.ok) (M : World → Prop) (hM : KeepsB M) (hw : M w) (a : Option Addr) (c m : Nat) (fs : List WF) (xs : List PX) (hr : FRow w a fs) (hx : XLF M S fs xs) (hm : fs.length = m) (hmx : m ≤ 9223372036854775807) :
  Calls Try.prog 12 #[sf.val, .slice a m c] w (XRet2 M S (xs.foldl (extX S) (oneX S)) 0 w) := by
 refine enterF (args := [sf.val, .slice a m c]) Try.func12 rfl Try.ntmps12 rfl ?_
 have hS := St.start w
 refine seqF (regF ?_)
 refine op_box (cs := [_, _, _]) hS rfl rfl rfl ?_
 clear hS; intro B1 W1 hS
 refine op_alloc (cs := [_, _, _, _, _, _]) hS Try.zeroValue45 rfl rfl ?_
 clear hS; intro B2 W2 hS
 refine op_assign rfl rfl ?_
 refine endF (XF.thenN ?_)
 refine seqF (regF ?_)
 refine op_loadA (vs := [_, _, _]) Try.isAgg25 Try.sizeOf25 rfl (CellsAt.own (j := 0) (m := 3) (hS.at_ 1 rfl) rfl) rfl ?_
 refine op_move rfl rfl ?_
 refine op_call (vs := [_, _]) hS goes_36 rfl (allR_ok S sf _ (hs.below hS.below) hok a c m fs xs (hr.below hS.below) ((hx.is hw).below hS.below) hm hmx) rfl ?_
 rintro e W3 ⟨rfl, hb⟩
 refine ⟨_, rfl, hb, fun hS' => ?_⟩
 clear hS; have hS := hS'; clear hS' hb
 refine op_assign rfl rfl ?_
 refine endF (XF.thenN ?_)
 refine seqF ?_
 refine seqF (regF ?_)
 refine op_move rfl rfl ?_
 refine op_neq rfl rfl rfl ?_
 refine endF (XF.thenN ?_)
 refine condF rfl (fun hc => absurd (of_decide_eq_true hc) (by omega)) (fun hc => ?_)
 have hc := of_decide_eq_false hc
 refine skipF ?_
 refine XF.thenN ?_
 refine seqF (regF ?_)
 refine op_loadA (vs := [_, _, _]) Try.isAgg25 Try.sizeOf25 rfl (CellsAt.own (j := 0) (m := 3) (hS.at_ 1 rfl) rfl) rfl ?_
 have hsz0 := hS.below.size
 refine op_call (vs := [_]) hS goes_35 rfl (oneR_ok (hs.below hS.below) hok) rfl ?_
 rintro e W4 ⟨f0, rfl, hn, hb⟩
 refine ⟨_, rfl, hb, fun hS' => ?_⟩
 clear hS; have hS := hS'; clear hS'
 refine op_alloc (cs := [_, _, _, _, _, _]) hS Try.zeroValue45 rfl rfl ?_
 clear hS; intro B5 W5 hS
 refine op_storeA (i := 0) (vs := [_, _, _, _, _, _]) (cs' := [_, _, _, _, _, _]) (O' := [_, _, _]) hS Try.sizeOf45 rfl rfl rfl rfl rfl rfl rfl ?_
 clear hS; intro W6 hS
 refine endF (XF.thenN ?_)
 refine seqF ?_
 refine seqF (regF ?_)
 refine op_assign rfl rfl ?_
 refine endF (XF.thenN ?_)
 refine blockF ?_
 refine loopF (fun q l W => ∃ (k : Nat) (f0 : WF) (K : List (Nat × World)), k ≤ m ∧ q = m - k ∧ l = [(1, .slice a m c), (2, .pointer (some ⟨B1, 0, none⟩)), (4, .pointer (some ⟨B2, 0, none⟩)), (7, .pointer (some ⟨B5, 0, none⟩)), (8, .int .i64 (k : Int))] ∧ FarX (MK M K) S f0 ((xs.take k).foldl (extX S) (oneX S)) ∧ (∀ q ∈ K, w.heap.size ≤ q.1) ∧ St w [(B5, f0.six, 45), (B2, [.bool false, .int .i64 0, .int .u64 0, .slice none 0 0, .slice none 0 0, .slice none 0 0], 45), (B1, [.int .i64 sf.tag, .int .i64 sf.dim, .slice sf.a sf.len sf.cap], 25)] [] K W) (m - 0) ([(1, _), (2, _), (4, _), (7, _), (8, _)]) ⟨rfl, rfl, rfl, rfl, rfl, trivial⟩ (⟨0, f0, _, Nat.zero_le _, rfl, rfl, hn.far.mono (fun W2 h2 => h2.2 _ (List.mem_of_getElem? (i := 0) rfl)), one_le hsz0, hS.keep1⟩) ?_
 clear hS
 rintro q l W ⟨k, f0, K, hkm, rfl, rfl, hn0, hK, hS⟩
 refine seqF ?_
 refine seqF (regF ?_)
 refine op_move rfl rfl ?_
 refine op_move rfl rfl ?_
 refine op_len Try.underlying43 rfl rfl ?_
 refine op_lss rfl rfl rfl ?_
 refine endF (XF.thenN ?_)
 refine condF rfl (fun hc => ?_) (fun hc => ?_)
 ·have hc21 := of_decide_eq_true hc; clear hc
  have hk : k < m := by omega
  obtain ⟨f, x, hf, hxk, hxx⟩ := hx.at_ (k := k) (by omega)
  obtain ⟨b, off, rfl, h6⟩ := hr.at_ hf
  have k1 := CellsAt.agree hS.agree (Nat.zero_le _) h6.cells
  have hsz2 := hS.below.size
  refine skipF ?_
  refine XF.thenN ?_
  refine seqF ?_
  refine blockF ?_
  refine regBK followsM 7 hS rfl rfl (by kernel_rfl) (by kernel_rfl) (by kernel_rfl) (fun d hd => by cases hd) ?_
  refine bl_cons 1 rfl (isV _) (stab_isV _) (rgV (li := [(2, _)]) rfl (w_free rfl) ⟨g_fr (by kernel_rfl) rfl, trivial⟩ (fun w hw => rn_loadA (vs := [_, _, _]) Try.isAgg25 Try.sizeOf25 rfl (CellsAt.agree (below_agree hw 0) (Nat.zero_le _) (CellsAt.own (j := 0) (m := 3) (hS.at_ 2 rfl) rfl))) (at_top rfl)) ?_
  refine bl_cons 2 rfl (isV _) (stab_isV _) (rgV (li := [(7, _)]) rfl (w_free rfl) ⟨g_fr (by kernel_rfl) rfl, trivial⟩ (fun w hw => rn_loadA (vs := [_, _, _, _, _, _]) Try.isAgg45 Try.sizeOf45 rfl (CellsAt.agree (below_agree hw 0) (Nat.zero_le _) (CellsAt.own (j := 0) (m := 6) (hS.at_ 0 rfl) rfl))) (at_top rfl)) ?_
  refine bl_cons 3 rfl (isV _) (stab_isV _) (rgV (li := [(1, _)]) rfl (w_free rfl) ⟨g_fr (by kernel_rfl) rfl, trivial⟩ (fun w hw => rn_move rfl) (at_top rfl)) ?_
  refine bl_cons 4 rfl (isV _) (stab_isV _) (rgV (li := [(8, _)]) rfl (w_free rfl) ⟨g_fr (by kernel_rfl) rfl, trivial⟩ (fun w hw => rn_move rfl) (at_top rfl)) ?_
  refine bl_cons 5 rfl (isV _) (stab_isV _) (rgV (li := [(26, _), (27, _)]) rfl (w_free rfl) ⟨g_dep 2 (by kernel_rfl) (at_dep rfl rfl rfl), g_dep 3 (by kernel_rfl) (at_dep rfl rfl rfl), trivial⟩ (fun w hw => rn_indexA  Try.underlying43 Try.sizeOf45 rfl rfl rfl (by omega) rfl) (at_top rfl)) ?_
  refine bl_cons 6 rfl (isV _) (stab_isV _) (rgV (li := [(28, _)]) rfl (w_free rfl) ⟨g_dep 4 (by kernel_rfl) (at_dep rfl rfl rfl), trivial⟩ (fun w hw => rn_loadA (vs := [_, _, _, _, _, _]) Try.isAgg45 Try.sizeOf45 rfl (CellsAt.agree (below_agree hw 0) (Nat.zero_le _) (by assumption))) (at_top rfl)) ?_
  refine bl_cons 7 rfl (isNew W.heap.size S (extX S ((xs.take k).foldl (extX S) (oneX S)) x)) (stab_isNew) (rg_call [isV _, isV _, isV _] rfl goes_37 (w_free rfl) ⟨p_tmp (g_dep 0 (by kernel_rfl) (at_dep rfl rfl rfl)), p_tmp (g_dep 1 (by kernel_rfl) (at_dep rfl rfl rfl)), p_tmp (g_dep 5 (by kernel_rfl) (at_dep rfl rfl rfl)), trivial⟩ (fun vs w' hb hh => by have e := holds_isV (us := [_, _, _]) hh; subst e; exact wret_gives hb.size (thenR_ok (hs.below (hS.below.trans (hb.mono hS.below.size))) hok (hn0.is ((hS.stays hM hw).keep hM hb)) (hxx.is (hM _ _ hw (hS.below.trans (hb.mono hS.below.size)))))) (at_top rfl)) ?_
  refine bl_nil ?_
  intro W7 hbR hS'
  clear hS; have hS := hS'; clear hS'
  refine fin_v ?_
  refine fin_v ?_
  refine fin_v ?_
  refine fin_v ?_
  refine fin_v ?_
  refine fin_v ?_
  refine fin_p ?_; rintro _ ⟨f2, rfl, hn2⟩; have hn2 := hn2.far.mono (M' := MK M ((_, W7) :: K)) (fun W2 h2 => h2.head)
  refine fin_nil ?_
  refine op_storeA (i := 0) (vs := [_, _, _, _, _, _]) (cs' := [_, _, _, _, _, _]) (O' := [_, _, _]) hS Try.sizeOf45 rfl rfl rfl rfl rfl rfl rfl ?_
  clear hS; intro W8 hS
  refine endF ?_
  refine XF.blkN ?_
  refine XF.thenN ?_
  refine regF ?_
  refine op_move rfl rfl ?_
  refine op_add rfl rfl (IntWalk.i64_in _ (by omega)) rfl ?_
  refine op_assign rfl rfl ?_
  refine endF ?_
  exact XF.round (m - (k + 1)) [(1, _), (2, _), (4, _), (7, _), (8, _)] (by omega) ⟨rfl, rfl, rfl, rfl, rfl, trivial⟩ ⟨k + 1, f2, _, by omega, rfl, rfl, by rw [take_fold hxk]; exact hn2, (fun q hq => by rcases List.mem_cons.1 hq with rfl | hq; exact hsz2; exact hK q hq), hS⟩
 ·have hc21 := of_decide_eq_false hc; clear hc
  refine exitF ?_
  refine XF.thenX ?_
  refine XF.thenX ?_
  refine XF.blkX ?_
  refine XF.thenN ?_
  refine seqF (regF ?_)
  refine op_loadA (vs := [_, _, _, _, _, _]) Try.isAgg45 Try.sizeOf45 rfl (CellsAt.own (j := 0) (m := 6) (hS.at_ 0 rfl) rfl) rfl ?_
  refine op_storeA (i := 1) (vs := [_, _, _, _, _, _]) (cs' := [_, _, _, _, _, _]) (O' := [_, _, _]) hS Try.sizeOf45 rfl rfl rfl rfl rfl rfl rfl ?_
  clear hS; intro W9 hS
  refine op_assign rfl rfl ?_
  refine endF (XF.thenN ?_)
  refine retF ?_
  refine XF.res (resCT (vs := [_, _, _, _, _, _]) Try.results12 Try.isAgg45 Try.sizeOf45 rfl (CellsAt.own (j := 0) (m := 6) (hS.at_ 1 rfl) rfl) rfl) ?_
  have e1 : xs.take k = xs := List.take_of_length_le (by have := hx.1; omega)
  rw [e1] at hn0
  exact ⟨f0, rfl, hn0.mono (fun W2 h2 => ⟨h2.1, fun q hq => ((hS.kept q hq).1).trans (h2.2.mono (hK q hq))⟩), hS.below⟩
end Go.Proofs.Ytpkcaabbcoiiiaa
namespace Go.Proofs.Ytpkcaabbcoiiiaa
open Go Go.RowKit
theorem runP_step {ps : List PR} {c0 fin : Int × List Int} {r : PR} {k : Nat} {cp : Int} {cw : List Int} (h : runP ps c0 = some fin) (hk : runP (ps.take k) c0 = some (cp, cw)) (hr : ps[k]? = some r) : cp = r.2.2.1 ∧ (∃ t, cw = r.2.2.2.1 :: t ∧ runP (ps.take (k + 1)) c0 = some (r.2.2.2.2.1, r.2.2.2.2.2.1 ++ t)) := by
 have hkl : k < ps.length := (List.getElem?_eq_some_iff.1 hr).1
 have e : ps = ps.take k ++ (r :: ps.drop (k + 1)) := by
  have h1 := (List.take_append_drop k ps).symm
  rw [List.drop_eq_getElem_cons hkl, (List.getElem?_eq_some_iff.1 hr).2] at h1
  exact h1
 rw [e, runP_append, hk] at h
 simp only [Option.bind_some, runP] at h
 split at h
 ·rename_i hc
  obtain ⟨h1, h2⟩ := hc
  refine ⟨h1, ?_⟩
  cases cw with
  | nil => cases h2
  | cons a t =>
   simp only [List.head?_cons, Option.some.injEq] at h2
   refine ⟨t, by rw [h2], ?_⟩
   rw [List.take_add_one, hr, runP_append, hk]
   simp only [Option.bind_some, Option.toList_some, runP, List.head?_cons, List.tail_cons]
   exact if_pos (c := cp = r.2.2.1 ∧ some a = some r.2.2.2.1) ⟨h1, by rw [h2]⟩
 ·cases h
theorem ext_part {S : PS} {num p g q : Int} {ws : List Int} {x : PX} {z y : Int} (hok : S.ok) (hx : OkX S x) {k : Nat} {r : PR} (h : (partsF (oneX S) num p g q ws x z y)[k]? = some r) : extX S (if k = 0 then oneX S else x) r.2.2.2.2.2.2 = if k + 1 = 0 then oneX S else x := by
 rw [parts_x h, if_neg (Nat.succ_ne_zero k)]
 by_cases hk : k = 0
 ·rw [if_pos hk, if_pos hk]; exact oneX_ext hok hx
 ·rw [if_neg hk, if_neg hk]; exact extX_one hok hx
theorem ok_part {S : PS} {x : PX} (hok : S.ok) (hx : OkX S x) (k : Nat) : OkX S (if k = 0 then oneX S else x) := by
 by_cases hk : k = 0
 ·rw [if_pos hk]; exact one_okX hok
 ·rw [if_neg hk]; exact hx
abbrev MB (w0 : World) (Kk : List (Nat × World)) : World → Prop := MK (fun W => Below w0.heap.size w0 W) Kk
theorem MB.of {w0 W : World} {O : Own} {G : Grows} {K Kk : List (Nat × World)} (h : St w0 O G K W) (hk : ∀ q ∈ Kk, q ∈ K) : MB w0 Kk W := ⟨h.below, fun q hq => (h.kept q (hk q hq)).1⟩
theorem MB.st {w0 W : World} {K : List (Nat × World)} (h : MB w0 K W) : St w0 [] [] K W := ⟨h.1, (fun p h => by cases h), List.Pairwise.nil, (fun q hq => ⟨h.2 q hq, fun p hp => by cases hp⟩), (fun q h => by cases h), List.Pairwise.nil⟩
theorem FarX.keep {w0 : World} {K1 K2 : List (Nat × World)} {S : PS} {f : WF} {x : PX} (h : FarX (MB w0 K1) S f x) (hk : ∀ q ∈ K1, q ∈ K2) : FarX (MB w0 K2) S f x := h.mono fun W hW => ⟨hW.1, fun q hq => hW.2 q (hk q hq)⟩
theorem agree_lo {lo lo' : Nat} {A W : World} (h : Agree lo A W) (hl : lo ≤ lo') : Agree lo' A W := ⟨h.1, fun k h1 h2 => h.2 k (Nat.le_trans hl h1) h2⟩
def isXT (M : World → Prop) (lo : Nat) (S : PS) (z : PX) : Asr := fun v w2 => ∃ h : WF, v = .tuple #[h.val, .int .i64 0] ∧ FarX (fun W => M W ∧ Agree lo w2 W) S h z
def isXK (M : World → Prop) (lo : Nat) (S : PS) (z : PX) : Asr := fun v w2 => ∃ h : WF, v = h.val ∧ FarX (fun W => M W ∧ Agree lo w2 W) S h z
theorem w6_atL {w : World} {B : Nat} {f : WF} {o : Nat} (h : CellsAt w B o f.six) : W6 w B o f := ⟨h.1, h.2.1, h.2.2.1, h.2.2.2.1, h.2.2.2.2.1, h.2.2.2.2.2.1⟩
theorem ext2H {w w0 : World} {S : PS} {sf : SF} {f g : WF} {x y z : PX} {Kk : List (Nat × World)} {B lo : Nat} {T : TypeId} (hs : SIs w S sf) (hok : S.ok) (h1 : FarX (MB w0 Kk) S f x) (h2 : XIs w0 S g y) (ox : OkX S x) (hz : extX S x y = z) (hM : MB w0 Kk w) (hB : w.heap[B]? = some (.cells (f.six ++ g.six).toArray T (0, 0))) (hlo : lo ≤ w.heap.size) :
  Calls Try.prog 12 #[sf.val, .slice (some ⟨B, 0, none⟩) 2 2] w (GivesN (isXT (MB w0 Kk) lo S z) w) := by
 have hf : [x, y].foldl (extX S) (oneX S) = z := by
  simp only [List.foldl_cons, List.foldl_nil]; rw [oneX_ext hok ox, hz]
 refine (ExtendR_ok S sf w hs hok (MB w0 Kk) (keepsB_MK (keepsB_below w0) Kk) hM (some ⟨B, 0, none⟩) 2 2 [f, g] [x, y] (.inr ⟨B, 0, rfl, fun i u hu => ?_⟩) ⟨rfl, fun i u v hu hv => ?_⟩ rfl (by decide)).mono ?_
 ·match i, hu with
  | 0, hu => cases hu; exact w6_atL (CellsAt.own (j := 0) (m := 6) hB rfl)
  | 1, hu => cases hu; exact w6_atL (CellsAt.own (j := 6) (m := 6) hB rfl)
  | k + 2, hu => simp at hu
 ·match i, hu, hv with
  | 0, hu, hv => cases hu; cases hv; exact h1
  | 1, hu, hv => cases hu; cases hv; exact h2.far.mono (fun W h => h.1)
  | k + 2, hu, hv => simp at hu
 ·rintro e w' ⟨f3, rfl, hx, hb⟩
  rw [hf] at hx
  exact ⟨_, rfl, fun w2 hg => ⟨f3, rfl, hx.mono fun W hW => ⟨hW.1, hg.trans (agree_lo hW.2 hlo)⟩⟩, hb⟩
def isStT (lo : Nat) (q : Int) (us : List Int) : Asr := fun v w => ∃ a c, v = .tuple #[.agg #[.int .i64 q, .slice a us.length c], .bool true] ∧ RowN lo w a c us
theorem stepL_N {lo : Nat} {p y q : Int} {b off wl wc : Nat} {va : Option Addr} {vl vc : Nat} {ws t : List Int} {f : WF} {w : World} (hrow : Row w (some ⟨b, off, none⟩) (y :: t)) (hlen : (y :: t).length = wl) (hcap : wl ≤ wc) (hrov : Row w va ws) (hlev : ws.length = vl) (hm : wl ≤ 8192) (hm2 : vl ≤ 8192) (hlo : lo ≤ w.heap.size) :
  Calls Try.prog 10 #[.agg #[.int .i64 p, .slice (some ⟨b, off, none⟩) wl wc], .agg #[.int .i64 p, .int .i64 y, .int .i64 q, .slice va vl vc, .bool f.z, .int .i64 f.c, .int .u64 (f.g : Int), .slice f.ra f.rl f.rc, .slice f.ca f.cl f.cc, .slice f.pa f.pl f.pc]] w (GivesN (isStT lo q (ws ++ t)) w) :=
 (stepL_is p y q b off wl wc va vl vc ws t f w hrow hlen hcap hrov hlev hm hm2).mono fun e w' ⟨a, c, he, hn, hb⟩ => ⟨_, he, fun w2 hg => ⟨a, c, rfl, (hn.agree hg).mono hlo⟩, hb⟩
theorem tup2L {a b a2 b2 : Value} (h : Value.tuple #[a, b] = .tuple #[a2, b2]) : a = a2 := by
 simp at h; exact h.1
section
variable {P : Program} {d td : Nat} {ty : TypeId} {pos : String}
theorem of_mv9 {p : Asr} : ∀ (ev : Operand → Value) (w : World), p (ev (.tmp td)) w → ∃ v, (execOp ev ⟨some d, .move (.tmp td), ty, pos, #[], none⟩).run P w = .ok (.value v) w ∧ ∀ w', p (ev (.tmp td)) w' → p v w' := fun ev w h => ⟨ev (.tmp td), by unfold execOp; rfl, fun _ h => h⟩
theorem of_st0 {lo : Nat} {q : Int} {us : List Int} : ∀ (ev : Operand → Value) (w : World), isStT lo q us (ev (.tmp td)) w → ∃ v, (execOp ev ⟨some d, .extract (.tmp td) 0, ty, pos, #[], none⟩).run P w = .ok (.value v) w ∧ ∀ w', isStT lo q us (ev (.tmp td)) w' → isConfN lo q us v w' := fun ev w ⟨a, c, e, h⟩ => by
 refine ⟨.agg #[.int .i64 q, .slice a us.length c], ?_, fun w' ⟨a2, c2, e2, h2⟩ => ?_⟩
 ·unfold execOp; simp only []; rw [e]; simp [Instr.extract]
 ·rw [e] at e2
  cases e2
  exact ⟨a, c, rfl, h2⟩
theorem of_st1 {lo : Nat} {q : Int} {us : List Int} : ∀ (ev : Operand → Value) (w : World), isStT lo q us (ev (.tmp td)) w → ∃ v, (execOp ev ⟨some d, .extract (.tmp td) 1, ty, pos, #[], none⟩).run P w = .ok (.value v) w ∧ ∀ w', isStT lo q us (ev (.tmp td)) w' → isV (.bool true) v w' := fun ev w ⟨a, c, e, h⟩ => by
 refine ⟨.bool true, ?_, fun _ _ => rfl⟩
 unfold execOp; simp only []; rw [e]; simp [Instr.extract]
theorem of_xt0 {M : World → Prop} {lo : Nat} {S : PS} {z : PX} : ∀ (ev : Operand → Value) (w : World), isXT M lo S z (ev (.tmp td)) w → ∃ v, (execOp ev ⟨some d, .extract (.tmp td) 0, ty, pos, #[], none⟩).run P w = .ok (.value v) w ∧ ∀ w', isXT M lo S z (ev (.tmp td)) w' → isXK M lo S z v w' := fun ev w ⟨h, e, hx⟩ => by
 refine ⟨h.val, ?_, fun w' ⟨h2, e2, hx2⟩ => ⟨h2, ?_, hx2⟩⟩
 ·unfold execOp; simp only []; rw [e]; simp [Instr.extract]
 ·rw [e] at e2
  exact tup2L e2
theorem of_xt1 {M : World → Prop} {lo : Nat} {S : PS} {z : PX} : ∀ (ev : Operand → Value) (w : World), isXT M lo S z (ev (.tmp td)) w → ∃ v, (execOp ev ⟨some d, .extract (.tmp td) 1, ty, pos, #[], none⟩).run P w = .ok (.value v) w ∧ ∀ w', isXT M lo S z (ev (.tmp td)) w' → isV (.int .i64 0) v w' := fun ev w ⟨h, e, hx⟩ => by
 refine ⟨.int .i64 0, ?_, fun _ _ => rfl⟩
 unfold execOp; simp only []; rw [e]; simp [Instr.extract]
end
theorem osY_at0 {O : Own} {j jx B : Nat} {cs : List Value} {U : TypeId} {ev : Option Value} {p : Nat × List Value × TypeId} (he : ev = none) (h : O[j]? = some p) : (osY O j jx B cs U ev)[j]? = some p := by
 subst he; exact h
theorem xb_lt {O : Own} {j jx B lo hi : Nat} {cs : List Value} {U : TypeId} {y : Value} (h : ∀ p ∈ O, p.1 < lo) (hB : B < lo) : ∀ b, lo ≤ b → b < hi → ¬ XB (osY O j jx B cs U (some y)) (gsNo [] (some y)) b := by
 rintro b h1 _ (⟨p, hp, rfl⟩ | ⟨g, hg, _⟩)
 ·rcases List.mem_or_eq_of_mem_set (show p ∈ O.set j (B, splice cs jx y.cells.toList, U) from hp) with hp | rfl
  ·exact absurd (h p hp) (Nat.not_lt_of_le h1)
  ·exact absurd hB (Nat.not_lt_of_le h1)
 ·cases hg
theorem far_after {w0 W' : World} {Ks Kk : List (Nat × World)} {lo : Nat} {X : Nat → Prop} {S : PS} {f : WF} {z : PX} (hcov : ∀ {O2 : Own} {G2 : Grows} {K2 : List (Nat × World)} {W2 : World}, St w0 O2 G2 K2 W2 → (∀ q ∈ Ks, q ∈ K2) → SameX lo X W' W2) (hX : ∀ b, lo ≤ b → b < W'.heap.size → ¬ X b) (h : FarX (fun W => MB w0 Kk W ∧ Agree lo W' W) S f z) : FarX (MB w0 (Ks ++ Kk)) S f z :=
 h.mono fun W hW => by
  have hs := hcov (MB.st hW) (fun q hq => List.mem_append_left _ hq)
  exact ⟨⟨hW.1, fun q hq => hW.2 q (List.mem_append_right _ hq)⟩, hs.2.1, fun b h1 h2 => hs.2.2 b h1 h2 (hX b h1 h2)⟩
end Go.Proofs.Ytpkcaabbcoiiiaa
namespace Go.Proofs.Ytpkcaabbcoiiiaa
open Go Go.RowKit
theorem goes_10 : goesIn Try.prog 10 = true := by kernel_rfl
theorem goes_13 : goesIn Try.prog 13 = true := by kernel_rfl
theorem pdsSteps_walk0 (ds d : Nat) (p : PV) (rule : Int) (la : Option Addr) (ll lc : Nat) (ks : List Int) (w : World) (hp : PvIn w (ds + 1) d p) (hc : PvCap9 p) (hrm : p.rl ≤ 9223372036854775807) (hrla : Row w la ks) (hll : ks.length = ll) (hlc : ll ≤ lc) (hlm : ll ≤ 9223372036854775807) (ht : ∀ W, Tabs W) :
  Calls Try.prog 3 #[p.val, .int .i64 rule, .slice la ll lc] w (fun e w' => e = .returned (.bool (true)) ∧ Below w.heap.size w w') := by
 refine enterF (args := [p.val, .int .i64 rule, .slice la ll lc]) Try.func3 rfl Try.ntmps3 rfl ?_
 have hS := St.start w
 refine seqF (regF ?_)
 refine op_box (cs := [_, _, _, _, _, _]) hS rfl rfl rfl ?_
 clear hS; intro B1 W1 hS
 refine op_assign rfl rfl ?_
 refine endF (XF.thenN ?_)
 refine seqF (regF ?_)
 refine op_loadA (vs := [_, _, _, _, _, _]) Try.isAgg28 Try.sizeOf28 rfl (CellsAt.own (j := 0) (m := 6) (hS.at_ 0 rfl) rfl) rfl ?_
 refine op_call (vs := [_]) hS goes_7 rfl (pcut_is hS.below hp hc hrm) rfl ?_
 rintro e W2 ⟨q, rfl, hq, hb⟩
 refine ⟨_, rfl, hb, fun hS' => ?_⟩
 clear hS; have hS := hS'; clear hS'
 clear hb
 have HQ : Held w [(W1.heap.size, W2)] (fun W2 => PvIn W2 (ds + 1) d q) := fun h2 hk => hq.far _ h2.below (h2.kept _ (hk _ List.mem_cons_self)).1
 obtain ⟨lo9, hlo9⟩ : ∃ n, n = W1.heap.size := ⟨_, rfl⟩
 rw [← hlo9] at HQ hS
 obtain ⟨A9, hA9⟩ : ∃ A, A = W2 := ⟨_, rfl⟩
 rw [← hA9] at HQ
 refine op_storeA (i := 0) (vs := [_, _, _, _, _, _]) (cs' := [_, _, _, _, _, _]) (O' := [_]) hS Try.sizeOf28 rfl rfl rfl rfl rfl rfl rfl ?_
 clear hS; intro W3 hS
 refine endF (XF.thenN ?_)
 refine joinF (fun l W => ∃ (kl : Nat) (is2 : List Int), l = [(1, .int .i64 rule), (2, .slice la kl lc), (3, .pointer (some ⟨B1, 0, none⟩))] ∧ is2.length = kl ∧ kl ≤ 50 ∧ kl ≤ lc ∧ Row w la is2 ∧ St w [(B1, q.six, 28)] [] [(lo9, A9)] W) ?_ ?_
 ·clear hS
  rintro _ W ⟨kl, is2, rfl, hl2, hk2, hkc, hrow2, hS⟩
  refine seqF ?_
  have hRoot := hS.below
  have hR2 := hRoot
  have hqw := HQ hS (fun z hz => by simp at hz; subst hz; simp)
  have kb1 : CellsAt W B1 0 q.six := CellsAt.own (j := 0) (m := 6) (hS.at_ 0 rfl) rfl
  obtain ⟨S, px, hpx⟩ := pdsOk_ex hqw
  obtain ⟨⟨o, pl, zt, yt, E⟩, hD⟩ : ∃ D, shortD S px q = D := ⟨_, rfl⟩
  have hrk := hrow2.below hRoot
  clear HQ
  clear hS; have hS := St.start W
  refine regF ?_
  refine op_loadA (vs := [_, _, _, _, _, _]) Try.isAgg28 Try.sizeOf28 rfl (kb1) rfl ?_
  refine op_call (vs := [_]) hS goes_8 rfl (shortA_out hD (hqw.below hS.below) (ht _) (fun h => (hpx h).below hS.below)) rfl ?_
  rintro e W4 ⟨sf1, n1, a1, b1, d1, c1, e1, f1, ns1, rfl, ho1, hb⟩
  refine ⟨_, rfl, hb, fun hS' => ?_⟩
  clear hS; have hS := hS'; clear hS'
  have hb1 := hb
  clear hb
  refine op_move rfl rfl ?_
  refine op_extract rfl rfl rfl ?_
  refine op_extract rfl rfl rfl ?_
  refine op_alloc (cs := [_, _, _, _, _, _, _, _]) hS Try.zeroValue33 rfl rfl ?_
  clear hS; intro B5 W5 hS
  refine op_storeA (i := 0) (vs := [_, _, _, _, _, _, _, _]) (cs' := [_, _, _, _, _, _, _, _]) (O' := [_]) hS Try.sizeOf33 rfl rfl rfl rfl rfl rfl rfl ?_
  clear hS; intro W6 hS
  refine op_assign rfl rfl ?_
  refine endF (XF.thenN ?_)
  refine seqF ?_
  refine seqF ?_
  have hRoot := hS.below
  have hR3 := hRoot
  have ho3 := ho1.below (below_join rfl hb1 hS.below (hS.since 0 rfl))
  have kb2 : CellsAt W6 B1 0 q.six := CellsAt.agree hS.agree (Nat.zero_le _) kb1
  have kb7 : CellsAt W6 B5 0 [.int .i64 sf1.tag, .int .i64 sf1.dim, .slice sf1.a sf1.len sf1.cap, .int .i64 zt, .int .i64 yt, .slice a1 n1 c1, .slice b1 n1 e1, .slice d1 n1 f1] := CellsAt.own (j := 0) (m := 8) (hS.at_ 0 rfl) rfl
  have hqw3 := hqw.below hRoot
  have hpx3 : pdsE q = 0 → PdsOk W6 S px q := fun h => (hpx h).below hRoot
  have hrk3 := hrk.below hRoot
  have hge : E = 0 → q.rl ≤ n1 := fun h => by
   obtain ⟨_, _, _, h4⟩ := shortD_ok hD h
   have h5 := congrArg List.length (ho3.pl.trans h4)
   rw [List.length_map, ho3.len] at h5
   rw [h5, ← hqw3.len]
   exact shortF_ge
  clear hq hrow2 hrk hqw hpx ho1 hb1 kb1 hRoot
  clear hS; have hS := St.start W6
  refine regF ?_
  refine op_move rfl rfl ?_
  refine op_neq rfl rfl rfl ?_
  refine op_move rfl rfl ?_
  refine op_cases (d := 32) rfl (fun hc => ?_) (fun hc => ?_)
  ·have hg32 := of_decide_eq_true hc; clear hc
   refine op_notF (d := 32) rfl rfl rfl rfl ?_
   refine op_notF (d := 32) rfl rfl rfl rfl ?_
   refine op_pickT rfl rfl rfl ?_
   refine op_move rfl rfl ?_
   refine op_notF (d := 36) rfl rfl rfl rfl ?_
   refine op_notF (d := 36) rfl rfl rfl rfl ?_
   refine op_notF (d := 36) rfl rfl rfl rfl ?_
   refine op_notF (d := 36) rfl rfl rfl rfl ?_
   refine op_notF (d := 36) rfl rfl rfl rfl ?_
   refine op_pickT rfl rfl rfl ?_
   refine endF (XF.thenN ?_)
   refine condT rfl ?_
   refine seqF (regF ?_)
   refine op_move rfl rfl ?_
   refine op_neq rfl rfl rfl ?_
   refine op_move rfl rfl ?_
   refine op_cases (d := 45) rfl (fun hc => ?_) (fun hc => ?_)
   ·have hg45 := of_decide_eq_true hc; clear hc
    refine op_notF (d := 45) rfl rfl rfl rfl ?_
    refine op_notF (d := 45) rfl rfl rfl rfl ?_
    refine op_notF (d := 45) rfl rfl rfl rfl ?_
    refine op_notF (d := 45) rfl rfl rfl rfl ?_
    refine op_notF (d := 45) rfl rfl rfl rfl ?_
    refine op_notF (d := 45) rfl rfl rfl rfl ?_
    refine op_notF (d := 45) rfl rfl rfl rfl ?_
    refine op_notF (d := 45) rfl rfl rfl rfl ?_
    refine op_pickT rfl rfl rfl ?_
    refine op_move rfl rfl ?_
    refine op_wantedF (d := 55) rfl rfl ?_
    refine op_call (vs := []) hS goes_9 rfl (alive_is _ (ht _)) rfl ?_
    rintro e W7 ⟨rfl, hb⟩
    refine ⟨_, rfl, hb, fun hS' => ?_⟩
    clear hS; have hS := hS'; clear hS' hb
    refine op_pickT rfl rfl rfl ?_
    refine op_assign rfl rfl ?_
    refine endF (XF.thenN ?_)
    refine retF ?_
    refine XF.thenR ?_
    refine XF.res (res1 Try.results3 rfl) ?_
    exact ⟨rfl, (hR2.trans (hR3.mono hR2.size)).trans (hS.below.mono (Nat.le_trans hR2.size hR3.size))⟩
   ·have hg45 := of_decide_eq_false hc; clear hc
    refine op_wantedF (d := 45) rfl rfl ?_
    refine op_field fa_33_0 rfl (Nat.add_zero _) rfl ?_
    refine op_wantedF (d := 45) rfl rfl ?_
    refine op_field fa_28_3 rfl rfl rfl ?_
    refine op_wantedF (d := 45) rfl rfl ?_
    refine op_load Try.isAgg26 rfl (kb7.2.2.2.2.2.1) rfl ?_
    refine op_wantedF (d := 45) rfl rfl ?_
    refine op_len Try.underlying26 rfl rfl ?_
    refine op_wantedF (d := 45) rfl rfl ?_
    refine op_field fa_28_3 rfl rfl rfl ?_
    refine op_wantedF (d := 45) rfl rfl ?_
    refine op_load Try.isAgg26 rfl (kb2.2.2.2.2.2.1) rfl ?_
    refine op_wantedF (d := 45) rfl rfl ?_
    refine op_len Try.underlying26 rfl rfl ?_
    refine op_wantedF (d := 45) rfl rfl ?_
    refine op_geq rfl rfl rfl ?_
    refine op_pickF rfl rfl rfl ?_
    refine op_move rfl rfl ?_
    refine op_cases (d := 55) rfl (fun hc => ?_) (fun hc => absurd (of_decide_eq_false hc) (by exact fun h => h (by have h9 := hge (by omega); omega)))
    have hc := of_decide_eq_true hc
    refine op_wantedF (d := 55) rfl rfl ?_
    refine op_call (vs := []) hS goes_9 rfl (alive_is _ (ht _)) rfl ?_
    rintro e W8 ⟨rfl, hb⟩
    refine ⟨_, rfl, hb, fun hS' => ?_⟩
    clear hS; have hS := hS'; clear hS' hb
    refine op_pickT rfl rfl rfl ?_
    refine op_assign rfl rfl ?_
    refine endF (XF.thenN ?_)
    refine retF ?_
    refine XF.thenR ?_
    refine XF.res (res1 Try.results3 rfl) ?_
    exact ⟨rfl, (hR2.trans (hR3.mono hR2.size)).trans (hS.below.mono (Nat.le_trans hR2.size hR3.size))⟩
  ·have hg32 := of_decide_eq_false hc; clear hc
   refine op_wantedF (d := 32) rfl rfl ?_
   refine op_move rfl rfl ?_
   refine op_wantedF (d := 32) rfl rfl ?_
   refine op_lss rfl rfl rfl ?_
   refine op_pickF rfl rfl rfl ?_
   refine op_move rfl rfl ?_
   refine op_cases (d := 36) rfl (fun hc => ?_) (fun hc => ?_)
   ·have hg36 := of_decide_eq_true hc; clear hc
    refine op_notF (d := 36) rfl rfl rfl rfl ?_
    refine op_notF (d := 36) rfl rfl rfl rfl ?_
    refine op_notF (d := 36) rfl rfl rfl rfl ?_
    refine op_notF (d := 36) rfl rfl rfl rfl ?_
    refine op_notF (d := 36) rfl rfl rfl rfl ?_
    refine op_pickT rfl rfl rfl ?_
    refine endF (XF.thenN ?_)
    refine condT rfl ?_
    refine seqF (regF ?_)
    refine op_move rfl rfl ?_
    refine op_neq rfl rfl rfl ?_
    refine op_move rfl rfl ?_
    refine op_cases (d := 45) rfl (fun hc => ?_) (fun hc => ?_)
    ·have hg45 := of_decide_eq_true hc; clear hc
     refine op_notF (d := 45) rfl rfl rfl rfl ?_
     refine op_notF (d := 45) rfl rfl rfl rfl ?_
     refine op_notF (d := 45) rfl rfl rfl rfl ?_
     refine op_notF (d := 45) rfl rfl rfl rfl ?_
     refine op_notF (d := 45) rfl rfl rfl rfl ?_
     refine op_notF (d := 45) rfl rfl rfl rfl ?_
     refine op_notF (d := 45) rfl rfl rfl rfl ?_
     refine op_notF (d := 45) rfl rfl rfl rfl ?_
     refine op_pickT rfl rfl rfl ?_
     refine op_move rfl rfl ?_
     refine op_wantedF (d := 55) rfl rfl ?_
     refine op_call (vs := []) hS goes_9 rfl (alive_is _ (ht _)) rfl ?_
     rintro e W9 ⟨rfl, hb⟩
     refine ⟨_, rfl, hb, fun hS' => ?_⟩
     clear hS; have hS := hS'; clear hS' hb
     refine op_pickT rfl rfl rfl ?_
     refine op_assign rfl rfl ?_
     refine endF (XF.thenN ?_)
     refine retF ?_
     refine XF.thenR ?_
     refine XF.res (res1 Try.results3 rfl) ?_
     exact ⟨rfl, (hR2.trans (hR3.mono hR2.size)).trans (hS.below.mono (Nat.le_trans hR2.size hR3.size))⟩
    ·have hg45 := of_decide_eq_false hc; clear hc
     refine op_wantedF (d := 45) rfl rfl ?_
     refine op_field fa_33_0 rfl (Nat.add_zero _) rfl ?_
     refine op_wantedF (d := 45) rfl rfl ?_
     refine op_field fa_28_3 rfl rfl rfl ?_
     refine op_wantedF (d := 45) rfl rfl ?_
     refine op_load Try.isAgg26 rfl (kb7.2.2.2.2.2.1) rfl ?_
     refine op_wantedF (d := 45) rfl rfl ?_
     refine op_len Try.underlying26 rfl rfl ?_
     refine op_wantedF (d := 45) rfl rfl ?_
     refine op_field fa_28_3 rfl rfl rfl ?_
     refine op_wantedF (d := 45) rfl rfl ?_
     refine op_load Try.isAgg26 rfl (kb2.2.2.2.2.2.1) rfl ?_
     refine op_wantedF (d := 45) rfl rfl ?_
     refine op_len Try.underlying26 rfl rfl ?_
     refine op_wantedF (d := 45) rfl rfl ?_
     refine op_geq rfl rfl rfl ?_
     refine op_pickF rfl rfl rfl ?_
     refine op_move rfl rfl ?_
     refine op_cases (d := 55) rfl (fun hc => ?_) (fun hc => absurd (of_decide_eq_false hc) (by exact fun h => h (by have h9 := hge (by omega); omega)))
     have hc := of_decide_eq_true hc
     refine op_wantedF (d := 55) rfl rfl ?_
     refine op_call (vs := []) hS goes_9 rfl (alive_is _ (ht _)) rfl ?_
     rintro e W10 ⟨rfl, hb⟩
     refine ⟨_, rfl, hb, fun hS' => ?_⟩
     clear hS; have hS := hS'; clear hS' hb
     refine op_pickT rfl rfl rfl ?_
     refine op_assign rfl rfl ?_
     refine endF (XF.thenN ?_)
     refine retF ?_
     refine XF.thenR ?_
     refine XF.res (res1 Try.results3 rfl) ?_
     exact ⟨rfl, (hR2.trans (hR3.mono hR2.size)).trans (hS.below.mono (Nat.le_trans hR2.size hR3.size))⟩
   ·have hg36 := of_decide_eq_false hc; clear hc
    refine op_wantedF (d := 36) rfl rfl ?_
    refine op_move rfl rfl ?_
    refine op_wantedF (d := 36) rfl rfl ?_
    refine op_field fa_28_3 rfl rfl rfl ?_
    refine op_wantedF (d := 36) rfl rfl ?_
    refine op_load Try.isAgg26 rfl (kb2.2.2.2.2.2.1) rfl ?_
    refine op_wantedF (d := 36) rfl rfl ?_
    refine op_len Try.underlying26 rfl rfl ?_
    refine op_wantedF (d := 36) rfl rfl ?_
    refine op_geq rfl rfl rfl ?_
    refine op_pickF rfl rfl rfl ?_
    refine endF (XF.thenN ?_)
    refine condF rfl (fun hc => ?_) (fun hc => ?_)
    ·have hc42 := of_decide_eq_true hc; clear hc
     refine seqF (regF ?_)
     refine op_move rfl rfl ?_
     refine op_neq rfl rfl rfl ?_
     refine op_move rfl rfl ?_
     refine op_cases (d := 45) rfl (fun hc => ?_) (fun hc => ?_)
     ·have hg45 := of_decide_eq_true hc; clear hc
      refine op_notF (d := 45) rfl rfl rfl rfl ?_
      refine op_notF (d := 45) rfl rfl rfl rfl ?_
      refine op_notF (d := 45) rfl rfl rfl rfl ?_
      refine op_notF (d := 45) rfl rfl rfl rfl ?_
      refine op_notF (d := 45) rfl rfl rfl rfl ?_
      refine op_notF (d := 45) rfl rfl rfl rfl ?_
      refine op_notF (d := 45) rfl rfl rfl rfl ?_
      refine op_notF (d := 45) rfl rfl rfl rfl ?_
      refine op_pickT rfl rfl rfl ?_
      refine op_move rfl rfl ?_
      refine op_wantedF (d := 55) rfl rfl ?_
      refine op_call (vs := []) hS goes_9 rfl (alive_is _ (ht _)) rfl ?_
      rintro e W11 ⟨rfl, hb⟩
      refine ⟨_, rfl, hb, fun hS' => ?_⟩
      clear hS; have hS := hS'; clear hS' hb
      refine op_pickT rfl rfl rfl ?_
      refine op_assign rfl rfl ?_
      refine endF (XF.thenN ?_)
      refine retF ?_
      refine XF.thenR ?_
      refine XF.res (res1 Try.results3 rfl) ?_
      exact ⟨rfl, (hR2.trans (hR3.mono hR2.size)).trans (hS.below.mono (Nat.le_trans hR2.size hR3.size))⟩
     ·have hg45 := of_decide_eq_false hc; clear hc
      refine op_wantedF (d := 45) rfl rfl ?_
      refine op_field fa_33_0 rfl (Nat.add_zero _) rfl ?_
      refine op_wantedF (d := 45) rfl rfl ?_
      refine op_field fa_28_3 rfl rfl rfl ?_
      refine op_wantedF (d := 45) rfl rfl ?_
      refine op_load Try.isAgg26 rfl (kb7.2.2.2.2.2.1) rfl ?_
      refine op_wantedF (d := 45) rfl rfl ?_
      refine op_len Try.underlying26 rfl rfl ?_
      refine op_wantedF (d := 45) rfl rfl ?_
      refine op_field fa_28_3 rfl rfl rfl ?_
      refine op_wantedF (d := 45) rfl rfl ?_
      refine op_load Try.isAgg26 rfl (kb2.2.2.2.2.2.1) rfl ?_
      refine op_wantedF (d := 45) rfl rfl ?_
      refine op_len Try.underlying26 rfl rfl ?_
      refine op_wantedF (d := 45) rfl rfl ?_
      refine op_geq rfl rfl rfl ?_
      refine op_pickF rfl rfl rfl ?_
      refine op_move rfl rfl ?_
      refine op_cases (d := 55) rfl (fun hc => ?_) (fun hc => absurd (of_decide_eq_false hc) (by exact fun h => h (by have h9 := hge (by omega); omega)))
      have hc := of_decide_eq_true hc
      refine op_wantedF (d := 55) rfl rfl ?_
      refine op_call (vs := []) hS goes_9 rfl (alive_is _ (ht _)) rfl ?_
      rintro e W12 ⟨rfl, hb⟩
      refine ⟨_, rfl, hb, fun hS' => ?_⟩
      clear hS; have hS := hS'; clear hS' hb
      refine op_pickT rfl rfl rfl ?_
      refine op_assign rfl rfl ?_
      refine endF (XF.thenN ?_)
      refine retF ?_
      refine XF.thenR ?_
      refine XF.res (res1 Try.results3 rfl) ?_
      exact ⟨rfl, (hR2.trans (hR3.mono hR2.size)).trans (hS.below.mono (Nat.le_trans hR2.size hR3.size))⟩
    ·have hc42 := of_decide_eq_false hc; clear hc
     obtain ⟨iN, rfl⟩ : ∃ iN : Nat, rule = (iN : Int) := ⟨rule.toNat, by omega⟩
     have hE0 : E = 0 := by omega
     have hki : iN < q.rl := by omega
     obtain ⟨hp0, hfew, rfl, hpl0⟩ := shortD_ok hD hE0
     have hok := hpx3 hp0
     obtain ⟨r, hr⟩ : ∃ r, q.rs[iN]? = some r := by have h9 := hqw3.len; exact ⟨_, List.getElem?_eq_getElem (by omega)⟩
     obtain ⟨qb, qo, hqa, hcs⟩ := hqw3.row.at_ hr
     have kq : W6.cell? ⟨B1, 5, none⟩ = some (.slice (some ⟨qb, qo, none⟩) q.rl q.rc) := by have h9 := kb2.2.2.2.2.2.1; rw [hqa] at h9; exact h9
     have hri := hqw3.rin r (List.mem_of_getElem? hr)
     have hxr := hok.x r (List.mem_of_getElem? hr)
     have hw4 := hok.w4 r (List.mem_of_getElem? hr)
     obtain ⟨x0, hx0⟩ : ∃ x0, px r = x0 := ⟨_, rfl⟩
     obtain ⟨us, bs, z9, y9, hpl9, hus, hbs⟩ := shortF_at (one := oneX S) (px := px) (i := 0) (z := q.st) (y := q.sy) hr
     rw [hx0] at hxr hpl9
     have hrw := hri.row
     have hrl9 := hri.len
     clear hri hx0
     obtain ⟨p0, g0, q0, wa0, wl0, wc0, ws0, y0⟩ := r
     dsimp only [RV.ten] at hcs hw4 hxr hpl9 hrw hrl9
     subst hrl9
     refine skipF ?_
     refine XF.thenN ?_
     refine seqF (regF ?_)
     refine op_field fa_28_3 rfl rfl rfl ?_
     refine op_load Try.isAgg26 rfl (kq) rfl ?_
     refine op_move rfl rfl ?_
     refine op_indexA  Try.underlying26 Try.sizeOf47 rfl rfl rfl (by omega) rfl rfl ?_
     refine op_loadA (vs := [_, _, _, _, _, _, _, _, _, _]) Try.isAgg47 Try.sizeOf47 rfl (hcs) rfl ?_
     refine op_alloc (cs := [_, _, _, _, _, _, _, _, _, _]) hS Try.zeroValue47 rfl rfl ?_
     clear hS; intro B13 W13 hS
     refine op_storeA (i := 0) (vs := [_, _, _, _, _, _, _, _, _, _]) (cs' := [_, _, _, _, _, _, _, _, _, _]) (O' := [_]) hS Try.sizeOf47 rfl rfl rfl rfl rfl rfl rfl ?_
     clear hS; intro W14 hS
     refine endF (XF.thenN ?_)
     refine seqF ?_
     refine regS (ef := 10) (jy := 10) (ca := caNo (fun _ => [.int .i64 0, .slice none 0 0])) (ta := fun _ => 49) (Os := osNo _) (Gs := gsNo _) (al := [8]) (k := 9) (ds := []) followsM rfl hS rfl (by kernel_rfl) (by kernel_rfl) rfl (by decide) rfl (fun _ => none) (.inr ⟨rfl, rfl, rfl⟩) rfl rfl ?_
     refine bls_cons 1 rfl rfl (isV _) (fun hNo => sgV [(9, _)] rfl rfl rfl rfl hNo (w_free rfl) ⟨g_fr (by kernel_rfl) rfl, trivial⟩ (fun ev w he hw => rn_field (o' := 0) fa_47_0 rfl rfl) (at_top rfl)) ?_
     refine bls_cons 2 rfl rfl (isV _) (fun hNo => sgV [(63, _)] rfl rfl rfl rfl hNo (w_free rfl) ⟨g_dep 0 (by kernel_rfl) (at_dep rfl rfl rfl), trivial⟩ (fun ev w he hw => rn_load Try.isAgg3 rfl ((cell_own (hw.at_ 0 rfl) rfl))) (at_top rfl)) ?_
     refine bls_cons 3 rfl rfl (isV _) (fun hNo => sgV [(9, _)] rfl rfl rfl rfl hNo (w_free rfl) ⟨g_fr (by kernel_rfl) rfl, trivial⟩ (fun ev w he hw => rn_field (o' := 1) fa_47_1 rfl rfl) (at_top rfl)) ?_
     refine bls_cons 4 rfl rfl (isV _) (fun hNo => sgV [(65, _)] rfl rfl rfl rfl hNo (w_free rfl) ⟨g_dep 2 (by kernel_rfl) (at_dep rfl rfl rfl), trivial⟩ (fun ev w he hw => rn_load Try.isAgg3 rfl ((cell_own (hw.at_ 0 rfl) rfl))) (at_top rfl)) ?_
     refine bls_cons 5 rfl rfl (isRow W14.heap.size 1 3 _) (fun hNo => sg_rowV (us := [.int .i64 _]) rfl rfl rfl rfl hNo (w_free rfl) Try.underlying29 Try.sizeOf3 Try.zeroValue3 rfl rfl ⟨p_tmp (g_dep 3 (by kernel_rfl) (at_dep rfl rfl rfl)), trivial⟩ (bs_29_1 _) (at_top rfl)) ?_
     refine bls_cons 6 rfl rfl (isV _) (fun hNo => sgV [(2, _)] rfl rfl rfl rfl hNo (w_free rfl) ⟨g_fr (by kernel_rfl) rfl, trivial⟩ (fun ev w he hw => rn_move rfl) (at_top rfl)) ?_
     refine bls_cons 7 rfl rfl (isAppN9 W14.heap.size (g0 :: is2)) (fun hNo => sg_appLit9 (j0 := 4) rfl rfl rfl rfl hNo (by kernel_rfl) rfl rfl (at_dep rfl rfl rfl) (g_dep 5 (by kernel_rfl) (at_dep rfl rfl rfl)) (fun ev w hw => hrk3.below hw.below) hl2 (by omega) (at_top rfl)) ?_
     refine bls_cons 8 rfl rfl (isConfN W14.heap.size p0 (g0 :: is2)) (fun hNo => sg_ofs [(1, 64, isV _), (6, 69, isAppN9 W14.heap.size (g0 :: is2))] rfl rfl rfl rfl hNo ⟨⟨by kernel_rfl, at_dep rfl rfl rfl⟩, ⟨by kernel_rfl, at_dep rfl rfl rfl⟩, trivial⟩ (by kernel_rfl) bld_conf9 (at_top rfl)) ?_
     refine bls_any 9 rfl (sg_alloc rfl rfl rfl rfl rfl Try.zeroValue49 (fun ev he => rfl)) ?_
     refine bls_nil ?_
     intro Bf15 y15 W15 Ks15 hsz15 hKs15 hS' hcov15
     clear hS; have hS := hS'.castO (O' := [_, _]) rfl; clear hS'
     refine castL (L' := [AwS _ _ (isV _), AwS _ _ (isV _), AwS _ _ (isV _), AwS _ _ (isV _), AwS _ _ (isRow W14.heap.size 1 3 _), AwS _ _ (isV _), AwS _ _ (isAppN9 W14.heap.size (g0 :: is2)), AwS _ _ (isConfN W14.heap.size p0 (g0 :: is2)), isV _]) rfl ?_
     refine fin_sV ?_
     refine fin_sV ?_
     refine fin_sV ?_
     refine fin_sV ?_
     refine fin_p ?_; rintro v15_4 hA15_4
     refine fin_sV ?_
     refine fin_p ?_; rintro v15_6 hA15_6
     refine fin_p ?_; rintro vC h8; obtain ⟨ca, cc, rfl, hcw⟩ := h8.here; have hcovC := @hcov15
     refine fin_v ?_
     refine fin_nil ?_
     refine op_storeA (i := 0) (vs := [_, _]) (cs' := [_, _]) (O' := [_, _]) hS Try.sizeOf49 rfl rfl rfl rfl rfl rfl rfl ?_
     clear hS; intro W16 hS
     refine endF (XF.thenN ?_)
     refine seqF ?_
     obtain ⟨cb, rfl⟩ := rowN_addr hcw (by simp)
     have HC : Held _ Ks15 (fun W2 => RowN _ W2 (some ⟨cb, 0, none⟩) cc (g0 :: is2)) := fun h2 hk => confN_row9 (h8 _ (hcovC h2 hk))
     have hcw9 := HC hS (fun q hq => by simp [hq])
     refine regF ?_
     refine op_loadA (vs := [_, _]) Try.isAgg49 Try.sizeOf49 rfl (CellsAt.own (j := 0) (m := 2) (hS.at_ 0 rfl) rfl) rfl ?_
     refine op_loadA (vs := [_, _, _, _, _, _, _, _, _, _]) Try.isAgg47 Try.sizeOf47 rfl (CellsAt.own (j := 0) (m := 10) (hS.at_ 1 rfl) rfl) rfl ?_
     refine op_call (vs := [_, _]) hS goes_10 rfl (stepL_is p0 g0 q0 cb 0 _ cc wa0 _ wc0 ws0 is2 y0.f _ hcw9.row rfl hcw9.cap (hrw.below hS.below) rfl (by simp [hl2]; omega) (by omega)) rfl ?_
     rintro e W17 ⟨wa9, wc9, rfl, hnw, hb⟩
     refine ⟨_, rfl, hb, fun hS' => ?_⟩
     clear hS; have hS := hS'; clear hS'
     clear hb
     obtain ⟨lw9, hlw9⟩ : ∃ n, n = W16.heap.size := ⟨_, rfl⟩
     rw [← hlw9] at hnw hS
     obtain ⟨AW9, hAW9⟩ : ∃ A, A = W17 := ⟨_, rfl⟩
     have HW9 : Held W6 [(lw9, W17)] (fun W2 => RowN lw9 W2 wa9 wc9 (ws0 ++ is2)) := Held.one (p := fun W2 => RowN lw9 W2 wa9 wc9 (ws0 ++ is2)) (fun W2 hg => hnw.agree hg)
     refine op_move rfl rfl ?_
     refine op_extract rfl rfl rfl ?_
     refine op_extract rfl rfl rfl ?_
     refine op_alloc (cs := [_, _]) hS Try.zeroValue49 rfl rfl ?_
     clear hS; intro B18 W18 hS
     refine op_storeA (i := 0) (vs := [_, _]) (cs' := [_, _]) (O' := [_, _, _]) hS Try.sizeOf49 rfl rfl rfl rfl rfl rfl rfl ?_
     clear hS; intro W19 hS
     refine op_assign rfl rfl ?_
     refine endF (XF.thenN ?_)
     refine seqF ?_
     have kb10 := CellsAt.agree hS.agree (Nat.zero_le _) kb2
     refine regF ?_
     refine op_field fa_28_0 rfl (Nat.add_zero _) rfl ?_
     refine op_loadA (vs := [_, _, _]) Try.isAgg25 Try.sizeOf25 rfl ((⟨kb10.1, kb10.2.1, kb10.2.2.1, trivial⟩ : CellsAt _ B1 0 [_, _, _])) rfl ?_
     refine op_call (vs := [_]) hS goes_11 rfl (OneR_ok S q.s.f _ (hok.si.below hS.below) hok.ok) rfl ?_
     rintro e W20 ⟨fO, rfl, hnO, hb⟩
     refine ⟨_, rfl, hb, fun hS' => ?_⟩
     clear hS; have hS := hS'; clear hS'
     clear hb
     have HO9 : FarX (MB W6 [(W19.heap.size, W20)]) S fO (oneX S) := hnO.far.mono (fun W2 hg => hg.2 _ List.mem_cons_self)
     refine op_move rfl rfl ?_
     refine op_extract rfl rfl rfl ?_
     refine op_extract rfl rfl rfl ?_
     refine op_alloc (cs := [_, _, _, _, _, _]) hS Try.zeroValue45 rfl rfl ?_
     clear hS; intro B21 W21 hS
     refine op_storeA (i := 0) (vs := [_, _, _, _, _, _]) (cs' := [_, _, _, _, _, _]) (O' := [_, _, _, _]) hS Try.sizeOf45 rfl rfl rfl rfl rfl rfl rfl ?_
     clear hS; intro W22 hS
     refine op_assign rfl rfl ?_
     refine endF (XF.thenN ?_)
     refine seqF ?_
     refine seqF ?_
     have kb11 := CellsAt.agree hS.agree (Nat.zero_le _) kb7
     refine regF ?_
     refine op_field fa_33_1 rfl rfl rfl ?_
     refine op_load Try.isAgg29 rfl (kb11.2.2.2.2.2.2.1) rfl ?_
     refine op_len Try.underlying29 rfl rfl ?_
     refine op_field fa_33_0 rfl (Nat.add_zero _) rfl ?_
     refine op_field fa_28_3 rfl rfl rfl ?_
     refine op_load Try.isAgg26 rfl (kb11.2.2.2.2.2.1) rfl ?_
     refine op_len Try.underlying26 rfl rfl ?_
     refine op_neq rfl rfl rfl ?_
     refine op_move rfl rfl ?_
     refine op_cases (d := 91) rfl (fun hc => absurd (of_decide_eq_true hc) (by exact fun h => h rfl)) (fun hc => ?_)
     have hc := of_decide_eq_false hc
     refine op_wantedF (d := 91) rfl rfl ?_
     refine op_field fa_33_2 rfl rfl rfl ?_
     refine op_wantedF (d := 91) rfl rfl ?_
     refine op_load Try.isAgg31 rfl (kb11.2.2.2.2.2.2.2.1) rfl ?_
     refine op_wantedF (d := 91) rfl rfl ?_
     refine op_len Try.underlying31 rfl rfl ?_
     refine op_wantedF (d := 91) rfl rfl ?_
     refine op_field fa_33_1 rfl rfl rfl ?_
     refine op_wantedF (d := 91) rfl rfl ?_
     refine op_load Try.isAgg29 rfl (kb11.2.2.2.2.2.2.1) rfl ?_
     refine op_wantedF (d := 91) rfl rfl ?_
     refine op_len Try.underlying29 rfl rfl ?_
     refine op_wantedF (d := 91) rfl rfl ?_
     refine op_neq rfl rfl rfl ?_
     refine op_pickF rfl rfl rfl ?_
     refine endF (XF.thenN ?_)
     refine condF rfl (fun hc => absurd (of_decide_eq_true hc) (by exact fun h => h rfl)) (fun hc => ?_)
     have hc := of_decide_eq_false hc
     refine skipF ?_
     refine XF.thenN ?_
     refine seqF ?_
     have hP1 : ns1.map R9.pl = us ++ partsF (oneX S) ((0 + iN : Nat) : Int) p0 g0 q0 ws0 x0 z9 y9 ++ bs := ho3.pl.trans (hpl0.trans hpl9)
     rw [Nat.zero_add] at hP1 hus hbs
     obtain ⟨ps, hps⟩ : ∃ ps, partsF (oneX S) (iN : Int) p0 g0 q0 ws0 x0 z9 y9 = ps := ⟨_, rfl⟩
     have hP5 : runP ps (p0, g0 :: is2) = some (q0, ws0 ++ is2) := by rw [← hps]; exact runP_parts _ _ _ _ _ _ _ _ _ _
     have hP6 : ∀ (k : Nat) (r : PR), ps[k]? = some r → r.1 = (iN : Int) ∧ r.2.1 = decide (k = 0) ∧ r.2.2.2.2.2.1.length ≤ 2 := fun k r h => by rw [← hps] at h; exact parts_first _ _ _ _ _ _ _ _ _ h
     have hP7 : ps.length = ws0.length - 2 + 1 := by rw [← hps]; exact partsF_len
     have hP8 : ∀ (k : Nat) (r : PR), ps[k]? = some r → extX S (if k = 0 then oneX S else x0) r.2.2.2.2.2.2 = if k + 1 = 0 then oneX S else x0 := fun k r h => by rw [← hps] at h; exact ext_part hok.ok hxr.ok h
     rw [hps] at hP1
     have hn1m : n1 ≤ 1000000 := ho3.max
     have hp4 : ∀ a ∈ ps, a.1 = (iN : Int) := fun a ha => by obtain ⟨k, hk⟩ := List.getElem?_of_mem ha; exact (hP6 k a hk).1
     have hlen9 : n1 = us.length + ps.length + bs.length := by have h9 := congrArg List.length hP1; rw [List.length_map, ho3.len, List.length_append, List.length_append] at h9; exact h9
     refine regF ?_
     refine op_assign rfl rfl ?_
     refine endF (XF.thenN ?_)
     refine seqF ?_
     refine seqF (regF ?_)
     refine op_assign rfl rfl ?_
     refine endF (XF.thenN ?_)
     refine blockF ?_
     refine loopF (fun m l W => ∃ (i k : Nat) (cp : Int) (cw : List Int) (ca : Option Addr) (cc9 : Nat) (fw : WF) (Kk : List (Nat × World)), i ≤ n1 ∧ k = min (i - us.length) ps.length ∧ m = n1 - i ∧ l = [(1, .int .i64 (iN : Int)), (3, .pointer (some ⟨B1, 0, none⟩)), (7, .pointer (some ⟨B5, 0, none⟩)), (9, .pointer (some ⟨B13, 0, none⟩)), (10, .pointer (some ⟨(Bf15 8), 0, none⟩)), (11, .pointer (some ⟨B18, 0, none⟩)), (13, .pointer (some ⟨B21, 0, none⟩)), (15, .int .i64 (k : Int)), (16, .int .i64 (i : Int))] ∧ runP (ps.take k) (p0, g0 :: is2) = some (cp, cw) ∧ cw.length ≤ 51 + k ∧ FarX (MB W6 Kk) S fw (if k = 0 then oneX S else x0) ∧ Held W6 Kk (fun W2 => RowN lw9 W2 wa9 wc9 (ws0 ++ is2) ∧ RowN 0 W2 ca cc9 cw) ∧ St W6 [(B21, fw.six, 45), (B18, [.int .i64 q0, .slice wa9 (ws0 ++ is2).length wc9], 49), ((Bf15 8), [.int .i64 cp, .slice ca cw.length cc9], 49), (B13, [.int .i64 p0, .int .i64 g0, .int .i64 q0, .slice wa0 ws0.length wc0, .bool y0.f.z, .int .i64 y0.f.c, .int .u64 (y0.f.g : Int), .slice y0.f.ra y0.f.rl y0.f.rc, .slice y0.f.ca y0.f.cl y0.f.cc, .slice y0.f.pa y0.f.pl y0.f.pc], 47)] [] Kk W) (n1 - 0) ([(1, _), (3, _), (7, _), (9, _), (10, _), (11, _), (13, _), (15, _), (16, _)]) ⟨rfl, rfl, rfl, rfl, rfl, rfl, rfl, rfl, rfl, trivial⟩ (⟨0, 0, p0, g0 :: is2, some ⟨cb, 0, none⟩, cc, fO, _, Nat.zero_le _, by omega, rfl, rfl, rfl, by rw [List.length_cons]; omega, HO9.keep (fun q hq => by simp at hq; subst hq; simp), (by exact fun h2 hk => ⟨HW9 h2 (fun q hq => hk q (by simp at hq; subst hq; simp)), (HC h2 (fun q hq => hk q (by simp [hq]))).mono (Nat.zero_le _)⟩), hS⟩) ?_
     clear hS
     rintro m l W ⟨i, k, cp, cw, ca, cc9, fw, Kk, hi, hk, rfl, rfl, hrun, hcl, HF, HH, hS⟩
     refine seqF ?_
     refine seqF (regF ?_)
     refine op_move rfl rfl ?_
     refine op_field fa_33_1 rfl rfl rfl ?_
     refine op_load Try.isAgg29 rfl ((CellsAt.agree hS.agree (Nat.zero_le _) kb7).2.2.2.2.2.2.1) rfl ?_
     refine op_len Try.underlying29 rfl rfl ?_
     refine op_lss rfl rfl rfl ?_
     refine endF (XF.thenN ?_)
     refine condF rfl (fun hc => ?_) (fun hc => ?_)
     ·have hc104 := of_decide_eq_true hc; clear hc
      have hk1 : i < n1 := by omega
      obtain ⟨r9, hr9⟩ : ∃ r, ns1[i]? = some r := ⟨_, List.getElem?_eq_getElem (by rw [ho3.len]; exact hk1)⟩
      have kb15 := CellsAt.agree hS.agree (Nat.zero_le _) kb7
      obtain ⟨nb, no, y8, rfl, hny, hnc⟩ := ho3.r2.at1 (i := i) (by rw [List.length_map, ho3.len]; exact hk1)
      obtain rfl : r9.num = y8 := by rw [List.getElem?_map, hr9] at hny; exact Option.some.inj hny
      have k17 := hS.old hnc
      have hpt := part_at hus hp4 hbs (i := i) (r := r9.pl) (by rw [← hP1, List.getElem?_map, hr9]; rfl)
      refine skipF ?_
      refine XF.thenN ?_
      refine seqF ?_
      refine blockF ?_
      refine seqF ?_
      refine seqF (regF ?_)
      refine op_field fa_33_1 rfl rfl rfl ?_
      refine op_load Try.isAgg29 rfl (kb15.2.2.2.2.2.2.1) rfl ?_
      refine op_move rfl rfl ?_
      refine op_indexA  Try.underlying29 Try.sizeOf3 rfl rfl rfl (by omega) rfl rfl ?_
      refine op_load Try.isAgg3 rfl (k17) rfl ?_
      refine op_move rfl rfl ?_
      refine op_neq rfl rfl rfl ?_
      refine endF (XF.thenN ?_)
      refine condF rfl (fun hc => ?_) (fun hc => ?_)
      ·have hc113 := of_decide_eq_true hc; clear hc
       refine exitF ?_
       refine XF.thenX ?_
       refine XF.blkX ?_
       refine XF.thenN ?_
       refine regF ?_
       refine op_move rfl rfl ?_
       refine op_add rfl rfl (IntWalk.i64_in _ (by omega)) rfl ?_
       refine op_assign rfl rfl ?_
       refine endF ?_
       have hne9 : r9.num ≠ (iN : Int) := hc113
       exact XF.round (n1 - (i + 1)) [(1, _), (3, _), (7, _), (9, _), (10, _), (11, _), (13, _), (15, _), (16, _)] (by omega) ⟨rfl, rfl, rfl, rfl, rfl, rfl, rfl, rfl, rfl, trivial⟩ ⟨i + 1, k, cp, cw, ca, cc9, fw, _, by omega, hpt.elim (fun h => absurd h.1 hne9) (fun h => by have h2 := h.2; omega), rfl, rfl, hrun, hcl, HF, HH, hS⟩
      ·have hc113 := of_decide_eq_false hc; clear hc
       have heq9 : r9.num = (iN : Int) := Decidable.of_not_not hc113
       obtain ⟨hge9, hlt9, hpk⟩ : us.length ≤ i ∧ i < us.length + ps.length ∧ ps[k]? = some r9.pl := by
        rcases hpt with ⟨_, h2, h3, h4⟩ | ⟨h1, _⟩
        ·rw [show k = i - us.length by omega]; exact ⟨h2, h3, h4⟩
        ·exact absurd heq9 h1
       have hkp : k < ps.length := (List.getElem?_eq_some_iff.1 hpk).1
       obtain ⟨hcp9, t9, hcw9x, hrun9⟩ := runP_step hP5 hrun hpk
       have hcp9 : cp = r9.p := hcp9
       have hcw9x : cw = r9.g :: t9 := hcw9x
       subst hcp9; subst hcw9x
       obtain ⟨cb9, rfl⟩ := rowN_addr (HH.now hS).2 (by simp)
       obtain ⟨_, hf9, hw9⟩ := hP6 k _ hpk
       have hf9 : r9.first = decide (k = 0) := hf9
       have hw9 : r9.ws.length ≤ 2 := hw9
       obtain ⟨rb, ro, rfl, hrc⟩ := ho3.r1 i r9 hr9
       have hro := ho3.ok S rfl r9 (List.mem_of_getElem? hr9)
       obtain ⟨fb, fo, rfl, hfc⟩ := ho3.r3 i r9.first (by rw [List.getElem?_map, hr9]; rfl)
       have hcl9 : t9.length + 1 ≤ 51 + k := by rw [List.length_cons] at hcl; exact hcl
       have hlt19 := hS.own_lt
       refine skipF ?_
       refine XF.thenN ?_
       refine seqF (regF ?_)
       refine op_assign rfl rfl ?_
       refine endF (XF.thenN ?_)
       refine seqF ?_
       refine regS (ef := 11) (jy := 9) (ca := caNo (fun _ => [])) (ta := fun _ => 0) (Os := osY _ 2 0 (Bf15 8) ([.int .i64 r9.p, .slice (some ⟨cb9, 0, none⟩) (r9.g :: t9).length cc9]) 49) (Gs := gsNo _) (al := []) (k := 12) (ds := [17]) followsM rfl hS rfl (by kernel_rfl) (by kernel_rfl) rfl (by decide) rfl some (.inl ⟨rfl, rfl⟩) rfl rfl ?_
       refine bls_cons 1 rfl rfl (isV _) (fun hNo => sgV [(10, _)] rfl rfl rfl rfl hNo (w_free rfl) ⟨g_fr (by kernel_rfl) rfl, trivial⟩ (fun ev w he hw => rn_loadA (vs := [_, _]) Try.isAgg49 Try.sizeOf49 rfl ((CellsAt.own (j := 0) (m := 2) (hw.at_ 2 (osY_at0 (he rfl) rfl)) rfl))) (at_top rfl)) ?_
       refine bls_cons 2 rfl rfl (isV _) (fun hNo => sgV [(7, _)] rfl rfl rfl rfl hNo (w_free rfl) ⟨g_fr (by kernel_rfl) rfl, trivial⟩ (fun ev w he hw => rn_field fa_33_0 rfl (Nat.add_zero _)) (at_top rfl)) ?_
       refine bls_cons 3 rfl rfl (isV _) (fun hNo => sgV [(116, _)] rfl rfl rfl rfl hNo (w_free rfl) ⟨g_dep 1 (by kernel_rfl) (at_dep rfl rfl rfl), trivial⟩ (fun ev w he hw => rn_field fa_28_3 rfl rfl) (at_top rfl)) ?_
       refine bls_cons 4 rfl rfl (isV _) (fun hNo => sgV [(117, _)] rfl rfl rfl rfl hNo (w_free rfl) ⟨g_dep 2 (by kernel_rfl) (at_dep rfl rfl rfl), trivial⟩ (fun ev w he hw => rn_load Try.isAgg26 rfl (hw.agree.cell (Nat.zero_le _) (kb7.2.2.2.2.2.1))) (at_top rfl)) ?_
       refine bls_cons 5 rfl rfl (isV _) (fun hNo => sgV [(16, _)] rfl rfl rfl rfl hNo (w_free rfl) ⟨g_fr (by kernel_rfl) rfl, trivial⟩ (fun ev w he hw => rn_move rfl) (at_top rfl)) ?_
       refine bls_cons 6 rfl rfl (isV _) (fun hNo => sgV [(118, _), (119, _)] rfl rfl rfl rfl hNo (w_free rfl) ⟨g_dep 3 (by kernel_rfl) (at_dep rfl rfl rfl), g_dep 4 (by kernel_rfl) (at_dep rfl rfl rfl), trivial⟩ (fun ev w he hw => rn_indexA  Try.underlying26 Try.sizeOf47 rfl rfl rfl (by omega) rfl) (at_top rfl)) ?_
       refine bls_cons 7 rfl rfl (isV _) (fun hNo => sgV [(120, _)] rfl rfl rfl rfl hNo (w_free rfl) ⟨g_dep 5 (by kernel_rfl) (at_dep rfl rfl rfl), trivial⟩ (fun ev w he hw => rn_loadA (vs := [_, _, _, _, _, _, _, _, _, _]) Try.isAgg47 Try.sizeOf47 rfl (CellsAt.agree hw.agree (Nat.zero_le _) (hrc))) (at_top rfl)) ?_
       refine bls_cons 8 rfl rfl (isStT W.heap.size r9.q (r9.ws ++ t9)) (fun hNo => sg_call [isV _, isV _] rfl rfl rfl rfl hNo goes_10 (w_free rfl) ⟨p_tmp (g_dep 0 (by kernel_rfl) (at_dep rfl rfl rfl)), p_tmp (g_dep 6 (by kernel_rfl) (at_dep rfl rfl rfl)), trivial⟩ (fun vs ev w' he hSt hlo hh => by
        have e := holds_isV (us := [_, _]) hh
        subst e
        have hrow := (HH hSt (fun q hq => hq)).2
        exact stepL_N hrow.row rfl hrow.cap (hro.w.below hSt.below) rfl (by rw [List.length_cons]; omega) (by omega) hlo) (at_top rfl)) ?_
       refine bls_cons 9 rfl rfl (isStT W.heap.size r9.q (r9.ws ++ t9)) (fun hNo => sg_of (j0 := 7) rfl rfl rfl rfl hNo (by kernel_rfl) rfl rfl (at_dep rfl rfl rfl) of_mv9 (at_top rfl)) ?_
       refine bls_cons 10 rfl rfl (isConfN W.heap.size r9.q (r9.ws ++ t9)) (fun hNo => sg_of (j0 := 8) rfl rfl rfl rfl hNo (by kernel_rfl) rfl rfl (at_dep rfl rfl rfl) of_st0 (at_top rfl)) ?_
       refine bls_cons 11 rfl rfl (isV (.bool true)) (fun hNo => sg_of (j0 := 8) rfl rfl rfl rfl hNo (by kernel_rfl) rfl rfl (at_dep rfl rfl rfl) of_st1 (at_top rfl)) ?_
       refine bls_any 12 rfl (eff_stP (py := isConfN W.heap.size r9.q (r9.ws ++ t9)) (m := 2) 2 0 [(10, _)] rfl rfl rfl rfl (by kernel_rfl) rfl rfl (fun j hj => by rcases hj with h | rfl <;> first | (cases h <;> rfl) | rfl) ⟨g_fr (by kernel_rfl) rfl, trivial⟩ rfl rfl Try.sizeOf49 (fun v w ⟨a, c, e, _⟩ => by subst e; exact ⟨[.int .i64 r9.q, .slice a _ c], rfl, rfl, rfl⟩) rfl) ?_
       refine bls_nil ?_
       intro Bf23 y23 W23 Ks23 hsz23 hKs23 hS' hcov23
       clear hS; have hS := hS'.castO (O' := [_, _, _, _]) rfl; clear hS'
       refine castL (L' := [AwS _ _ (isV _), AwS _ _ (isV _), AwS _ _ (isV _), AwS _ _ (isV _), AwS _ _ (isV _), AwS _ _ (isV _), AwS _ _ (isV _), AwS _ _ (isStT W.heap.size r9.q (r9.ws ++ t9)), AwS _ _ (isStT W.heap.size r9.q (r9.ws ++ t9)), (fun v w => v = _ ∧ AwS _ _ (isConfN W.heap.size r9.q (r9.ws ++ t9)) v w), AwS _ _ (isV (.bool true)), isV _]) rfl ?_
       refine fin_sV ?_
       refine fin_sV ?_
       refine fin_sV ?_
       refine fin_sV ?_
       refine fin_sV ?_
       refine fin_sV ?_
       refine fin_sV ?_
       refine fin_p ?_; intro _ _
       refine fin_p ?_; intro _ _
       refine fin_p ?_; rintro _ ⟨rfl, hA23⟩
       obtain ⟨a19, c19, rfl, _⟩ := hA23.here
       have H19 : Held W6 Ks23 (fun W2 => RowN 0 W2 a19 c19 (r9.ws ++ t9)) := fun h2 hk => (confN_row9 (hA23 _ (hcov23 h2 hk))).mono (Nat.zero_le _)
       obtain ⟨K19, hK19⟩ : ∃ x, x = Ks23 := ⟨_, rfl⟩
       rw [← hK19] at H19 hS
       refine fin_sV ?_
       refine fin_0 ?_
       refine fin_nil ?_
       refine op_assign rfl rfl ?_
       refine endF (XF.thenN ?_)
       refine seqF ?_
       refine seqF ?_
       have kb20 := CellsAt.agree hS.agree (Nat.zero_le _) kb7
       have kr20 := CellsAt.agree hS.agree (Nat.zero_le _) hrc
       refine regF ?_
       refine op_move rfl rfl ?_
       refine op_not rfl rfl ?_
       refine op_move rfl rfl ?_
       refine op_wantedF (d := 127) rfl rfl ?_
       refine op_field fa_33_2 rfl rfl rfl ?_
       refine op_wantedF (d := 127) rfl rfl ?_
       refine op_load Try.isAgg31 rfl (kb20.2.2.2.2.2.2.2.1) rfl ?_
       refine op_wantedF (d := 127) rfl rfl ?_
       refine op_move rfl rfl ?_
       refine op_wantedF (d := 127) rfl rfl ?_
       refine op_indexA  Try.underlying31 Try.sizeOf4 rfl rfl rfl (by omega) rfl rfl ?_
       refine op_wantedF (d := 127) rfl rfl ?_
       refine op_load Try.isAgg4 rfl (hS.old hfc) rfl ?_
       refine op_wantedF (d := 127) rfl rfl ?_
       refine op_move rfl rfl ?_
       refine op_wantedF (d := 127) rfl rfl ?_
       refine op_eql rfl rfl rfl ?_
       refine op_wantedF (d := 127) rfl rfl ?_
       refine op_neqB Try.underlying4 rfl rfl rfl ?_
       refine op_pickF rfl rfl rfl ?_
       refine op_move rfl rfl ?_
       refine op_cases (d := 137) rfl (fun hc => absurd hc (by rw [hf9]; simp)) (fun hc => ?_)
       skip
       refine op_wantedF (d := 137) rfl rfl ?_
       refine op_field fa_33_0 rfl (Nat.add_zero _) rfl ?_
       refine op_wantedF (d := 137) rfl rfl ?_
       refine op_field fa_28_3 rfl rfl rfl ?_
       refine op_wantedF (d := 137) rfl rfl ?_
       refine op_load Try.isAgg26 rfl (kb20.2.2.2.2.2.1) rfl ?_
       refine op_wantedF (d := 137) rfl rfl ?_
       refine op_move rfl rfl ?_
       refine op_wantedF (d := 137) rfl rfl ?_
       refine op_indexA  Try.underlying26 Try.sizeOf47 rfl rfl rfl (by omega) rfl rfl ?_
       refine op_wantedF (d := 137) rfl rfl ?_
       refine op_field fa_47_3 rfl rfl rfl ?_
       refine op_wantedF (d := 137) rfl rfl ?_
       refine op_load Try.isAgg29 rfl (kr20.2.2.2.1) rfl ?_
       refine op_wantedF (d := 137) rfl rfl ?_
       refine op_len Try.underlying29 rfl rfl ?_
       refine op_wantedF (d := 137) rfl rfl ?_
       refine op_gtr rfl rfl rfl ?_
       refine op_pickF rfl rfl rfl ?_
       refine endF (XF.thenN ?_)
       refine condF rfl (fun hc => absurd (of_decide_eq_true hc) (by omega)) (fun hc => ?_)
       have hc := of_decide_eq_false hc
       refine skipF ?_
       refine XF.thenN ?_
       refine seqF ?_
       have hlt22 := hS.own_lt
       have hkr4 : CellsAt W6 rb (ro + i * 10 + 4) r9.f.six := hrc.2.2.2.2
       refine regSL (ef := 15) (jy := 13) (ca := caNo (fun _ => [])) (ta := fun _ => 0) (Os := osY _ 0 0 B21 (fw.six) 45) (Gs := gsNo _) (al := []) (k := 16) (ds := []) followsM rfl hS rfl (by kernel_rfl) rfl (by decide) rfl rfl rfl rfl ?_
       refine bls_cons 1 rfl rfl (isV _) (fun hNo => sgV [(3, _)] rfl rfl rfl rfl hNo (w_free rfl) ⟨g_fr (by kernel_rfl) rfl, trivial⟩ (fun ev w he hw => rn_field fa_28_0 rfl (Nat.add_zero _)) (at_top rfl)) ?_
       refine bls_cons 2 rfl rfl (isV _) (fun hNo => sgV [(149, _)] rfl rfl rfl rfl hNo (w_free rfl) ⟨g_dep 0 (by kernel_rfl) (at_dep rfl rfl rfl), trivial⟩ (fun ev w he hw => rn_loadA (vs := [_, _, _]) Try.isAgg25 Try.sizeOf25 rfl (CellsAt.agree hw.agree (Nat.zero_le _) ((⟨kb2.1, kb2.2.1, kb2.2.2.1, trivial⟩ : CellsAt _ B1 0 [_, _, _])))) (at_top rfl)) ?_
       refine bls_cons 3 rfl rfl (isV _) (fun hNo => sgV [(13, _)] rfl rfl rfl rfl hNo (w_free rfl) ⟨g_fr (by kernel_rfl) rfl, trivial⟩ (fun ev w he hw => rn_loadA (vs := [_, _, _, _, _, _]) Try.isAgg45 Try.sizeOf45 rfl ((CellsAt.own (j := 0) (m := 6) (hw.at_ 0 (osY_at0 (he rfl) rfl)) rfl))) (at_top rfl)) ?_
       refine bls_cons 4 rfl rfl (isV _) (fun hNo => sgV [(7, _)] rfl rfl rfl rfl hNo (w_free rfl) ⟨g_fr (by kernel_rfl) rfl, trivial⟩ (fun ev w he hw => rn_field fa_33_0 rfl (Nat.add_zero _)) (at_top rfl)) ?_
       refine bls_cons 5 rfl rfl (isV _) (fun hNo => sgV [(152, _)] rfl rfl rfl rfl hNo (w_free rfl) ⟨g_dep 3 (by kernel_rfl) (at_dep rfl rfl rfl), trivial⟩ (fun ev w he hw => rn_field fa_28_3 rfl rfl) (at_top rfl)) ?_
       refine bls_cons 6 rfl rfl (isV _) (fun hNo => sgV [(153, _)] rfl rfl rfl rfl hNo (w_free rfl) ⟨g_dep 4 (by kernel_rfl) (at_dep rfl rfl rfl), trivial⟩ (fun ev w he hw => rn_load Try.isAgg26 rfl (hw.agree.cell (Nat.zero_le _) (kb7.2.2.2.2.2.1))) (at_top rfl)) ?_
       refine bls_cons 7 rfl rfl (isV _) (fun hNo => sgV [(16, _)] rfl rfl rfl rfl hNo (w_free rfl) ⟨g_fr (by kernel_rfl) rfl, trivial⟩ (fun ev w he hw => rn_move rfl) (at_top rfl)) ?_
       refine bls_cons 8 rfl rfl (isV _) (fun hNo => sgV [(154, _), (155, _)] rfl rfl rfl rfl hNo (w_free rfl) ⟨g_dep 5 (by kernel_rfl) (at_dep rfl rfl rfl), g_dep 6 (by kernel_rfl) (at_dep rfl rfl rfl), trivial⟩ (fun ev w he hw => rn_indexA  Try.underlying26 Try.sizeOf47 rfl rfl rfl (by omega) rfl) (at_top rfl)) ?_
       refine bls_cons 9 rfl rfl (isV _) (fun hNo => sgV [(156, _)] rfl rfl rfl rfl hNo (w_free rfl) ⟨g_dep 7 (by kernel_rfl) (at_dep rfl rfl rfl), trivial⟩ (fun ev w he hw => rn_field fa_47_4 rfl rfl) (at_top rfl)) ?_
       refine bls_cons 10 rfl rfl (isV _) (fun hNo => sgV [(157, _)] rfl rfl rfl rfl hNo (w_free rfl) ⟨g_dep 8 (by kernel_rfl) (at_dep rfl rfl rfl), trivial⟩ (fun ev w he hw => rn_loadA (vs := [_, _, _, _, _, _]) Try.isAgg45 Try.sizeOf45 rfl (CellsAt.agree hw.agree (Nat.zero_le _) (hkr4))) (at_top rfl)) ?_
       refine bls_cons 11 rfl rfl (isRow W23.heap.size 2 45 _) (fun hNo => sg_rowV (us := [.agg (List.toArray [_, _, _, _, _, _]), .agg (List.toArray [_, _, _, _, _, _])]) rfl rfl rfl rfl hNo (w_free rfl) Try.underlying43 Try.sizeOf45 Try.zeroValue45 rfl rfl ⟨p_tmp (g_dep 2 (by kernel_rfl) (at_dep rfl rfl rfl)), p_tmp (g_dep 9 (by kernel_rfl) (at_dep rfl rfl rfl)), trivial⟩ (bs_43_2 _ _ _ _ _ _ _ _ _ _ _ _) (at_top rfl)) ?_
       refine bls_cons 12 rfl rfl (isXT (MB W6 Kk) W23.heap.size S (if k + 1 = 0 then oneX S else x0)) (fun hNo => sg_call [isV _, isRow W23.heap.size 2 45 _] rfl rfl rfl rfl hNo goes_12 (w_free rfl) ⟨p_tmp (g_dep 1 (by kernel_rfl) (at_dep rfl rfl rfl)), p_tmp (g_dep 10 (by kernel_rfl) (at_dep rfl rfl rfl)), trivial⟩ (fun vs ev w' he hSt hlo hh => by
        obtain ⟨v1, v2, rfl, e1, BR, rfl, hBl, hBh⟩ := holds2 hh
        have e1 : v1 = _ := e1
        subst e1
        exact ext2H (hok.si.below hSt.below) hok.ok HF hro.x (ok_part hok.ok hxr.ok k) (hP8 k _ hpk) (MB.of hSt (fun q hq => List.mem_append_right _ hq)) hBh hlo) (at_top rfl)) ?_
       refine bls_cons 13 rfl rfl (isXT (MB W6 Kk) W23.heap.size S (if k + 1 = 0 then oneX S else x0)) (fun hNo => sg_of (j0 := 11) rfl rfl rfl rfl hNo (by kernel_rfl) rfl rfl (at_dep rfl rfl rfl) of_mv9 (at_top rfl)) ?_
       refine bls_cons 14 rfl rfl (isXK (MB W6 Kk) W23.heap.size S (if k + 1 = 0 then oneX S else x0)) (fun hNo => sg_of (j0 := 12) rfl rfl rfl rfl hNo (by kernel_rfl) rfl rfl (at_dep rfl rfl rfl) of_xt0 (at_top rfl)) ?_
       refine bls_cons 15 rfl rfl (isV (.int .i64 0)) (fun hNo => sg_of (j0 := 12) rfl rfl rfl rfl hNo (by kernel_rfl) rfl rfl (at_dep rfl rfl rfl) of_xt1 (at_top rfl)) ?_
       refine bls_any 16 rfl (eff_stP (py := isXK (MB W6 Kk) W23.heap.size S (if k + 1 = 0 then oneX S else x0)) (m := 6) 0 0 [(13, _)] rfl rfl rfl rfl (by kernel_rfl) rfl rfl (fun j hj => by rcases hj with h | rfl <;> first | (cases h <;> rfl) | rfl) ⟨g_fr (by kernel_rfl) rfl, trivial⟩ rfl rfl Try.sizeOf45 (fun v w ⟨h, e, _⟩ => by subst e; exact ⟨h.six, rfl, rfl, rfl⟩) rfl) ?_
       refine bls_nil ?_
       intro Bf24 y24 W24 Ks24 hsz24 hKs24 hS' hcov24
       clear hS; have hS := hS'.castO (O' := [_, _, _, _]) rfl; clear hS'
       refine castL (L' := [AwS _ _ (isV _), AwS _ _ (isV _), AwS _ _ (isV _), AwS _ _ (isV _), AwS _ _ (isV _), AwS _ _ (isV _), AwS _ _ (isV _), AwS _ _ (isV _), AwS _ _ (isV _), AwS _ _ (isV _), AwS _ _ (isRow W23.heap.size 2 45 _), AwS _ _ (isXT (MB W6 Kk) W23.heap.size S (if k + 1 = 0 then oneX S else x0)), AwS _ _ (isXT (MB W6 Kk) W23.heap.size S (if k + 1 = 0 then oneX S else x0)), (fun v w => v = _ ∧ AwS _ _ (isXK (MB W6 Kk) W23.heap.size S (if k + 1 = 0 then oneX S else x0)) v w), AwS _ _ (isV (.int .i64 0)), isV _]) rfl ?_
       refine fin_sV ?_
       refine fin_sV ?_
       refine fin_sV ?_
       refine fin_sV ?_
       refine fin_sV ?_
       refine fin_sV ?_
       refine fin_sV ?_
       refine fin_sV ?_
       refine fin_sV ?_
       refine fin_sV ?_
       refine fin_p ?_; intro _ _
       refine fin_p ?_; intro _ _
       refine fin_p ?_; intro _ _
       refine fin_p ?_; rintro _ ⟨rfl, hA24⟩
       obtain ⟨f22, rfl, hF22⟩ := hA24.here
       have H22 := far_after hcov24 (xb_lt hlt22 (hlt22 _ List.mem_cons_self)) hF22
       refine fin_sV ?_
       refine fin_0 ?_
       refine fin_nil ?_
       refine endF (XF.thenN ?_)
       refine regF ?_
       refine op_move rfl rfl ?_
       refine op_add rfl rfl (IntWalk.i64_in _ (by omega)) rfl ?_
       refine op_assign rfl rfl ?_
       refine endF ?_
       refine XF.blkN ?_
       refine XF.thenN ?_
       refine regF ?_
       refine op_move rfl rfl ?_
       refine op_add rfl rfl (IntWalk.i64_in _ (by omega)) rfl ?_
       refine op_assign rfl rfl ?_
       refine endF ?_
       exact XF.round (n1 - (i + 1)) [(1, _), (3, _), (7, _), (9, _), (10, _), (11, _), (13, _), (15, _), (16, _)] (by omega) ⟨rfl, rfl, rfl, rfl, rfl, rfl, rfl, rfl, rfl, trivial⟩ ⟨i + 1, k + 1, r9.q, r9.ws ++ t9, a19, c19, f22, _, by omega, by omega, rfl, rfl, hrun9, by rw [List.length_append]; omega, H22.keep (fun q hq => by rcases List.mem_append.1 hq with h | h <;> simp [h]), (by exact fun h2 hk => ⟨(HH h2 (fun q hq => hk q (by simp [hq]))).1, H19 h2 (fun q hq => hk q (by simp [hq]))⟩), hS⟩
     ·have hc104 := of_decide_eq_false hc; clear hc
      have hkl : k = ps.length := by omega
      rw [hkl, List.take_of_length_le (Nat.le_refl _), hP5] at hrun
      obtain ⟨rfl, rfl⟩ := Prod.mk.inj (Option.some.inj hrun)
      have hkpos : 0 < k := by omega
      obtain ⟨hrw9, hrc9⟩ := HH.now hS
      have hxk : (if k = 0 then oneX S else x0) = x0 := if_neg (by omega)
      rw [hxk] at HF
      refine exitF ?_
      refine XF.thenX ?_
      refine XF.thenX ?_
      refine XF.blkX ?_
      refine XF.thenN ?_
      refine seqF (regF ?_)
      refine op_move rfl rfl ?_
      refine op_gtr rfl rfl rfl ?_
      refine op_move rfl rfl ?_
      refine op_cases (d := 167) rfl (fun hc => ?_) (fun hc => absurd (of_decide_eq_false hc) (by omega))
      have hc := of_decide_eq_true hc
      refine op_wantedF (d := 167) rfl rfl ?_
      refine op_loadA (vs := [_, _]) Try.isAgg49 Try.sizeOf49 rfl (CellsAt.own (j := 0) (m := 2) (hS.at_ 2 rfl) rfl) rfl ?_
      refine op_wantedF (d := 167) rfl rfl ?_
      refine op_loadA (vs := [_, _]) Try.isAgg49 Try.sizeOf49 rfl (CellsAt.own (j := 0) (m := 2) (hS.at_ 1 rfl) rfl) rfl ?_
      refine op_wantedF (d := 167) rfl rfl ?_
      refine op_call (vs := [_, _]) hS goes_13 rfl (sameL_eq q0 ca wa9 _ cc9 wc9 (ws0 ++ is2) _ hrc9.row hrw9.row rfl (by rw [List.length_append]; omega)) rfl ?_
      rintro e W25 ⟨rfl, hb⟩
      refine ⟨_, rfl, hb, fun hS' => ?_⟩
      clear hS; have hS := hS'; clear hS' hb
      refine op_pickT rfl rfl rfl ?_
      refine op_move rfl rfl ?_
      refine op_wantedF (d := 172) rfl rfl ?_
      refine op_loadA (vs := [_, _, _, _, _, _]) Try.isAgg45 Try.sizeOf45 rfl (CellsAt.own (j := 0) (m := 6) (hS.at_ 0 rfl) rfl) rfl ?_
      refine op_wantedF (d := 172) rfl rfl ?_
      refine op_field (o' := 4) fa_47_4 rfl rfl rfl ?_
      refine op_wantedF (d := 172) rfl rfl ?_
      refine op_loadA (vs := [_, _, _, _, _, _]) Try.isAgg45 Try.sizeOf45 rfl (CellsAt.own (j := 4) (m := 6) (hS.at_ 3 rfl) rfl) rfl ?_
      refine op_wantedF (d := 172) rfl rfl ?_
      refine op_call (vs := [_, _]) hS goes_14 rfl (sameW_is (HF.is (MB.of hS (fun q hq => by simp [hq]))) (hxr.below hS.below) true ⟨fun _ => rfl, fun _ => rfl⟩) rfl ?_
      rintro e W26 ⟨rfl, hb⟩
      refine ⟨_, rfl, hb, fun hS' => ?_⟩
      clear hS; have hS := hS'; clear hS' hb
      refine op_pickT rfl rfl rfl ?_
      refine op_move rfl rfl ?_
      refine op_wantedF (d := 178) rfl rfl ?_
      refine op_call (vs := []) hS goes_9 rfl (alive_is _ (ht _)) rfl ?_
      rintro e W27 ⟨rfl, hb⟩
      refine ⟨_, rfl, hb, fun hS' => ?_⟩
      clear hS; have hS := hS'; clear hS' hb
      refine op_pickT rfl rfl rfl ?_
      refine op_assign rfl rfl ?_
      refine endF (XF.thenN ?_)
      refine retF ?_
      refine XF.res (res1 Try.results3 rfl) ?_
      exact ⟨rfl, (hR2.trans (hR3.mono hR2.size)).trans (hS.below.mono (Nat.le_trans hR2.size hR3.size))⟩
 ·skip
  refine seqF (regF ?_)
  refine op_move rfl rfl ?_
  refine op_len Try.underlying29 rfl rfl ?_
  refine op_gtr rfl rfl rfl ?_
  refine endF (XF.thenN ?_)
  refine condF rfl (fun hc => ?_) (fun hc => ?_)
  ·have hc22 := of_decide_eq_true hc; clear hc
   have hla := addr_row9 hrla (by omega)
   refine regF ?_
   refine op_move rfl rfl ?_
   refine op_sliceTo (k := 50) Try.underlying29 Try.sizeOf3 rfl rfl (by decide) (by omega) (by omega) hla rfl ?_
   refine op_assign rfl rfl ?_
   refine endF ?_
   exact XF.join [(1, _), (2, _), (3, _)] ⟨rfl, rfl, rfl, trivial⟩ ⟨50, ks.take 50, rfl, by rw [List.length_take]; omega, Nat.le_refl _, by omega, row_take9 hrla 50, hS.keep [(lo9, A9)] (fun q hq => by simp at hq; subst hq; simp [hA9])⟩
  ·have hc22 := of_decide_eq_false hc; clear hc
   refine skipF ?_
   exact XF.join [(1, _), (2, _), (3, _)] ⟨rfl, rfl, rfl, trivial⟩ ⟨ll, ks, rfl, hll, by omega, hlc, hrla, hS.keep [(lo9, A9)] (fun q hq => by simp at hq; subst hq; simp [hA9])⟩
theorem pdsSteps_walk (n : Nat) (p : PV) (rule : Int) (la : Option Addr) (ll lc : Nat) (ks : List Int) (w : World) (hp : PvIn w n n p ∧ PvCap p) (ha : (Lit.int .i64 rule).wf = true) (hl : Row w la ks ∧ ks.length = ll ∧ ll ≤ lc ∧ ll ≤ 9223372036854775807) : Calls Try.prog 3 #[p.val, .int .i64 rule, .slice la ll lc] w (fun e w' => e = .returned (.bool (true)) ∧ Below w.heap.size w w') := by
 cases n with
 | zero => exact hp.1.s.elim
 | succ n => exact pdsSteps_walk0 n (n + 1) p rule la ll lc ks w hp.1 ⟨hp.2.s, hp.2.r⟩ hp.2.rl hl.1 hl.2.1 hl.2.2.1 hl.2.2.2 tabs_none
end Go.Proofs.Ytpkcaabbcoiiiaa
