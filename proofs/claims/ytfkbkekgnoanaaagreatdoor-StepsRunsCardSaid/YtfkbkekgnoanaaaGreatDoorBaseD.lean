import Derived.Orders
import Derived.Below
import Derived.Deep.RegionHeld
import Derived.WalkKit
import Derived.KernelRfl
import Derived.Laws.Rows
import Derived.Laws.AppendOwn
import Derived.Laws.Strings
import Derived.Laws.Small
import Derived.Lib.Hide
import Derived.IntWalk
import Derived.Laws.Tables
import Derived.Laws.Concat
import Derived.Laws.MakeOwn
import Derived.Test.YtfkbkekgnoanaaaGreatDoorProg
import Derived.Test.YtfkbkekgnoanaaaGreatDoorRows
import Derived.Lib.LaidTab
import Derived.Lib.ItoaNum
import Derived.Lib.TrailingZeros
import Derived.Stop.LaidErr
import Derived.WalkSmall
import Derived.LaidMore
import Derived.Shelf.Spec.TrailingZeros
import Derived.Laws.BitsAllLaws
import Derived.Laws.Bits64
import Derived.Deep.QuietTactic
import Derived.BigQuiet
import Derived.RegionTactic
import Derived.BigRegion
import Derived.Deep.RegionHeld3
import Derived.ChangeAlike
import Derived.RangeFuncNested
import Derived.RangeFuncBound
import Derived.RangeFuncCalls
import Derived.RangeFuncLeaves
import Derived.Shelf.Abstract
import Derived.Shelf.RegionOpen
import Derived.OwnWalkIn
import Derived.TacticsInMore
import Derived.LoopNIn
import Derived.LoopIn
import Derived.Laws.Bits128
import Derived.Deep.AppendLies
import Derived.Maps.AppendAt
import Derived.Shelf.Strconv.Itoa0
import Derived.Shelf.Strconv.Itoa1
import Derived.Shelf.LaysM
import Derived.Shelf.Strconv.Itoa2
import Derived.Shelf.Strconv.AppendUint10
import Derived.Shelf.Strconv.AppendInt10
import Derived.Shelf.Strconv.AppendIntPublic10
import Derived.Shelf.Slices.Reverse
import Derived.Ground.Names2Prog
import Derived.Shelf.Slices.Clone
import Derived.Shelf.Slices.Cells
import Derived.Ground.SlgnProg
import Derived.Shelf.SlicesE.Clone
import Derived.Lib.OthersKept
import Derived.Laws.IdiomStrings
import Derived.StillTailTactics
import Derived.Deep.RegionLaw
import Derived.Deep.DeepCutAuto
import Derived.Deep.CutRange
import Derived.Deep.RegionWith
import Derived.Laws.Bits64b
import Derived.Deep.DrawnRows
import Derived.Lib.SliceRun
import Derived.Laws.OwnMore
import Derived.OwnWalk
import Derived.WalkSpells
import Derived.Lib.Join
import Derived.Lib.OwnBridge
import Derived.Test.YtfkbkekgnoanaaaGreatDoorBaseA
import Derived.Test.YtfkbkekgnoanaaaGreatDoorBaseB
import Derived.Test.YtfkbkekgnoanaaaGreatDoorBaseC
set_option linter.unusedVariables false
set_option linter.unusedSimpArgs false
set_option linter.unusedSectionVars false
set_option linter.unnecessarySimpa false
namespace Go.Proofs.YtfkbkekgnoanaaaGreatDoor
open Go Go.RowKit
set_option linter.unusedVariables false
theorem has_bit {f k : Nat} (hk : k < 64) : hasB f (k : Int) = f.testBit k := by
  unfold hasB
  rw [decide_eq_true (by omega), decide_eq_true (by omega), Int.toNat_natCast]
  rfl
theorem flat_step {xs : List Cl} {k : Nat} {c : Cl} (h : xs[k]? = some c) : flat (xs.take (k + 1)) = flat (xs.take k) ++ vals c := by
  rw [List.take_add_one, h]; exact flat_snoc _ _

set_option maxRecDepth 100000 in
set_option maxHeartbeats 4000000 in
theorem behindR_is (a : Option Addr) (cap len : Nat) (row : List Cl) (c : Cl) (w : World) (hlen : row.length = len) (hm : len ≤ 64) (hra : CRow w a row) (hok : ∀ (i : Nat) x, row[i]? = some x → x.ok) (hc : c.ok) :
    Calls Tryz.prog 58 #[.slice a len cap, c.val] w (fun e w' => e = .returned (ofC row c).val ∧ Below w.heap.size w w') := by
  refine enterF (args := [.slice a len cap, c.val]) Tryz.func58 rfl Tryz.ntmps58 rfl ?_
  have hS := St.start w
  refine seqF ?_
  refine regF ?_
  refine op_box (cs := [_, _, _]) hS rfl rfl rfl ?_
  clear hS; intro B1 W1 hS
  refine op_alloc (cs := [_, _, _]) hS Tryz.zeroValue89 rfl rfl ?_
  clear hS; intro B2 W2 hS
  refine endF ?_
  refine XF.thenN ?_
  refine seqF ?_
  refine regF ?_
  refine op_field (o' := 1) fa_89_1 rfl rfl rfl ?_
  refine op_load Tryz.isAgg87 rfl (cell_own (hS.at_ 1 rfl) rfl) rfl ?_
  refine op_field (o' := 2) fa_89_2 rfl rfl rfl ?_
  refine op_load Tryz.isAgg2 rfl (cell_own (hS.at_ 1 rfl) rfl) rfl ?_
  refine op_build (us := [(1, .int .i64 _), (2, .int .i64 _)]) rfl (bld_89_1_2 _ _) rfl ?_
  refine op_alloc (cs := [_, _, _]) hS Tryz.zeroValue89 rfl rfl ?_
  clear hS; intro B3 W3 hS
  refine op_storeA (i := 0) (vs := [_, _, _]) (cs' := [_, _, _]) (O' := [_, _, _]) hS Tryz.sizeOf89 rfl rfl rfl rfl rfl rfl rfl ?_
  clear hS; intro W4 hS
  refine endF ?_
  refine XF.thenN ?_
  refine seqF ?_
  refine seqF ?_
  refine regF ?_
  refine op_assign rfl rfl ?_
  refine endF ?_
  refine XF.thenN ?_
  refine blockF ?_
  refine loopF (fun q l W => ∃ k : Nat, k ≤ len ∧ q = len - k ∧ l = [(0, .slice a len cap), (3, .pointer (some ⟨B1, 0, none⟩)), (4, .pointer (some ⟨B2, 0, none⟩)), (5, .pointer (some ⟨B3, 0, none⟩)), (6, .int .i64 (k : Int))] ∧ St w [(B3, [.int .u64 ((ofTo row c k).f : Int), .int .i64 (ofTo row c k).k, .int .i64 (ofTo row c k).v], 89), (B2, [.int .u64 0, .int .i64 0, .int .i64 0], 89), (B1, [.int .u64 (c.f : Int), .int .i64 c.k, .int .i64 c.v], 89)] [] [] W) (len - 0) ([(0, _), (3, _), (4, _), (5, _), (6, _)]) ⟨rfl, rfl, rfl, rfl, rfl, trivial⟩ (⟨0, Nat.zero_le _, rfl, rfl, hS.clear⟩) ?_
  clear hS
  rintro q l W ⟨k, hkm, rfl, rfl, hS⟩
  refine seqF ?_
  refine seqF ?_
  refine regF ?_
  refine op_move rfl rfl ?_
  refine op_move rfl rfl ?_
  refine op_len Tryz.underlying45 rfl rfl ?_
  refine op_lss rfl rfl rfl ?_
  refine endF ?_
  refine XF.thenN ?_
  refine condF rfl (fun hc => ?_) (fun hc => ?_)
  · have hc15 := of_decide_eq_true hc; clear hc
    have hk : k < len := by omega
    obtain ⟨ba, offa, x, rfl, hx, hba, a0, a1, a2⟩ := (hra.below hS.below).at_ (k := k) (by omega)
    have k1 : CellsAt W ba (offa + k * 3) [.int .u64 (x.f : Int), .int .i64 x.k, .int .i64 x.v] := ⟨a0, a1, a2, trivial⟩
    refine skipF ?_
    refine XF.thenN ?_
    refine seqF ?_
    refine blockF ?_
    refine seqF ?_
    refine regF ?_
    refine op_field (o' := 0) fa_89_0 rfl rfl rfl ?_
    refine op_load Tryz.isAgg41 rfl (cell_own (hS.at_ 2 rfl) rfl) rfl ?_
    refine op_move rfl rfl ?_
    refine op_call (vs := [_, _]) hS goes_76 rfl (hasR_is c.f (k : Int) (c.f.testBit k) (has_bit (by omega)) hc.1 _) rfl ?_
    rintro e W5 ⟨rfl, rfl⟩
    refine ⟨_, rfl, Below.refl _ _, fun hS' => ?_⟩
    clear hS; have hS := hS'; clear hS'
    refine endF ?_
    refine XF.thenN ?_
    refine condF rfl (fun hc => ?_) (fun hc => ?_)
    · have hc21 := hc; clear hc
      refine regBK followsM 6 hS rfl rfl (by kernel_rfl) (by kernel_rfl) (by kernel_rfl) (fun d hd => by cases hd) ?_
      refine bl_cons 1 rfl (isV _) (stab_isV _) (rgV (li := [(5, _)]) rfl (w_free rfl) ⟨g_fr (by kernel_rfl) rfl, trivial⟩ (fun w hw => rn_loadA (vs := [_, _, _]) Tryz.isAgg89 Tryz.sizeOf89 rfl (CellsAt.agree (below_agree hw 0) (Nat.zero_le _) (CellsAt.own (j := 0) (m := 3) (hS.at_ 0 rfl) rfl))) (at_top rfl)) ?_
      refine bl_cons 2 rfl (isV _) (stab_isV _) (rgV (li := [(0, _)]) rfl (w_free rfl) ⟨g_fr (by kernel_rfl) rfl, trivial⟩ (fun w hw => rn_move rfl) (at_top rfl)) ?_
      refine bl_cons 3 rfl (isV _) (stab_isV _) (rgV (li := [(6, _)]) rfl (w_free rfl) ⟨g_fr (by kernel_rfl) rfl, trivial⟩ (fun w hw => rn_move rfl) (at_top rfl)) ?_
      refine bl_cons 4 rfl (isV _) (stab_isV _) (rgV (li := [(23, _), (24, _)]) rfl (w_free rfl) ⟨g_dep 1 (by kernel_rfl) (at_dep rfl rfl rfl), g_dep 2 (by kernel_rfl) (at_dep rfl rfl rfl), trivial⟩ (fun w hw => rn_indexA  Tryz.underlying45 Tryz.sizeOf89 rfl rfl rfl (by omega) rfl) (at_top rfl)) ?_
      refine bl_cons 5 rfl (isV _) (stab_isV _) (rgV (li := [(25, _)]) rfl (w_free rfl) ⟨g_dep 3 (by kernel_rfl) (at_dep rfl rfl rfl), trivial⟩ (fun w hw => rn_loadA (vs := [_, _, _]) Tryz.isAgg89 Tryz.sizeOf89 rfl (CellsAt.agree (below_agree hw 0) (Nat.zero_le _) (by assumption))) (at_top rfl)) ?_
      refine bl_cons 6 rfl (isV (join (ofTo row c k) x).val) (stab_isV _) (rg_call [isV _, isV _] rfl goes_77 (w_free rfl) ⟨p_tmp (g_dep 0 (by kernel_rfl) (at_dep rfl rfl rfl)), p_tmp (g_dep 4 (by kernel_rfl) (at_dep rfl rfl rfl)), trivial⟩ (fun vs w' hb hh => by have e := holds_isV (us := [_, _]) hh; subst e; exact (jn_any (ofTo row c k) x (ofTo_ok hc hok k) (hok k x hx) _).mono fun e w2 h => ⟨_, h.1, rfl, h.2⟩) (at_top rfl)) ?_
      refine bl_nil ?_
      intro W6 hbR hS'
      clear hS; have hS := hS'; clear hS'
      refine fin_v ?_
      refine fin_v ?_
      refine fin_v ?_
      refine fin_v ?_
      refine fin_v ?_
      refine fin_v ?_
      refine fin_nil ?_
      refine op_storeA (i := 0) (vs := [_, _, _]) (cs' := [_, _, _]) (O' := [_, _, _]) hS Tryz.sizeOf89 rfl rfl rfl rfl rfl rfl rfl ?_
      clear hS; intro W7 hS
      refine endF ?_
      refine XF.blkN ?_
      refine XF.thenN ?_
      refine regF ?_
      refine op_move rfl rfl ?_
      refine op_add rfl rfl (IntWalk.i64_in _ (by omega)) rfl ?_
      refine op_assign rfl rfl ?_
      refine endF ?_
      exact XF.round (len - (k + 1)) [(0, _), (3, _), (4, _), (5, _), (6, _)] (by omega) ⟨rfl, rfl, rfl, rfl, rfl, trivial⟩ ⟨k + 1, by omega, rfl, rfl, by rw [ofTo_yes hc21 hx]; exact hS.clear⟩
    · have hc21 := hc; clear hc
      refine skipF ?_
      refine XF.blkN ?_
      refine XF.thenN ?_
      refine regF ?_
      refine op_move rfl rfl ?_
      refine op_add rfl rfl (IntWalk.i64_in _ (by omega)) rfl ?_
      refine op_assign rfl rfl ?_
      refine endF ?_
      exact XF.round (len - (k + 1)) [(0, _), (3, _), (4, _), (5, _), (6, _)] (by omega) ⟨rfl, rfl, rfl, rfl, rfl, trivial⟩ ⟨k + 1, by omega, rfl, rfl, by rw [ofTo_no hc21]; exact hS.clear⟩
  · have hc15 := of_decide_eq_false hc; clear hc
    refine exitF ?_
    refine XF.thenX ?_
    refine XF.thenX ?_
    refine XF.blkX ?_
    refine XF.thenN ?_
    refine seqF ?_
    refine regF ?_
    refine op_loadA (vs := [_, _, _]) Tryz.isAgg89 Tryz.sizeOf89 rfl (CellsAt.own (j := 0) (m := 3) (hS.at_ 0 rfl) rfl) rfl ?_
    refine op_storeA (i := 1) (vs := [_, _, _]) (cs' := [_, _, _]) (O' := [_, _, _]) hS Tryz.sizeOf89 rfl rfl rfl rfl rfl rfl rfl ?_
    clear hS; intro W8 hS
    refine endF ?_
    refine XF.thenN ?_
    refine retF ?_
    refine XF.res (resC1 (vs := [_, _, _]) Tryz.results58 Tryz.isAgg89 Tryz.sizeOf89 rfl (CellsAt.own (j := 0) (m := 3) (hS.at_ 1 rfl) rfl)) ?_
    have e1 : row.length = k := by omega
    exact ⟨by unfold ofC; rw [e1], hS.below⟩
end Go.Proofs.YtfkbkekgnoanaaaGreatDoor
namespace Go.Proofs.YtfkbkekgnoanaaaGreatDoor
open Go Go.RowKit
set_option linter.unusedVariables false
section
variable {w W : World} {k : Nat} {n : Int} {f g : WF} {x y : PF}
theorem ext_f2R (hx : PIs w 2 n f x) (hy : PIs w 2 n g y) (hf : f.z = false) (hg : g.z = false) (p0 : 0 ≤ f.c) (p1 : f.c ≤ n) (q0 : 0 ≤ g.c) (q1 : g.c ≤ n) : PNew k W 2 n (costF (min (f.c + g.c) n)) (extP 2 n x y) := by
  obtain ⟨rfl, _, _⟩ := hx.k2 hf
  obtain ⟨rfl, _, _⟩ := hy.k2 hg
  rw [ext_2]
  exact new_cost (.cost _ rfl (by omega) (by omega))
theorem ext_f4C {m : Nat} {a : Option Addr} {cap : Nat} (hx : PIs w 4 m f x) (hy : PIs w 4 m g y) (hf : f.z = false) (hg : g.z = false) (hv : CRow W a (thenC f.cells g.cells)) (hl : ∀ ad, a = some ad → k ≤ ad.block) : PNew k W 4 m (cellsF a cap (thenC f.cells g.cells)) (extP 4 m x y) := by
  obtain ⟨hx', h0⟩ := hx.k4 hf
  obtain ⟨hy', h1⟩ := hy.k4 hg
  have hv2 := val_then h0 h1
  rw [hx', hy', ext_4]
  exact new_cells (.cells m _ rfl rfl hv2) hv2.bits (by have := hv2.le; have := hv2.len; unfold maxLen; omega) hv hl
end
set_option maxRecDepth 100000 in
set_option maxHeartbeats 4000000 in
theorem thenR_plain (t n : Int) (sa : Option Addr) (sc : Nat) (f g : WF) (x y : PF) (w : World) (hp : plainB t n 0 = true) (hx : PIs w t n f x) (hy : PIs w t n g y) :
    Calls Tryz.prog 41 #[.agg #[.int .i64 t, .int .i64 n, .slice sa 0 sc], f.val, g.val] w (WRet (.one t n) (.one (extP t n x y)) w) := by
  refine enterF (args := [.agg #[.int .i64 t, .int .i64 n, .slice sa 0 sc], f.val, g.val]) Tryz.func41 rfl Tryz.ntmps41 rfl ?_
  have hS := St.start w
  refine seqF ?_
  refine regF ?_
  refine op_box (cs := [_, _, _]) hS rfl rfl rfl ?_
  clear hS; intro B1 W1 hS
  refine op_box (cs := [_, _, _, _, _, _]) hS rfl rfl rfl ?_
  clear hS; intro B2 W2 hS
  refine op_box (cs := [_, _, _, _, _, _]) hS rfl rfl rfl ?_
  clear hS; intro B3 W3 hS
  refine op_alloc (cs := [_, _, _, _, _, _]) hS Tryz.zeroValue48 rfl rfl ?_
  clear hS; intro B4 W4 hS
  refine endF ?_
  refine XF.thenN ?_
  refine seqF ?_
  refine seqF ?_
  refine regF ?_
  refine op_field (o' := 0) fa_48_0 rfl rfl rfl ?_
  refine op_load Tryz.isAgg4 rfl (cell_own (hS.at_ 2 rfl) rfl) rfl ?_
  refine op_move rfl rfl ?_
  refine op_cases (d := 11) rfl (fun hc => ?_) (fun hc => ?_)
  · have hg11 := hc; clear hc
    have hz := hg11
    refine op_notF (d := 11) rfl rfl rfl rfl ?_
    refine op_notF (d := 11) rfl rfl rfl rfl ?_
    refine op_pickT rfl rfl rfl ?_
    refine endF ?_
    refine XF.thenN ?_
    refine condT rfl ?_
    refine seqF ?_
    refine regF ?_
    refine op_build (us := [(0, .bool _)]) rfl (bld_48_0 _) rfl ?_
    refine op_storeA (i := 0) (vs := [_, _, _, _, _, _]) (cs' := [_, _, _, _, _, _]) (O' := [_, _, _, _]) hS Tryz.sizeOf48 rfl rfl rfl rfl rfl rfl rfl ?_
    clear hS; intro W5 hS
    refine endF ?_
    refine XF.thenN ?_
    refine retF ?_
    refine XF.thenR ?_
    refine XF.res (resC1 (vs := [_, _, _, _, _, _]) Tryz.results41 Tryz.isAgg48 Tryz.sizeOf48 rfl (CellsAt.own (j := 0) (m := 6) (hS.at_ 0 rfl) rfl)) ?_
    exact ext_zL hx hz hS.below
  · have hg11 := hc; clear hc
    have hf := hg11
    refine op_wantedF (d := 11) rfl rfl ?_
    refine op_field (o' := 0) fa_48_0 rfl rfl rfl ?_
    refine op_wantedF (d := 11) rfl rfl ?_
    refine op_load Tryz.isAgg4 rfl (cell_own (hS.at_ 1 rfl) rfl) rfl ?_
    refine op_pickF rfl rfl rfl ?_
    refine endF ?_
    refine XF.thenN ?_
    refine condF rfl (fun hc => ?_) (fun hc => ?_)
    · have hc14 := hc; clear hc
      refine seqF ?_
      refine regF ?_
      refine op_build (us := [(0, .bool _)]) rfl (bld_48_0 _) rfl ?_
      refine op_storeA (i := 0) (vs := [_, _, _, _, _, _]) (cs' := [_, _, _, _, _, _]) (O' := [_, _, _, _]) hS Tryz.sizeOf48 rfl rfl rfl rfl rfl rfl rfl ?_
      clear hS; intro W6 hS
      refine endF ?_
      refine XF.thenN ?_
      refine retF ?_
      refine XF.thenR ?_
      refine XF.res (resC1 (vs := [_, _, _, _, _, _]) Tryz.results41 Tryz.isAgg48 Tryz.sizeOf48 rfl (CellsAt.own (j := 0) (m := 6) (hS.at_ 0 rfl) rfl)) ?_
      exact ext_zR hy hc14 hS.below
    · have hc14 := hc; clear hc
      have hg := hc14
      refine skipF ?_
      refine XF.thenN ?_
      refine seqF ?_
      refine regF ?_
      refine op_build (us := []) rfl (bld_48) rfl ?_
      refine op_alloc (cs := [_, _, _, _, _, _]) hS Tryz.zeroValue48 rfl rfl ?_
      clear hS; intro B7 W7 hS
      refine op_storeA (i := 0) (vs := [_, _, _, _, _, _]) (cs' := [_, _, _, _, _, _]) (O' := [_, _, _, _, _]) hS Tryz.sizeOf48 rfl rfl rfl rfl rfl rfl rfl ?_
      clear hS; intro W8 hS
      refine endF ?_
      refine XF.thenN ?_
      refine seqF ?_
      refine seqF ?_
      refine regF ?_
      refine op_field (o' := 0) fa_25_0 rfl rfl rfl ?_
      refine op_load Tryz.isAgg22 rfl (cell_own (hS.at_ 4 rfl) rfl) rfl ?_
      refine endF ?_
      refine XF.thenN ?_
      refine blockF ?_
      refine seqF ?_
      refine regF ?_
      refine op_eql rfl rfl rfl ?_
      refine op_assign rfl rfl ?_
      refine endF ?_
      refine XF.thenN ?_
      refine condF rfl (fun hc => ?_) (fun hc => ?_)
      · have hc19 := of_decide_eq_true hc; clear hc
        have e2 : t = 2 := hc19
        subst e2
        obtain ⟨_, p0, p1⟩ := hx.k2 hf
        obtain ⟨_, q0, q1⟩ := hy.k2 hg
        obtain ⟨d0, d1, _⟩ := plainB_dim hp
        refine regF ?_
        refine op_field (o' := 1) fa_48_1 rfl rfl rfl ?_
        refine op_load Tryz.isAgg3 rfl (cell_own (hS.at_ 3 rfl) rfl) rfl ?_
        refine op_field (o' := 1) fa_48_1 rfl rfl rfl ?_
        refine op_load Tryz.isAgg3 rfl (cell_own (hS.at_ 2 rfl) rfl) rfl ?_
        refine op_add rfl rfl (IntWalk.i64_in _ (by omega)) rfl ?_
        refine op_field (o' := 1) fa_25_1 rfl rfl rfl ?_
        refine op_load Tryz.isAgg3 rfl (cell_own (hS.at_ 4 rfl) rfl) rfl ?_
        refine op_min rfl rfl rfl ?_
        refine op_field (o' := 1) fa_48_1 rfl rfl rfl ?_
        refine op_store (i := 0) (cs' := [_, _, _, _, _, _]) (O' := [_, _, _, _, _]) hS Tryz.sizeOf3 rfl rfl rfl rfl rfl rfl rfl ?_
        clear hS; intro W9 hS
        refine endF ?_
        refine XF.blkN ?_
        refine XF.thenN ?_
        refine seqF ?_
        refine regF ?_
        refine op_loadA (vs := [_, _, _, _, _, _]) Tryz.isAgg48 Tryz.sizeOf48 rfl (CellsAt.own (j := 0) (m := 6) (hS.at_ 0 rfl) rfl) rfl ?_
        refine op_storeA (i := 1) (vs := [_, _, _, _, _, _]) (cs' := [_, _, _, _, _, _]) (O' := [_, _, _, _, _]) hS Tryz.sizeOf48 rfl rfl rfl rfl rfl rfl rfl ?_
        clear hS; intro W10 hS
        refine endF ?_
        refine XF.thenN ?_
        refine retF ?_
        refine XF.res (resC1 (vs := [_, _, _, _, _, _]) Tryz.results41 Tryz.isAgg48 Tryz.sizeOf48 rfl (CellsAt.own (j := 0) (m := 6) (hS.at_ 1 rfl) rfl)) ?_
        exact wret_one (ext_f2R hx hy hf hg p0 p1 q0 q1) hS.below
      · have hc19 := of_decide_eq_false hc; clear hc
        refine seqF ?_
        refine regF ?_
        refine op_eql rfl rfl rfl ?_
        refine op_assign rfl rfl ?_
        refine endF ?_
        refine XF.thenN ?_
        refine condF rfl (fun hc => ?_) (fun hc => ?_)
        · have hc30 := of_decide_eq_true hc; clear hc
          have e3 : t = 3 := hc30
          subst e3
          obtain ⟨m, rfl, hm⟩ := dim3 hp (.inl rfl)
          refine regF ?_
          refine op_field (o' := 1) fa_25_1 rfl rfl rfl ?_
          refine op_load Tryz.isAgg3 rfl (cell_own (hS.at_ 4 rfl) rfl) rfl ?_
          refine op_field (o' := 2) fa_48_2 rfl rfl rfl ?_
          refine op_loadA (vs := [_, _]) Tryz.isAgg44 Tryz.sizeOf44 rfl (CellsAt.own (j := 2) (m := 2) (hS.at_ 3 rfl) rfl) rfl ?_
          refine op_field (o' := 2) fa_48_2 rfl rfl rfl ?_
          refine op_loadA (vs := [_, _]) Tryz.isAgg44 Tryz.sizeOf44 rfl (CellsAt.own (j := 2) (m := 2) (hS.at_ 2 rfl) rfl) rfl ?_
          have hsz := hS.below.size
          refine op_call (vs := [_, _, _]) hS goes_57 rfl (extR_is _ _ _ _ _ _ _ _ _ _ (hx.at_.fat (by have := hx.rows64 (l := 0); omega) |>.below hS.below) (hy.at_.fat (by have := hy.rows64 (l := 0); omega) |>.below hS.below) _ rfl _ rfl _ rfl _ _ hx.at_.rl hy.at_.rl) rfl ?_
          rintro e W11 ⟨a1, c1, rfl, hv, hl, hb⟩
          refine ⟨_, rfl, hb, fun hS' => ?_⟩
          clear hS; have hS := hS'; clear hS'
          refine op_move rfl rfl ?_
          refine op_extract rfl rfl rfl ?_
          refine op_extract rfl rfl rfl ?_
          refine op_field (o' := 2) fa_48_2 rfl rfl rfl ?_
          refine op_storeA (i := 0) (vs := [_, _]) (cs' := [_, _, _, _, _, _]) (O' := [_, _, _, _, _]) hS Tryz.sizeOf44 rfl rfl rfl rfl rfl rfl rfl ?_
          clear hS; intro W12 hS
          refine endF ?_
          refine XF.blkN ?_
          refine XF.thenN ?_
          refine seqF ?_
          refine regF ?_
          refine op_loadA (vs := [_, _, _, _, _, _]) Tryz.isAgg48 Tryz.sizeOf48 rfl (CellsAt.own (j := 0) (m := 6) (hS.at_ 0 rfl) rfl) rfl ?_
          refine op_storeA (i := 1) (vs := [_, _, _, _, _, _]) (cs' := [_, _, _, _, _, _]) (O' := [_, _, _, _, _]) hS Tryz.sizeOf48 rfl rfl rfl rfl rfl rfl rfl ?_
          clear hS; intro W13 hS
          refine endF ?_
          refine XF.thenN ?_
          refine retF ?_
          refine XF.res (resC1 (vs := [_, _, _, _, _, _]) Tryz.results41 Tryz.isAgg48 Tryz.sizeOf48 rfl (CellsAt.own (j := 0) (m := 6) (hS.at_ 1 rfl) rfl)) ?_
          exact wret_one (ext_f3 hx hy hf hg (hv.agree (fun ad e => (hl ad e).1) (hS.since 0 rfl)) (fun ad e => Nat.le_trans hsz (hl ad e).1)) hS.below
        · have hc30 := of_decide_eq_false hc; clear hc
          refine seqF ?_
          refine regF ?_
          refine op_eql rfl rfl rfl ?_
          refine op_assign rfl rfl ?_
          refine endF ?_
          refine XF.thenN ?_
          refine condF rfl (fun hc => ?_) (fun hc => ?_)
          · have hc43 := of_decide_eq_true hc; clear hc
            have e4 : t = 4 := hc43
            subst e4
            obtain ⟨m, rfl, hm⟩ := dim3 hp (.inr rfl)
            obtain ⟨hpx, vx⟩ := hx.k4 hf
            obtain ⟨hpy, vy⟩ := hy.k4 hg
            refine seqF ?_
            refine regF ?_
            refine op_assign rfl rfl ?_
            refine endF ?_
            refine XF.thenN ?_
            refine blockF ?_
            refine loopF (fun q l W => ∃ (k : Nat) (v : Value), k ≤ m ∧ q = m - k ∧ l = [(3, .pointer (some ⟨B1, 0, none⟩)), (4, .pointer (some ⟨B2, 0, none⟩)), (5, .pointer (some ⟨B3, 0, none⟩)), (6, .pointer (some ⟨B4, 0, none⟩)), (7, .pointer (some ⟨B7, 0, none⟩)), (8, .int .i64 (k : Int))] ∧ St w [(B7, [.bool false, .int .i64 0, .int .u64 0, .slice none 0 0, v, .slice none 0 0], 48), (B4, [.bool false, .int .i64 0, .int .u64 0, .slice none 0 0, .slice none 0 0, .slice none 0 0], 48), (B3, [.bool g.z, .int .i64 g.c, .int .u64 (g.g : Int), .slice g.ra g.rl g.rc, .slice g.ca g.cl g.cc, .slice g.pa g.pl g.pc], 48), (B2, [.bool f.z, .int .i64 f.c, .int .u64 (f.g : Int), .slice f.ra f.rl f.rc, .slice f.ca f.cl f.cc, .slice f.pa f.pl f.pc], 48), (B1, [.int .i64 4, .int .i64 (m : Int), .slice sa 0 sc], 25)] [⟨v, k, flat ((thenC f.cells g.cells).take k), 89, 3⟩] [] W) (m - 0) ([(3, _), (4, _), (5, _), (6, _), (7, _), (8, _)]) ⟨rfl, rfl, rfl, rfl, rfl, rfl, trivial⟩ (⟨0, .slice none 0 0, Nat.zero_le _, rfl, rfl, hS.clear.newG _ _⟩) ?_
            clear hS
            rintro q l W ⟨k, v, hkm, rfl, rfl, hS⟩
            refine seqF ?_
            refine seqF ?_
            refine regF ?_
            refine op_move rfl rfl ?_
            refine op_field (o' := 1) fa_25_1 rfl rfl rfl ?_
            refine op_load Tryz.isAgg3 rfl (cell_own (hS.at_ 4 rfl) rfl) rfl ?_
            refine op_lss rfl rfl rfl ?_
            refine endF ?_
            refine XF.thenN ?_
            refine condF rfl (fun hc => ?_) (fun hc => ?_)
            · have hc48 := of_decide_eq_true hc; clear hc
              have hk : k < m := by omega
              have hlx := vx.len
              have hly := vy.len
              obtain ⟨ba, offa, y1, eca, hy1, hba, a0, a1, a2⟩ := (hy.at_.cells.below hS.below).at_ (k := k) (by omega)
              have k1 : CellsAt W ba (offa + k * 3) [.int .u64 (y1.f : Int), .int .i64 y1.k, .int .i64 y1.v] := ⟨a0, a1, a2, trivial⟩
              have h1 : (thenC f.cells g.cells)[k]? = some (ofC f.cells y1) := by unfold thenC; rw [List.getElem?_map, hy1]; rfl
              have hcl := hx.at_.cl
              have hclg := hy.at_.cl
              simp only [eca] at hS
              refine skipF ?_
              refine XF.thenN ?_
              refine seqF ?_
              refine blockF ?_
              refine regBP (p := 11) (k := 13) (gi := 0) (m := 1) followsM hS rfl rfl (by kernel_rfl) (by kernel_rfl) (by kernel_rfl) (fun d hd => by cases hd) rfl rfl Tryz.underlying45 inf_89 rfl rfl (by show 0 < 3; decide) rfl rfl rfl (by dsimp only; simp only [maxLen]; omega) (by dsimp only; show _ * 24 ≤ _; omega) ?_
              refine blp_v 1 rfl rfl (by kernel_rfl) (rgV (li := [(7, _)]) rfl (w_free rfl) ⟨g_fr (by kernel_rfl) rfl, trivial⟩ (fun w hw => rn_field (o' := 4) fa_48_3 rfl rfl) (at_top rfl)) ?_
              refine blp_v 2 rfl rfl (by kernel_rfl) (rgV (li := [(51, _)]) rfl (w_free rfl) ⟨g_dep 0 (by kernel_rfl) (at_dep rfl rfl rfl), trivial⟩ (fun w hw => rn_load Tryz.isAgg45 rfl ((below_agree hw 0).cell (Nat.zero_le _) (cell_own (hS.at_ 0 rfl) rfl))) (at_top rfl)) ?_
              refine blp_v 3 rfl rfl (by kernel_rfl) (rgV (li := [(4, _)]) rfl (w_free rfl) ⟨g_fr (by kernel_rfl) rfl, trivial⟩ (fun w hw => rn_field (o' := 4) fa_48_3 rfl rfl) (at_top rfl)) ?_
              refine blp_v 4 rfl rfl (by kernel_rfl) (rgV (li := [(53, _)]) rfl (w_free rfl) ⟨g_dep 2 (by kernel_rfl) (at_dep rfl rfl rfl), trivial⟩ (fun w hw => rn_load Tryz.isAgg45 rfl ((below_agree hw 0).cell (Nat.zero_le _) (cell_own (hS.at_ 3 rfl) rfl))) (at_top rfl)) ?_
              refine blp_v 5 rfl rfl (by kernel_rfl) (rgV (li := [(5, _)]) rfl (w_free rfl) ⟨g_fr (by kernel_rfl) rfl, trivial⟩ (fun w hw => rn_field (o' := 4) fa_48_3 rfl rfl) (at_top rfl)) ?_
              refine blp_v 6 rfl rfl (by kernel_rfl) (rgV (li := [(55, _)]) rfl (w_free rfl) ⟨g_dep 4 (by kernel_rfl) (at_dep rfl rfl rfl), trivial⟩ (fun w hw => rn_load Tryz.isAgg45 rfl ((below_agree hw 0).cell (Nat.zero_le _) (cell_own (hS.at_ 2 rfl) rfl))) (at_top rfl)) ?_
              refine blp_v 7 rfl rfl (by kernel_rfl) (rgV (li := [(8, _)]) rfl (w_free rfl) ⟨g_fr (by kernel_rfl) rfl, trivial⟩ (fun w hw => rn_move rfl) (at_top rfl)) ?_
              refine blp_v 8 rfl rfl (by kernel_rfl) (rgV (li := [(56, _), (57, _)]) rfl (w_free rfl) ⟨g_dep 5 (by kernel_rfl) (at_dep rfl rfl rfl), g_dep 6 (by kernel_rfl) (at_dep rfl rfl rfl), trivial⟩ (fun w hw => rn_indexA  Tryz.underlying45 Tryz.sizeOf89 rfl rfl rfl (by omega) rfl) (at_top rfl)) ?_
              refine blp_v 9 rfl rfl (by kernel_rfl) (rgV (li := [(58, _)]) rfl (w_free rfl) ⟨g_dep 7 (by kernel_rfl) (at_dep rfl rfl rfl), trivial⟩ (fun w hw => rn_loadA (vs := [_, _, _]) Tryz.isAgg89 Tryz.sizeOf89 rfl (CellsAt.agree (below_agree hw 0) (Nat.zero_le _) (by assumption))) (at_top rfl)) ?_
              refine blp_v 10 rfl rfl (by kernel_rfl) (rg_call [isV _, isV _] rfl goes_58 (w_free rfl) ⟨p_tmp (g_dep 3 (by kernel_rfl) (at_dep rfl rfl rfl)), p_tmp (g_dep 8 (by kernel_rfl) (at_dep rfl rfl rfl)), trivial⟩ (fun vs w' hb hh => by have e := holds_isV (us := [_, _]) hh; subst e; exact (behindR_is f.ca f.cc f.cl f.cells y1 _ hx.at_.cl (by omega) ((hx.at_.cells.below hS.below).below hb) vx.oks (vy.oks k y1 hy1)).mono fun e w2 h => ⟨_, h.1, rfl, h.2⟩) (at_top rfl)) ?_
              refine blp_q 11 rfl rfl (by kernel_rfl) (isRow W.heap.size 1 89 _) (stab_isRow) (rg_rowV (us := [.agg (List.toArray [_, _, _])]) rfl (w_free rfl) Tryz.underlying45 Tryz.sizeOf89 Tryz.zeroValue89 rfl rfl ⟨p_tmp (g_dep 9 (by kernel_rfl) (at_dep rfl rfl rfl)), trivial⟩ (bs_45_1 _ _ _) (at_top rfl)) ?_
              refine blp_app 12 rfl rfl ?_
              refine blp_late 13 rfl rfl (rgV (li := [(7, _)]) rfl (w_free rfl) ⟨g_fr (by kernel_rfl) rfl, trivial⟩ (fun w hw => rn_field (o' := 4) fa_48_3 rfl rfl) (at_top rfl)) (lgV (li := [(7, _)]) rfl (w_free rfl) ⟨g_fr (by kernel_rfl) rfl, trivial⟩ (fun w => rn_field (o' := 4) fa_48_3 rfl rfl) (at_top rfl) rfl) ?_
              refine blp_nil ⟨_, _, g_dep 1 (by kernel_rfl) (at_dep rfl rfl rfl), g_dep 10 (by kernel_rfl) (at_dep rfl rfl rfl), rowOf_isRow rfl rfl, ?_⟩
              intro A14 v14 news14 W14 hbR hqA14 hS'
              clear hS; have hS := hS'; clear hS'
              cases hqA14
              refine fin_v ?_
              refine fin_v ?_
              refine fin_v ?_
              refine fin_v ?_
              refine fin_v ?_
              refine fin_v ?_
              refine fin_v ?_
              refine fin_v ?_
              refine fin_v ?_
              refine fin_v ?_
              refine fin_p ?_; intro _ _
              refine fin_v ?_
              refine fin_v ?_
              obtain ⟨g9, c9, e9, _, _⟩ := (hS.row 0 rfl).form (by show 0 < k + 1; omega)
              dsimp only at e9
              subst e9
              refine fin_nil ?_
              refine op_store (i := 0) (cs' := [_, _, _, _, _, _]) (O' := [_, _, _, _, _]) hS Tryz.sizeOf45 rfl rfl rfl rfl rfl rfl rfl ?_
              clear hS; intro W15 hS
              refine endF ?_
              refine XF.blkN ?_
              refine XF.thenN ?_
              refine regF ?_
              refine op_move rfl rfl ?_
              refine op_add rfl rfl (IntWalk.i64_in _ (by omega)) rfl ?_
              refine op_assign rfl rfl ?_
              refine endF ?_
              simp only [← eca] at hS
              exact XF.round (m - (k + 1)) [(3, _), (4, _), (5, _), (6, _), (7, _), (8, _)] (by omega) ⟨rfl, rfl, rfl, rfl, rfl, rfl, trivial⟩ ⟨k + 1, _, by omega, rfl, rfl, by rw [flat_step h1]; exact hS.clear⟩
            · have hc48 := of_decide_eq_false hc; clear hc
              refine exitF ?_
              refine XF.thenX ?_
              refine XF.thenX ?_
              refine XF.blkX ?_
              refine XF.blkN ?_
              refine XF.thenN ?_
              refine seqF ?_
              obtain rfl : k = m := by omega
              have hrow := hS.row 0 rfl
              have hln : (thenC f.cells g.cells).length = k := by unfold thenC; rw [List.length_map]; exact vy.len
              have ht0 : (thenC f.cells g.cells).take k = thenC f.cells g.cells := List.take_of_length_le (by rw [hln]; exact Nat.le_refl _)
              simp only [ht0] at hrow
              obtain ⟨hn, a9, c9, rfl, _, _⟩ := crow_of_own hrow
              clear hrow
              refine regF ?_
              refine op_loadA (vs := [_, _, _, _, _, _]) Tryz.isAgg48 Tryz.sizeOf48 rfl (CellsAt.own (j := 0) (m := 6) (hS.at_ 0 rfl) rfl) rfl ?_
              refine op_storeA (i := 1) (vs := [_, _, _, _, _, _]) (cs' := [_, _, _, _, _, _]) (O' := [_, _, _, _, _]) hS Tryz.sizeOf48 rfl rfl rfl rfl rfl rfl rfl ?_
              clear hS; intro W16 hS
              refine endF ?_
              refine XF.thenN ?_
              refine retF ?_
              refine XF.res (resC1 (vs := [_, _, _, _, _, _]) Tryz.results41 Tryz.isAgg48 Tryz.sizeOf48 rfl (CellsAt.own (j := 0) (m := 6) (hS.at_ 1 rfl) rfl)) ?_
              have hrow := hS.row 0 rfl
              simp only [ht0] at hrow
              obtain ⟨_, a8, c8, e8, hr9, hf9⟩ := crow_of_own hrow
              cases e8
              refine ⟨cellsF a9 c9 (thenC f.cells g.cells), ?_, ext_f4C hx hy hf hg hr9 (fun ad e => (hf9 ad e).1), hS.below⟩
              show _ = Ending.returned (Value.agg #[.bool false, .int .i64 0, .int .u64 ((0 : Nat) : Int), .slice none 0 0, .slice a9 (thenC f.cells g.cells).length c9, .slice none 0 0])
              rw [hln]
              rfl
          · have hc43 := of_decide_eq_false hc; clear hc
            refine seqF ?_
            refine regF ?_
            refine op_eql rfl rfl rfl ?_
            refine op_assign rfl rfl ?_
            refine endF ?_
            refine XF.thenN ?_
            refine condF rfl (fun hc => absurd (of_decide_eq_true hc) (by exact plain_ne5 hp)) (fun hc => ?_)
            have hc := of_decide_eq_false hc
            refine skipF ?_
            refine XF.blkN ?_
            refine XF.thenN ?_
            refine seqF ?_
            refine regF ?_
            refine op_loadA (vs := [_, _, _, _, _, _]) Tryz.isAgg48 Tryz.sizeOf48 rfl (CellsAt.own (j := 0) (m := 6) (hS.at_ 0 rfl) rfl) rfl ?_
            refine op_storeA (i := 1) (vs := [_, _, _, _, _, _]) (cs' := [_, _, _, _, _, _]) (O' := [_, _, _, _, _]) hS Tryz.sizeOf48 rfl rfl rfl rfl rfl rfl rfl ?_
            clear hS; intro W17 hS
            refine endF ?_
            refine XF.thenN ?_
            refine retF ?_
            refine XF.res (resC1 (vs := [_, _, _, _, _, _]) Tryz.results41 Tryz.isAgg48 Tryz.sizeOf48 rfl (CellsAt.own (j := 0) (m := 6) (hS.at_ 1 rfl) rfl)) ?_
            have e1 : t = 1 := by
              have := (plainB_tag hp).2
              omega
            subst e1
            exact wret_one (ext_f1 hx hy hf hg) hS.below

set_option maxRecDepth 100000 in
set_option maxHeartbeats 4000000 in
theorem thenR_pair (t n u m : Int) (a1 a2 : Option Addr) (c1 c2 b off sc : Nat) (w : World) (hs1 : S3 w b off ⟨t, n, a1, 0, c1⟩) (hs2 : S3 w b (off + 3) ⟨u, m, a2, 0, c2⟩) (hp1 : plainB t n 0 = true) (hp2 : plainB u m 0 = true)(fra fca : Option Addr) (frc fcc fpc fb fo : Nat) (f1 f2 : WF) (x1 x2 : PF) (hf6 : W6 w fb fo f1) (hf7 : W6 w fb (fo + 6) f2) (hx1 : PIs w t n f1 x1) (hx2 : PIs w u m f2 x2)(gra gca : Option Addr) (grc gcc gpc gb go : Nat) (g1 g2 : WF) (y1 y2 : PF) (hg6 : W6 w gb go g1) (hg7 : W6 w gb (go + 6) g2) (hy1 : PIs w t n g1 y1) (hy2 : PIs w u m g2 y2) :
    Calls Tryz.prog 41 #[.agg #[.int .i64 5, .int .i64 0, .slice (some ⟨b, off, none⟩) 2 sc], .agg #[.bool false, .int .i64 0, .int .u64 0, .slice fra 0 frc, .slice fca 0 fcc, .slice (some ⟨fb, fo, none⟩) 2 fpc], .agg #[.bool false, .int .i64 0, .int .u64 0, .slice gra 0 grc, .slice gca 0 gcc, .slice (some ⟨gb, go, none⟩) 2 gpc]] w (WRet (.two t n u m) (.two (extP t n x1 y1) (extP u m x2 y2)) w) := by
  refine enterF (args := [.agg #[.int .i64 5, .int .i64 0, .slice (some ⟨b, off, none⟩) 2 sc], .agg #[.bool false, .int .i64 0, .int .u64 0, .slice fra 0 frc, .slice fca 0 fcc, .slice (some ⟨fb, fo, none⟩) 2 fpc], .agg #[.bool false, .int .i64 0, .int .u64 0, .slice gra 0 grc, .slice gca 0 gcc, .slice (some ⟨gb, go, none⟩) 2 gpc]]) Tryz.func41 rfl Tryz.ntmps41 rfl ?_
  have hS := St.start w
  refine seqF ?_
  refine regF ?_
  refine op_box (cs := [_, _, _]) hS rfl rfl rfl ?_
  clear hS; intro B1 W1 hS
  refine op_box (cs := [_, _, _, _, _, _]) hS rfl rfl rfl ?_
  clear hS; intro B2 W2 hS
  refine op_box (cs := [_, _, _, _, _, _]) hS rfl rfl rfl ?_
  clear hS; intro B3 W3 hS
  refine op_alloc (cs := [_, _, _, _, _, _]) hS Tryz.zeroValue48 rfl rfl ?_
  clear hS; intro B4 W4 hS
  refine endF ?_
  refine XF.thenN ?_
  refine seqF ?_
  refine seqF ?_
  refine regF ?_
  refine op_field (o' := 0) fa_48_0 rfl rfl rfl ?_
  refine op_load Tryz.isAgg4 rfl (cell_own (hS.at_ 2 rfl) rfl) rfl ?_
  refine op_move rfl rfl ?_
  refine op_cases (d := 11) rfl (fun hc => absurd hc (by decide)) (fun hc => ?_)
  skip
  refine op_wantedF (d := 11) rfl rfl ?_
  refine op_field (o' := 0) fa_48_0 rfl rfl rfl ?_
  refine op_wantedF (d := 11) rfl rfl ?_
  refine op_load Tryz.isAgg4 rfl (cell_own (hS.at_ 1 rfl) rfl) rfl ?_
  refine op_pickF rfl rfl rfl ?_
  refine endF ?_
  refine XF.thenN ?_
  refine condF rfl (fun hc => absurd hc (by decide)) (fun hc => ?_)
  skip
  refine skipF ?_
  refine XF.thenN ?_
  refine seqF ?_
  refine regF ?_
  refine op_build (us := []) rfl (bld_48) rfl ?_
  refine op_alloc (cs := [_, _, _, _, _, _]) hS Tryz.zeroValue48 rfl rfl ?_
  clear hS; intro B5 W5 hS
  refine op_storeA (i := 0) (vs := [_, _, _, _, _, _]) (cs' := [_, _, _, _, _, _]) (O' := [_, _, _, _, _]) hS Tryz.sizeOf48 rfl rfl rfl rfl rfl rfl rfl ?_
  clear hS; intro W6 hS
  refine endF ?_
  refine XF.thenN ?_
  refine seqF ?_
  refine seqF ?_
  refine regF ?_
  refine op_field (o' := 0) fa_25_0 rfl rfl rfl ?_
  refine op_load Tryz.isAgg22 rfl (cell_own (hS.at_ 4 rfl) rfl) rfl ?_
  refine endF ?_
  refine XF.thenN ?_
  refine blockF ?_
  refine seqF ?_
  refine regF ?_
  refine op_eql rfl rfl rfl ?_
  refine op_assign rfl rfl ?_
  refine endF ?_
  refine XF.thenN ?_
  refine condF rfl (fun hc => absurd (of_decide_eq_true hc) (by omega)) (fun hc => ?_)
  have hc := of_decide_eq_false hc
  refine seqF ?_
  refine regF ?_
  refine op_eql rfl rfl rfl ?_
  refine op_assign rfl rfl ?_
  refine endF ?_
  refine XF.thenN ?_
  refine condF rfl (fun hc => absurd (of_decide_eq_true hc) (by omega)) (fun hc => ?_)
  have hc := of_decide_eq_false hc
  refine seqF ?_
  refine regF ?_
  refine op_eql rfl rfl rfl ?_
  refine op_assign rfl rfl ?_
  refine endF ?_
  refine XF.thenN ?_
  refine condF rfl (fun hc => absurd (of_decide_eq_true hc) (by omega)) (fun hc => ?_)
  have hc := of_decide_eq_false hc
  refine seqF ?_
  refine regF ?_
  refine op_eql rfl rfl rfl ?_
  refine op_assign rfl rfl ?_
  refine endF ?_
  refine XF.thenN ?_
  refine condF rfl (fun hc => ?_) (fun hc => absurd (of_decide_eq_false hc) (by omega))
  have hc := of_decide_eq_true hc
  have hsz := hS.below.size
  have k1 := CellsAt.agree hS.agree (Nat.zero_le _) hs1.cells
  have k2 := CellsAt.agree hS.agree (Nat.zero_le _) hs2.cells
  have kf1 := CellsAt.agree hS.agree (Nat.zero_le _) hf6.cells
  have kf2 := CellsAt.agree hS.agree (Nat.zero_le _) hf7.cells
  have kg1 := CellsAt.agree hS.agree (Nat.zero_le _) hg6.cells
  have kg2 := CellsAt.agree hS.agree (Nat.zero_le _) hg7.cells
  refine regBK followsM 28 hS rfl rfl (by kernel_rfl) (by kernel_rfl) (by kernel_rfl) (fun d hd => by cases hd) ?_
  refine bl_cons 1 rfl (isV _) (stab_isV _) (rgV (li := [(3, _)]) rfl (w_free rfl) ⟨g_fr (by kernel_rfl) rfl, trivial⟩ (fun w hw => rn_field (o' := 2) fa_25_2 rfl rfl) (at_top rfl)) ?_
  refine bl_cons 2 rfl (isV _) (stab_isV _) (rgV (li := [(66, _)]) rfl (w_free rfl) ⟨g_dep 0 (by kernel_rfl) (at_dep rfl rfl rfl), trivial⟩ (fun w hw => rn_load Tryz.isAgg23 rfl ((below_agree hw 0).cell (Nat.zero_le _) (cell_own (hS.at_ 4 rfl) rfl))) (at_top rfl)) ?_
  refine bl_cons 3 rfl (isV _) (stab_isV _) (rgV (li := [(67, _)]) rfl (w_free rfl) ⟨g_dep 1 (by kernel_rfl) (at_dep rfl rfl rfl), trivial⟩ (fun w hw => rn_indexA (j := 0) Tryz.underlying23 Tryz.sizeOf25 rfl rfl rfl (by omega) (Nat.add_zero _)) (at_top rfl)) ?_
  refine bl_cons 4 rfl (isV _) (stab_isV _) (rgV (li := [(68, _)]) rfl (w_free rfl) ⟨g_dep 2 (by kernel_rfl) (at_dep rfl rfl rfl), trivial⟩ (fun w hw => rn_loadA (vs := [_, _, _]) Tryz.isAgg25 Tryz.sizeOf25 rfl (CellsAt.agree (below_agree hw 0) (Nat.zero_le _) (by assumption))) (at_top rfl)) ?_
  refine bl_cons 5 rfl (isV _) (stab_isV _) (rgV (li := [(4, _)]) rfl (w_free rfl) ⟨g_fr (by kernel_rfl) rfl, trivial⟩ (fun w hw => rn_field (o' := 5) fa_48_4 rfl rfl) (at_top rfl)) ?_
  refine bl_cons 6 rfl (isV _) (stab_isV _) (rgV (li := [(70, _)]) rfl (w_free rfl) ⟨g_dep 4 (by kernel_rfl) (at_dep rfl rfl rfl), trivial⟩ (fun w hw => rn_load Tryz.isAgg46 rfl ((below_agree hw 0).cell (Nat.zero_le _) (cell_own (hS.at_ 3 rfl) rfl))) (at_top rfl)) ?_
  refine bl_cons 7 rfl (isV _) (stab_isV _) (rgV (li := [(71, _)]) rfl (w_free rfl) ⟨g_dep 5 (by kernel_rfl) (at_dep rfl rfl rfl), trivial⟩ (fun w hw => rn_indexA (j := 0) Tryz.underlying46 Tryz.sizeOf48 rfl rfl rfl (by omega) (Nat.add_zero _)) (at_top rfl)) ?_
  refine bl_cons 8 rfl (isV _) (stab_isV _) (rgV (li := [(72, _)]) rfl (w_free rfl) ⟨g_dep 6 (by kernel_rfl) (at_dep rfl rfl rfl), trivial⟩ (fun w hw => rn_loadA (vs := [_, _, _, _, _, _]) Tryz.isAgg48 Tryz.sizeOf48 rfl (CellsAt.agree (below_agree hw 0) (Nat.zero_le _) (by assumption))) (at_top rfl)) ?_
  refine bl_cons 9 rfl (isV _) (stab_isV _) (rgV (li := [(5, _)]) rfl (w_free rfl) ⟨g_fr (by kernel_rfl) rfl, trivial⟩ (fun w hw => rn_field (o' := 5) fa_48_4 rfl rfl) (at_top rfl)) ?_
  refine bl_cons 10 rfl (isV _) (stab_isV _) (rgV (li := [(74, _)]) rfl (w_free rfl) ⟨g_dep 8 (by kernel_rfl) (at_dep rfl rfl rfl), trivial⟩ (fun w hw => rn_load Tryz.isAgg46 rfl ((below_agree hw 0).cell (Nat.zero_le _) (cell_own (hS.at_ 2 rfl) rfl))) (at_top rfl)) ?_
  refine bl_cons 11 rfl (isV _) (stab_isV _) (rgV (li := [(75, _)]) rfl (w_free rfl) ⟨g_dep 9 (by kernel_rfl) (at_dep rfl rfl rfl), trivial⟩ (fun w hw => rn_indexA (j := 0) Tryz.underlying46 Tryz.sizeOf48 rfl rfl rfl (by omega) (Nat.add_zero _)) (at_top rfl)) ?_
  refine bl_cons 12 rfl (isV _) (stab_isV _) (rgV (li := [(76, _)]) rfl (w_free rfl) ⟨g_dep 10 (by kernel_rfl) (at_dep rfl rfl rfl), trivial⟩ (fun w hw => rn_loadA (vs := [_, _, _, _, _, _]) Tryz.isAgg48 Tryz.sizeOf48 rfl (CellsAt.agree (below_agree hw 0) (Nat.zero_le _) (by assumption))) (at_top rfl)) ?_
  refine bl_cons 13 rfl (isNew W6.heap.size (.one t n) (.one (extP t n x1 y1))) (stab_isNew) (rg_call [isV _, isV _, isV _] rfl goes_41 (w_free rfl) ⟨p_tmp (g_dep 3 (by kernel_rfl) (at_dep rfl rfl rfl)), p_tmp (g_dep 7 (by kernel_rfl) (at_dep rfl rfl rfl)), p_tmp (g_dep 11 (by kernel_rfl) (at_dep rfl rfl rfl)), trivial⟩ (fun vs w' hb hh => by have e := holds_isV (us := [_, _, _]) hh; subst e; exact wret_gives hb.size (thenR_plain _ _ _ _ _ _ _ _ _ hp1 (hx1.below (hS.below.trans (hb.mono hS.below.size))) (hy1.below (hS.below.trans (hb.mono hS.below.size))))) (at_top rfl)) ?_
  refine bl_cons 14 rfl (isV _) (stab_isV _) (rgV (li := [(3, _)]) rfl (w_free rfl) ⟨g_fr (by kernel_rfl) rfl, trivial⟩ (fun w hw => rn_field (o' := 2) fa_25_2 rfl rfl) (at_top rfl)) ?_
  refine bl_cons 15 rfl (isV _) (stab_isV _) (rgV (li := [(79, _)]) rfl (w_free rfl) ⟨g_dep 13 (by kernel_rfl) (at_dep rfl rfl rfl), trivial⟩ (fun w hw => rn_load Tryz.isAgg23 rfl ((below_agree hw 0).cell (Nat.zero_le _) (cell_own (hS.at_ 4 rfl) rfl))) (at_top rfl)) ?_
  refine bl_cons 16 rfl (isV _) (stab_isV _) (rgV (li := [(80, _)]) rfl (w_free rfl) ⟨g_dep 14 (by kernel_rfl) (at_dep rfl rfl rfl), trivial⟩ (fun w hw => rn_indexA (j := 1) Tryz.underlying23 Tryz.sizeOf25 rfl rfl rfl (by omega) rfl) (at_top rfl)) ?_
  refine bl_cons 17 rfl (isV _) (stab_isV _) (rgV (li := [(81, _)]) rfl (w_free rfl) ⟨g_dep 15 (by kernel_rfl) (at_dep rfl rfl rfl), trivial⟩ (fun w hw => rn_loadA (vs := [_, _, _]) Tryz.isAgg25 Tryz.sizeOf25 rfl (CellsAt.agree (below_agree hw 0) (Nat.zero_le _) (by assumption))) (at_top rfl)) ?_
  refine bl_cons 18 rfl (isV _) (stab_isV _) (rgV (li := [(4, _)]) rfl (w_free rfl) ⟨g_fr (by kernel_rfl) rfl, trivial⟩ (fun w hw => rn_field (o' := 5) fa_48_4 rfl rfl) (at_top rfl)) ?_
  refine bl_cons 19 rfl (isV _) (stab_isV _) (rgV (li := [(83, _)]) rfl (w_free rfl) ⟨g_dep 17 (by kernel_rfl) (at_dep rfl rfl rfl), trivial⟩ (fun w hw => rn_load Tryz.isAgg46 rfl ((below_agree hw 0).cell (Nat.zero_le _) (cell_own (hS.at_ 3 rfl) rfl))) (at_top rfl)) ?_
  refine bl_cons 20 rfl (isV _) (stab_isV _) (rgV (li := [(84, _)]) rfl (w_free rfl) ⟨g_dep 18 (by kernel_rfl) (at_dep rfl rfl rfl), trivial⟩ (fun w hw => rn_indexA (j := 1) Tryz.underlying46 Tryz.sizeOf48 rfl rfl rfl (by omega) rfl) (at_top rfl)) ?_
  refine bl_cons 21 rfl (isV _) (stab_isV _) (rgV (li := [(85, _)]) rfl (w_free rfl) ⟨g_dep 19 (by kernel_rfl) (at_dep rfl rfl rfl), trivial⟩ (fun w hw => rn_loadA (vs := [_, _, _, _, _, _]) Tryz.isAgg48 Tryz.sizeOf48 rfl (CellsAt.agree (below_agree hw 0) (Nat.zero_le _) (by assumption))) (at_top rfl)) ?_
  refine bl_cons 22 rfl (isV _) (stab_isV _) (rgV (li := [(5, _)]) rfl (w_free rfl) ⟨g_fr (by kernel_rfl) rfl, trivial⟩ (fun w hw => rn_field (o' := 5) fa_48_4 rfl rfl) (at_top rfl)) ?_
  refine bl_cons 23 rfl (isV _) (stab_isV _) (rgV (li := [(87, _)]) rfl (w_free rfl) ⟨g_dep 21 (by kernel_rfl) (at_dep rfl rfl rfl), trivial⟩ (fun w hw => rn_load Tryz.isAgg46 rfl ((below_agree hw 0).cell (Nat.zero_le _) (cell_own (hS.at_ 2 rfl) rfl))) (at_top rfl)) ?_
  refine bl_cons 24 rfl (isV _) (stab_isV _) (rgV (li := [(88, _)]) rfl (w_free rfl) ⟨g_dep 22 (by kernel_rfl) (at_dep rfl rfl rfl), trivial⟩ (fun w hw => rn_indexA (j := 1) Tryz.underlying46 Tryz.sizeOf48 rfl rfl rfl (by omega) rfl) (at_top rfl)) ?_
  refine bl_cons 25 rfl (isV _) (stab_isV _) (rgV (li := [(89, _)]) rfl (w_free rfl) ⟨g_dep 23 (by kernel_rfl) (at_dep rfl rfl rfl), trivial⟩ (fun w hw => rn_loadA (vs := [_, _, _, _, _, _]) Tryz.isAgg48 Tryz.sizeOf48 rfl (CellsAt.agree (below_agree hw 0) (Nat.zero_le _) (by assumption))) (at_top rfl)) ?_
  refine bl_cons 26 rfl (isNew W6.heap.size (.one u m) (.one (extP u m x2 y2))) (stab_isNew) (rg_call [isV _, isV _, isV _] rfl goes_41 (w_free rfl) ⟨p_tmp (g_dep 16 (by kernel_rfl) (at_dep rfl rfl rfl)), p_tmp (g_dep 20 (by kernel_rfl) (at_dep rfl rfl rfl)), p_tmp (g_dep 24 (by kernel_rfl) (at_dep rfl rfl rfl)), trivial⟩ (fun vs w' hb hh => by have e := holds_isV (us := [_, _, _]) hh; subst e; exact wret_gives hb.size (thenR_plain _ _ _ _ _ _ _ _ _ hp2 (hx2.below (hS.below.trans (hb.mono hS.below.size))) (hy2.below (hS.below.trans (hb.mono hS.below.size))))) (at_top rfl)) ?_
  refine bl_cons 27 rfl (isPairRow W6.heap.size (.two t n u m) (.two (extP t n x1 y1) (extP u m x2 y2))) (stab_isPairRow) (rg_pairRow rfl (w_free rfl) ⟨p_tmp (g_dep 12 (by kernel_rfl) (at_dep rfl rfl rfl)), p_tmp (g_dep 25 (by kernel_rfl) (at_dep rfl rfl rfl)), trivial⟩ (at_top rfl)) ?_
  refine bl_cons 28 rfl (isV _) (stab_isV _) (rgV (li := [(7, _)]) rfl (w_free rfl) ⟨g_fr (by kernel_rfl) rfl, trivial⟩ (fun w hw => rn_field (o' := 5) fa_48_4 rfl rfl) (at_top rfl)) ?_
  refine bl_nil ?_
  intro W7 hbR hS'
  clear hS; have hS := hS'; clear hS'
  refine fin_v ?_
  refine fin_v ?_
  refine fin_v ?_
  refine fin_v ?_
  refine fin_v ?_
  refine fin_v ?_
  refine fin_v ?_
  refine fin_v ?_
  refine fin_v ?_
  refine fin_v ?_
  refine fin_v ?_
  refine fin_v ?_
  refine fin_p ?_; rintro _ ⟨v1, rfl, hn1⟩
  refine fin_v ?_
  refine fin_v ?_
  refine fin_v ?_
  refine fin_v ?_
  refine fin_v ?_
  refine fin_v ?_
  refine fin_v ?_
  refine fin_v ?_
  refine fin_v ?_
  refine fin_v ?_
  refine fin_v ?_
  refine fin_v ?_
  refine fin_p ?_; rintro _ ⟨v2, rfl, hn2⟩
  refine fin_p ?_; rintro _ ⟨b9, rfl, hn9⟩
  refine fin_v ?_
  refine fin_nil ?_
  refine op_store (i := 0) (cs' := [_, _, _, _, _, _]) (O' := [_, _, _, _, _]) hS Tryz.sizeOf46 rfl rfl rfl rfl rfl rfl rfl ?_
  clear hS; intro W8 hS
  refine endF ?_
  refine XF.blkN ?_
  refine XF.thenN ?_
  refine seqF ?_
  refine regF ?_
  refine op_loadA (vs := [_, _, _, _, _, _]) Tryz.isAgg48 Tryz.sizeOf48 rfl (CellsAt.own (j := 0) (m := 6) (hS.at_ 0 rfl) rfl) rfl ?_
  refine op_storeA (i := 1) (vs := [_, _, _, _, _, _]) (cs' := [_, _, _, _, _, _]) (O' := [_, _, _, _, _]) hS Tryz.sizeOf48 rfl rfl rfl rfl rfl rfl rfl ?_
  clear hS; intro W9 hS
  refine endF ?_
  refine XF.thenN ?_
  refine retF ?_
  refine XF.res (resC1 (vs := [_, _, _, _, _, _]) Tryz.results41 Tryz.isAgg48 Tryz.sizeOf48 rfl (CellsAt.own (j := 0) (m := 6) (hS.at_ 1 rfl) rfl)) ?_
  exact ⟨pairF b9, rfl, (hn9.agree (hS.since 0 rfl)).mono hsz, hS.below⟩

theorem thenR_ok {S : PS} {sf : SF} {f g : WF} {x y : PX} {w : World} (hs : SIs w S sf) (hok : S.ok) (hx : XIs w S f x) (hy : XIs w S g y) : Calls Tryz.prog 41 #[sf.val, f.val, g.val] w (WRet S (extX S x y) w) := by
  cases S <;> cases x <;> cases y <;> first | exact hx.elim | exact hy.elim | skip
  · obtain ⟨a, c, rfl⟩ := hs
    exact thenR_plain _ _ _ _ _ _ _ _ _ hok hx hy
  · obtain ⟨b, off, c, a1, c1, a2, c2, rfl, h1, h2⟩ := hs
    obtain ⟨ra, ca, rc, cc, pc, fb, fo, f1, f2, rfl, h6, h7, h8, h9⟩ := hx.two
    obtain ⟨ra', ca', rc', cc', pc', gb, go, g1, g2, rfl, h6', h7', h8', h9'⟩ := hy.two
    exact thenR_pair _ _ _ _ _ _ _ _ _ _ _ _ h1 h2 hok.1 hok.2 _ _ _ _ _ _ _ _ _ _ _ h6 h7 h8 h9 _ _ _ _ _ _ _ _ _ _ _ h6' h7' h8' h9'
end Go.Proofs.YtfkbkekgnoanaaaGreatDoor
